/- Channel: rows that lie anywhere in a block of their own: written over, cut, grown at the end. -/
import Derived.Test.YtfnmfmelcghjbaaOwA
import Derived.Test.YtfnmfmelcghjbaaRtA
import Derived.Lib.SliceRun
namespace Go.Cw
open Go.RowKit Go.Lib Go.Ow
set_option linter.unusedVariables false
set_option linter.unusedSimpArgs false

/-- All stays but for blocks p and q. -/
structure Xr (p q : Nat) (w w' : World) : Prop where
  os : w'.os = w.os
  tape : w'.tape = w.tape
  output : w'.output = w.output
  size : w.heap.size ≤ w'.heap.size
  block : ∀ j, j < w.heap.size → j ≠ p → j ≠ q → w'.heap[j]? = w.heap[j]?
theorem Xr.refl (p q : Nat) (w : World) : Xr p q w w := ⟨rfl, rfl, rfl, Nat.le_refl _, fun _ _ _ _ => rfl⟩
theorem Xr.of_below {p q : Nat} {w w' : World} (h : Below w.heap.size w w') : Xr p q w w' := ⟨h.os, h.tape, h.output, h.size, fun j hj _ _ => h.block j hj⟩
theorem Xr.trans {p q q2 : Nat} {a b c : World} (h : Xr p q a b) (k : Xr p q2 b c) (hq : q2 = q ∨ a.heap.size ≤ q2) : Xr p q a c :=
  ⟨k.os.trans h.os, k.tape.trans h.tape, k.output.trans h.output, Nat.le_trans h.size k.size, fun j hj hp hn => (k.block j (Nat.lt_of_lt_of_le hj h.size) hp (by omega)).trans (h.block j hj hp hn)⟩
theorem Xr.below {p q B : Nat} {a b : World} (h : Xr p q a b) (hp : B ≤ p) (hq : B ≤ q) (hB : B ≤ a.heap.size) : Below B a b := ⟨h.os, h.tape, h.output, h.size, fun j hj => h.block j (by omega) (by omega) (by omega)⟩
theorem Xr.setCell {p q : Nat} {a b : World} (h : Xr p q a b) {x o : Nat} (hx : x = p ∨ x = q) (u : Value) : Xr p q a (b.setCell ⟨x, o, none⟩ u) :=
  ⟨h.os, h.tape, h.output, by simpa [World.setCell] using h.size, fun j hj hp hq => (Below.heap_setCell _ _ _ _ (by show j ≠ x; omega)).trans (h.block j hj hp hq)⟩
theorem Xr.setCells {p q : Nat} {a b : World} (h : Xr p q a b) {x o : Nat} (hx : x = p ∨ x = q) (vs : List Value) : Xr p q a (b.setCells x o vs) := by
  obtain ⟨f1, f2, f3⟩ := setCells_frame x vs o b
  exact ⟨f1.trans h.os, f2.trans h.tape, f3.trans h.output, by rw [setCells_size]; exact h.size, fun j hj hp hq => (setCells_other x vs o b j (by omega)).trans (h.block j hj hp hq)⟩
theorem Xr.drew {p q : Nat} {a b : World} (h : Xr p q a b) : Xr p q a b.drew := ⟨h.os, h.tape, h.output, h.size, h.block⟩
/-- A row of n elements of k cells, in block r: no room at all, or somewhere in it, with room up to the block's end. -/
def Rw (w : World) (r : Nat) (T : TypeId) (k : Nat) (v : Value) (n : Nat) (xs : List Value) : Prop :=
  (n = 0 ∧ xs = [] ∧ ∃ a, v = .slice a 0 0) ∨ ∃ o cap cur, v = .slice (some ⟨r, o, none⟩) n cap ∧ w.heap[r]? = some (.cells cur T (0, 0)) ∧ n ≤ cap ∧ cap ≤ maxLen ∧ cur.size = o + cap * k ∧ (cur.toList.drop o).take (n * k) = xs
theorem Rw.len {w : World} {r : Nat} {T : TypeId} {k : Nat} {v : Value} {n : Nat} {xs : List Value} (h : Rw w r T k v n xs) : xs.length = n * k := by
  rcases h with ⟨rfl, rfl, -⟩ | ⟨o, cap, cur, -, -, hc, -, hs, rfl⟩
  · simp
  · have := Nat.mul_le_mul_right k hc
    rw [List.length_take, List.length_drop, Array.length_toList]; omega
theorem Rw.slice {w : World} {r : Nat} {T : TypeId} {k : Nat} {v : Value} {n : Nat} {xs : List Value} (h : Rw w r T k v n xs) : ∃ a c, v = .slice a n c := by
  rcases h with ⟨rfl, -, a, rfl⟩ | ⟨o, cap, cur, rfl, -⟩ <;> exact ⟨_, _, rfl⟩
theorem Rw.keep {w w' : World} {r : Nat} {T : TypeId} {k : Nat} {v : Value} {n : Nat} {xs : List Value} (h : Rw w r T k v n xs) (hk : ∀ cur, w.heap[r]? = some (.cells cur T (0, 0)) → w'.heap[r]? = w.heap[r]?) : Rw w' r T k v n xs := by
  rcases h with h | ⟨o, cap, cur, h1, h2, h3⟩
  · exact Or.inl h
  · exact Or.inr ⟨o, cap, cur, h1, (hk cur h2).trans h2, h3⟩
theorem Rw.below {w w' : World} {r : Nat} {T : TypeId} {k : Nat} {v : Value} {n : Nat} {xs : List Value} (h : Rw w r T k v n xs) (hb : Below w.heap.size w w') : Rw w' r T k v n xs :=
  h.keep (fun cur hc => hb.block r (Array.getElem?_eq_some_iff.1 hc).1)
/-- A row that is there. -/
theorem Rw.at {w : World} {r : Nat} {T : TypeId} {k : Nat} {v : Value} {n : Nat} {xs : List Value} (h : Rw w r T k v n xs) (hn : 0 < n) : ∃ o cap, v = .slice (some ⟨r, o, none⟩) n cap ∧ n ≤ cap ∧ r < w.heap.size ∧ (∃ cur, w.heap[r]? = some (.cells cur T (0, 0))) ∧ w.rangeAt r o xs ∧ w.there r o (n * k) ∧ cap ≤ maxLen := by
  have hl := h.len
  rcases h with ⟨rfl, -⟩ | ⟨o, cap, cur, rfl, hr, hc, hm, hs, hx⟩
  · omega
  have hck := Nat.mul_le_mul_right k hc
  refine ⟨o, cap, rfl, hc, (Array.getElem?_eq_some_iff.1 hr).1, ⟨cur, hr⟩, fun j u hj => ?_, fun j hj => ⟨?_, frozen_of_row w r _ cur _ hr⟩, hm⟩
  · rw [cell_of_row w r _ cur _ (0, 0) hr, ← Array.getElem?_toList]
    rw [← hx, List.getElem?_take] at hj
    split at hj
    · rw [List.getElem?_drop] at hj; exact hj
    · cases hj
  · rw [cell_of_row w r _ cur _ (0, 0) hr, Array.getElem?_eq_getElem (by omega)]; rfl
/-- Written over within. -/
theorem Rw.over {w : World} {r o : Nat} {T : TypeId} {k cap n : Nat} {xs : List Value} (h : Rw w r T k (.slice (some ⟨r, o, none⟩) n cap) n xs) (hn : 0 < n) (j : Nat) (vs : List Value) (hj : j + vs.length ≤ n * k) :
    Rw (w.setCells r (o + j) vs) r T k (.slice (some ⟨r, o, none⟩) n cap) n (xs.take j ++ vs ++ xs.drop (j + vs.length)) := by
  have hl := h.len
  rcases h with ⟨rfl, -⟩ | ⟨o', cap', cur, hv, hr, hc, hm, hs, hx⟩
  · omega
  simp only [Value.slice.injEq, Option.some.injEq, Addr.mk.injEq, and_true, true_and] at hv
  obtain ⟨rfl, rfl⟩ := hv
  have hck := Nat.mul_le_mul_right k hc
  obtain ⟨cur', h1, h2, h3⟩ := setCells_block r vs (o + j) w cur hr (by omega)
  refine Or.inr ⟨o, cap, cur', rfl, h1, hc, hm, by omega, ?_⟩
  apply List.ext_getElem?
  intro i
  rw [List.getElem?_take, List.getElem?_drop, h3 (o + i)]
  by_cases c1 : i < j
  · rw [if_pos (by omega), if_neg (by omega), List.append_assoc, List.getElem?_append_left (by rw [List.length_take]; omega), List.getElem?_take, if_pos c1, ← hx, List.getElem?_take, if_pos (by omega), List.getElem?_drop]
  · by_cases c2 : i < j + vs.length
    · rw [if_pos (by omega), if_pos (by omega), List.append_assoc, List.getElem?_append_right (by rw [List.length_take]; omega), List.length_take, Nat.min_eq_left (by omega), List.getElem?_append_left (by omega)]
      congr 1; omega
    · by_cases c3 : i < n * k
      · rw [if_pos c3, if_neg (by omega), List.getElem?_append_right (by rw [List.length_append, List.length_take]; omega), List.length_append, List.length_take, Nat.min_eq_left (by omega), List.getElem?_drop, ← hx, List.getElem?_take, if_pos (by omega), List.getElem?_drop]
        congr 1; omega
      · rw [if_neg c3, eq_comm, List.getElem?_eq_none]
        simp only [List.length_append, List.length_take, List.length_drop]; omega
/-- One cell written. -/
theorem Rw.set {w : World} {r o : Nat} {T : TypeId} {k cap n : Nat} {xs : List Value} (h : Rw w r T k (.slice (some ⟨r, o, none⟩) n cap) n xs) (hn : 0 < n) (j : Nat) (u : Value) (hj : j < n * k) :
    Rw (w.setCell ⟨r, o + j, none⟩ u) r T k (.slice (some ⟨r, o, none⟩) n cap) n (xs.set j u) := by
  have h1 := h.over hn j [u] (by simpa using (show j + 1 ≤ n * k from hj))
  have hl := h.len
  rw [List.set_eq_take_append_cons_drop, if_pos (by omega)]
  simpa [World.setCells] using h1
/-- The first m. -/
theorem Rw.left {w : World} {r o : Nat} {T : TypeId} {k cap n : Nat} {xs : List Value} (h : Rw w r T k (.slice (some ⟨r, o, none⟩) n cap) n xs) (hn : 0 < n) {m : Nat} (hm : m ≤ n) : Rw w r T k (.slice (some ⟨r, o, none⟩) m cap) m (xs.take (m * k)) := by
  rcases h with ⟨rfl, -⟩ | ⟨o', cap', cur, hv, hr, hc, hm2, hs, hx⟩
  · omega
  simp only [Value.slice.injEq, Option.some.injEq, Addr.mk.injEq, and_true, true_and] at hv
  obtain ⟨rfl, rfl⟩ := hv
  have hck := Nat.mul_le_mul_right k hm
  exact Or.inr ⟨o, cap, cur, rfl, hr, by omega, hm2, hs, by rw [← hx, List.take_take, Nat.min_eq_left hck]⟩
/-- All but the first i. -/
theorem Rw.right {w : World} {r o : Nat} {T : TypeId} {k cap n : Nat} {xs : List Value} (h : Rw w r T k (.slice (some ⟨r, o, none⟩) n cap) n xs) (hn : 0 < n) {i : Nat} (hi : i ≤ n) : Rw w r T k (.slice (some ⟨r, o + i * k, none⟩) (n - i) (cap - i)) (n - i) (xs.drop (i * k)) := by
  have hl := h.len
  rcases h with ⟨rfl, -⟩ | ⟨o', cap', cur, hv, hr, hc, hm2, hs, hx⟩
  · omega
  simp only [Value.slice.injEq, Option.some.injEq, Addr.mk.injEq, and_true, true_and] at hv
  obtain ⟨rfl, rfl⟩ := hv
  have e1 : i * k + (cap - i) * k = cap * k := by rw [← Nat.add_mul]; congr 1; omega
  have e2 : i * k + (n - i) * k = n * k := by rw [← Nat.add_mul]; congr 1; omega
  refine Or.inr ⟨o + i * k, cap - i, cur, rfl, hr, by omega, by omega, by omega, ?_⟩
  rw [← hx, List.drop_take, List.drop_drop]
  congr 1
  omega
theorem Xr.grow {r : Nat} {w : World} (p : Nat) (o : Obj) : Xr p r w (w.drew.alloc o) := Xr.of_below (((Below.refl w.heap.size w).drew).alloc (Nat.le_refl _) o)
/-- One element more at the end. -/
theorem rw_app {P : Program} {w : World} {r k bytes n vb : Nat} {T TS : TypeId} {v : Value} {z : Value} {xs vs : List Value} (hu : P.underlying TS = some (.slice T)) (hinfo : (P.info? T).map (fun i => (i.zero, i.size, i.bytes)) = some (some z, k, bytes)) (hz : z.cells.size = k)
    (hrw : Rw w r T k v n xs) (hvb : w.heap[vb]? = some (.cells vs.toArray T (0, 0))) (hvl : vs.length = k) (h1v : ∀ v ∈ vs, v.oneCell' = true) (hfit : (n + 1) * bytes ≤ 140737488355328) (hn : n < 4611686018427387904) (p : Nat) :
    ∃ v' w' r', (∀ ty, (Builtin.append_ #[TS, TS] ty #[v, .slice (some ⟨vb, 0, none⟩) 1 1]).run P w = .ok v' w') ∧ Rw w' r' T k v' (n + 1) (xs ++ vs) ∧ (r' = r ∨ w.heap.size ≤ r') ∧ Xr p r w w' ∧ (∀ (j : Nat) (cs : Array Value) (t : TypeId) (fz : Nat × Nat), w.heap[j]? = some (.cells cs t fz) → t ≠ T → w'.heap[j]? = w.heap[j]?) := by
  have hxl := hrw.len
  obtain ⟨i0, hi0, hz0, hzs, hzb⟩ := info_parts hinfo
  have hvr : ∀ j u, vs[j]? = some u → w.cell? ⟨vb, j, none⟩ = some u := fun j u hj => by rw [cell_of_row w vb j _ _ (0, 0) hvb]; simpa using hj
  have hsrc : Src P k TS (.slice (some ⟨vb, 0, none⟩) 1 1) 1 vs w := Src.ofSlice w hu ⟨vb, 0, none⟩ 1 1 vs (by rw [hvl, Nat.one_mul]) (fun j u hj => by rw [Addr.add_lit, Nat.zero_add]; exact hvr j u hj) h1v
  have hml : n + 1 ≤ maxLen := by unfold maxLen; omega
  have GROW : ∀ (a : Option Addr) (c : Nat), v = .slice a n c → c < n + 1 → (Builtin.firstCells i0.size n (.slice a n c)).run P w.drew = .ok xs.toArray w.drew → ∃ v' w' r', (∀ ty, (Builtin.append_ #[TS, TS] ty #[v, .slice (some ⟨vb, 0, none⟩) 1 1]).run P w = .ok v' w') ∧ Rw w' r' T k v' (n + 1) (xs ++ vs) ∧ (r' = r ∨ w.heap.size ≤ r') ∧ Xr p r w w' ∧ (∀ (j : Nat) (cs : Array Value) (t : TypeId) (fz : Nat × Nat), w.heap[j]? = some (.cells cs t fz) → t ≠ T → w'.heap[j]? = w.heap[j]?) := fun a c hv hc hold => by
    subst hv
    refine ⟨_, _, w.heap.size, fun ty => run_append_grow_src w TS TS ty T i0 _ hu hi0 hz0 a n c xs hold _ 1 vs (by rw [hzs]; exact hsrc) hc (by unfold maxLen at hml; omega) (by rw [hzb]; exact growslice_fits hc hfit), ?_, Or.inr (Nat.le_refl _), Xr.grow p _, fun j cs t fz hj _ => (((Below.refl w.heap.size w).drew).alloc (Nat.le_refl _) _).block j (Array.getElem?_eq_some_iff.1 hj).1⟩
    rcases own_grown (base := 0) (e := T) (Nat.zero_le w.heap.size) hxl hvl hz (grownCap_ge w (n + 1) c T) (grownCap_le_maxLen w (n + 1) c T hml) with ⟨h0, -⟩ | ⟨g, cap, cur, e1, -, h2, h3, h4, h5, h6⟩
    · omega
    · simp only [Value.slice.injEq, Option.some.injEq, Addr.mk.injEq, and_true, true_and] at e1
      obtain ⟨rfl, rfl⟩ := e1
      exact Or.inr ⟨0, _, cur, rfl, h2, h3, h4, by rw [h5]; omega, by rw [List.drop_zero]; exact h6⟩
  rcases hrw with ⟨rfl, rfl, a, rfl⟩ | ⟨o, cap, cur, rfl, hr, hc, hm, hs, hx⟩
  · exact GROW a 0 rfl (by omega) (by
      rw [hzs]
      cases a with
      | none => exact run_firstCells_none w.drew k 0 0 0
      | some a => exact run_firstCells_some w.drew k 0 a 0 0 [] (by simp) (fun j v hj => by simp at hj))
  · have hck := Nat.mul_le_mul_right k hc
    by_cases hroom : n + 1 ≤ cap
    · have hk1 : (n + 1) * k = n * k + k := Nat.succ_mul _ _
      have hrk := Nat.mul_le_mul_right k hroom
      have h := fun ty => run_append_room_src (P := P) w TS TS ty T i0 hu hi0 r o n cap (.slice (some ⟨vb, 0, none⟩) 1 1) 1 vs (by rw [hzs]; exact hsrc) hroom
        (fun j hj => by rw [hzs, cell_of_row w r _ cur _ (0, 0) hr, Array.getElem?_eq_getElem (by omega)]; rfl) (fun j _ => frozen_of_row w r _ cur _ hr)
      rw [hzs] at h
      refine ⟨_, _, r, h, ?_, Or.inl rfl, (Xr.refl p r w).setCells (Or.inr rfl) vs, fun j cs t fz hj ht => setCells_other r vs _ w j (fun e => by subst e; rw [hr] at hj; cases hj; exact ht rfl)⟩
      obtain ⟨cur', h1, h2, h3⟩ := setCells_block r vs (o + n * k) w cur hr (by omega)
      refine Or.inr ⟨o, cap, cur', rfl, h1, hroom, hm, by omega, ?_⟩
      apply List.ext_getElem?
      intro i
      rw [List.getElem?_take, List.getElem?_drop, h3 (o + i)]
      by_cases c1 : i < n * k
      · rw [if_pos (by omega), if_neg (by omega), List.getElem?_append_left (by omega), ← hx, List.getElem?_take, if_pos c1, List.getElem?_drop]
      · by_cases c2 : i < n * k + k
        · rw [if_pos (by omega), if_pos (by omega), List.getElem?_append_right (by omega), hxl]
          congr 1; omega
        · rw [if_neg (by omega), eq_comm, List.getElem?_eq_none (by rw [List.length_append]; omega)]
    · exact GROW _ cap rfl (by omega) (by
        rw [hzs]
        exact run_firstCells_some w.drew k n ⟨r, o, none⟩ n cap xs hxl (fun j v hj => by
          rw [Addr.add_lit]
          show w.cell? _ = _
          rw [cell_of_row w r _ cur _ (0, 0) hr, ← Array.getElem?_toList]
          rw [← hx, List.getElem?_take] at hj
          split at hj
          · rw [List.getElem?_drop] at hj; exact hj
          · cases hj))
/-- 'clear(s)' of elements of k cells. -/
theorem run_clear_k {P : Program} (w : World) (t e ty : TypeId) (z : Value) (k : Nat) (ht : P.underlying t = some (.slice e)) (hv : ∀ w, (zeroValue e).run P w = .ok z w) (hz : z.cells.size = k) (h1 : ∀ v ∈ z.cells, v.oneCell' = true) (b o n c : Nat) (hn : 0 < n) (hth : w.there b o (n * k)) :
    (Builtin.clear_ #[t] ty #[.slice (some ⟨b, o, none⟩) n c]).run P w = .ok (.tuple #[]) (w.setCells b o (Builtin.zeroCells z.cells n).toList) := by
  have hl : (Builtin.zeroCells z.cells n).toList.length = n * k := by simp [Builtin.zeroCells, hz]
  have hone : ∀ v ∈ (Builtin.zeroCells z.cells n).toList, v.oneCell' = true := by
    intro v hv
    have hv2 : v ∈ Builtin.zeroCells z.cells n := by simpa using hv
    unfold Builtin.zeroCells at hv2
    obtain ⟨i, hi, rfl⟩ := Array.mem_map.1 hv2
    have hi : i < n * z.cells.size := by simpa using hi
    have hk : 0 < z.cells.size := by
      rcases Nat.eq_zero_or_pos z.cells.size with h0 | h0
      · rw [h0, Nat.mul_zero] at hi; omega
      · exact h0
    have hm : i % z.cells.size < z.cells.size := Nat.mod_lt _ hk
    rw [getElem!_pos z.cells _ hm]
    exact h1 _ (Array.getElem_mem hm)
  have hst := run_storeCells_cells (P := P) b o (Builtin.zeroCells z.cells n).toList 0 w (fun j hj => by simpa using (hth j (by omega)).1) (fun j hj => by simpa using (hth j (by omega)).2) hone
  simp only [Nat.add_zero] at hst
  obtain ⟨m, rfl⟩ : ∃ m, n = m + 1 := ⟨n - 1, by omega⟩
  simp [Builtin.clear_, run_underlying ht, hv, hst]
theorem run_clear_none {P : Program} (w : World) (t e ty : TypeId) (ht : P.underlying t = some (.slice e)) (a : Option Addr) (c : Nat) : (Builtin.clear_ #[t] ty #[.slice a 0 c]).run P w = .ok (.tuple #[]) w := by
  cases a <;> simp [Builtin.clear_, run_underlying ht]
end Go.Cw
