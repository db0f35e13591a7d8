/- Rows that a call owns, of elements of k cells: copies in them, and what a call may write to (Wr). -/
import Derived.Test.YtfnmfmelcghjbaaProg
import Derived.WalkKit
import Derived.ProofKit
import Derived.Lib.Hide
import Derived.Below
import Derived.Laws.OwnMore
import Derived.Laws.IdiomCopy
import Derived.Laws.NewBlocks
import Derived.Deep.AppendSrc
import Derived.Deep.MidRow
import Derived.Deep.Upon
import Derived.Lib.AppendZerosOnto
import Derived.Lib.Overlaps
import Derived.Lib.JoinLaws
namespace Go.Ow
open Go.RowKit Go.Lib
set_option linter.unusedVariables false
set_option linter.unusedSimpArgs false

/-- What a call that owns rows of type e from block 'base' on may write to: those alone; all else that was there stays. -/
structure Wr (base : Nat) (e : TypeId) (w w' : World) : Prop where
  os : w'.os = w.os
  tape : w'.tape = w.tape
  output : w'.output = w.output
  size : w.heap.size ≤ w'.heap.size
  block : ∀ j, j < w.heap.size → (∀ cur fz, w.heap[j]? = some (.cells cur e fz) → j < base) → w'.heap[j]? = w.heap[j]?
theorem Wr.refl (base : Nat) (e : TypeId) (w : World) : Wr base e w w := ⟨rfl, rfl, rfl, Nat.le_refl _, fun _ _ _ => rfl⟩
theorem Wr.below {base : Nat} {e : TypeId} {w w' : World} (h : Wr base e w w') (hb : base ≤ w.heap.size) : Below base w w' :=
  ⟨h.os, h.tape, h.output, h.size, fun k hk => h.block k (by omega) (fun _ _ _ => hk)⟩
theorem Wr.kept {base : Nat} {e t : TypeId} {w w' : World} (h : Wr base e w w') {j : Nat} {cs : Array Value} {fz : Nat × Nat} (hj : w.heap[j]? = some (.cells cs t fz)) (hte : t ≠ e) : w'.heap[j]? = some (.cells cs t fz) := by
  rw [h.block j (Array.getElem?_eq_some_iff.1 hj).1 (fun cur f2 h2 => by rw [hj] at h2; cases h2; exact absurd rfl hte)]
  exact hj
theorem Wr.of_below {base : Nat} {e : TypeId} {w w' : World} (h : Below w.heap.size w w') : Wr base e w w' :=
  ⟨h.os, h.tape, h.output, h.size, fun k hk _ => h.block k hk⟩
/-- A slice with no room at all, or a row of the call's own. -/
def Own (w : World) (base : Nat) (e : TypeId) (k : Nat) (v : Value) (n : Nat) (xs : List Value) : Prop :=
  (n = 0 ∧ xs = [] ∧ ∃ a, v = .slice a 0 0) ∨ ∃ g cap cur, v = .slice (some ⟨g, 0, none⟩) n cap ∧ base ≤ g ∧ w.heap[g]? = some (.cells cur e (0, 0)) ∧ n ≤ cap ∧ cap ≤ maxLen ∧ cur.size = cap * k ∧ cur.toList.take (n * k) = xs
theorem Own.of_row {w : World} {base : Nat} {e : TypeId} {k n : Nat} {v : Value} {xs : List Value} (h : w.ownsRow base e k v n xs) : Own w base e k v n xs := by
  rcases h.2 with ⟨rfl, rfl⟩ | h2
  · exact Or.inl ⟨rfl, by have := h.1; simpa using this, none, rfl⟩
  · exact Or.inr h2
theorem Own.len {w : World} {base : Nat} {e : TypeId} {k n : Nat} {v : Value} {xs : List Value} (h : Own w base e k v n xs) : xs.length = n * k := by
  rcases h with ⟨rfl, rfl, _⟩ | ⟨g, cap, cur, _, _, _, h1, _, h2, rfl⟩
  · simp
  · rw [List.length_take, Array.length_toList, h2]; exact Nat.min_eq_left (Nat.mul_le_mul_right _ h1)
theorem Own.slice {w : World} {base : Nat} {e : TypeId} {k n : Nat} {v : Value} {xs : List Value} (h : Own w base e k v n xs) : ∃ a c, v = .slice a n c := by
  rcases h with ⟨rfl, rfl, a, rfl⟩ | ⟨g, cap, cur, rfl, _⟩
  · exact ⟨a, 0, rfl⟩
  · exact ⟨_, cap, rfl⟩
theorem Own.mono {w : World} {base base' : Nat} {e : TypeId} {k n : Nat} {v : Value} {xs : List Value} (h : Own w base e k v n xs) (hb : base' ≤ base) : Own w base' e k v n xs := by
  rcases h with h | ⟨g, cap, cur, h1, h2, h3⟩
  · exact Or.inl h
  · exact Or.inr ⟨g, cap, cur, h1, Nat.le_trans hb h2, h3⟩
/-- The same blocks, the same row. -/
theorem Own.keep {w w' : World} {base : Nat} {e : TypeId} {k n : Nat} {v : Value} {xs : List Value} (h : Own w base e k v n xs) (hk : ∀ (j : Nat) (cur : Array Value), w.heap[j]? = some (Obj.cells cur e (0, 0)) → w'.heap[j]? = w.heap[j]?) : Own w' base e k v n xs := by
  rcases h with h | ⟨g, cap, cur, h1, h2, h3, h4⟩
  · exact Or.inl h
  · exact Or.inr ⟨g, cap, cur, h1, h2, (hk g cur h3).trans h3, h4⟩
theorem Own.below {w w' : World} {base : Nat} {e : TypeId} {k n : Nat} {v : Value} {xs : List Value} (h : Own w base e k v n xs) (hb : Below w.heap.size w w') : Own w' base e k v n xs :=
  h.keep (fun j cur hj => hb.block j (Array.getElem?_eq_some_iff.1 hj).1)
theorem Own.wr {w w' : World} {base b2 : Nat} {e t : TypeId} {k n : Nat} {v : Value} {xs : List Value} (h : Own w base e k v n xs) (hb : Wr b2 t w w') (hte : e ≠ t) : Own w' base e k v n xs :=
  h.keep (fun j cur hj => (hb.kept hj hte).trans hj.symm)
/-- A row in memory, for one that reads. -/
theorem Own.range {w : World} {base : Nat} {e : TypeId} {k n : Nat} {v : Value} {xs : List Value} (h : Own w base e k v n xs) (hn : 0 < n) : ∃ g cap, v = .slice (some ⟨g, 0, none⟩) n cap ∧ g < w.heap.size ∧ base ≤ g ∧ w.rangeAt g 0 xs ∧ w.there g 0 (n * k) := by
  rcases h with ⟨rfl, _⟩ | ⟨g, cap, cur, rfl, hb, hg, hc, hm, hs, rfl⟩
  · omega
  · have hle : n * k ≤ cap * k := Nat.mul_le_mul_right _ hc
    refine ⟨g, cap, rfl, (Array.getElem?_eq_some_iff.1 hg).1, hb, fun j v hj => ?_, fun j hj => ?_⟩
    · rw [cell_of_row w g (0 + j) cur e (0, 0) hg]
      rw [List.getElem?_take] at hj
      split at hj
      · simpa using hj
      · cases hj
    · constructor
      · rw [cell_of_row w g (0 + j) cur e (0, 0) hg, Array.getElem?_eq_getElem (by omega)]; rfl
      · exact frozen_of_row w g _ cur e hg
/-- Cells set one by one in a block that is known whole. -/
theorem setCells_block {e : TypeId} (g : Nat) : ∀ (vs : List Value) (o : Nat) (w : World) (cur : Array Value), w.heap[g]? = some (.cells cur e (0, 0)) → o + vs.length ≤ cur.size →
    ∃ cur', (w.setCells g o vs).heap[g]? = some (.cells cur' e (0, 0)) ∧ cur'.size = cur.size ∧ ∀ j, cur'.toList[j]? = if o ≤ j ∧ j < o + vs.length then vs[j - o]? else cur.toList[j]?
  | [], o, w, cur, h, hl => ⟨cur, h, rfl, fun j => by rw [if_neg (by simp only [List.length_nil]; omega)]⟩
  | v :: r, o, w, cur, h, hl => by
    simp only [List.length_cons] at hl
    obtain ⟨cur', h1, h2, h3⟩ := setCells_block g r (o + 1) (w.setCell ⟨g, o, none⟩ v) (cur.setIfInBounds o v) (heap_setCell_same w g o cur e v h) (by simp; omega)
    refine ⟨cur', h1, by simpa using h2, fun j => ?_⟩
    rw [h3 j]
    by_cases e1 : o + 1 ≤ j ∧ j < o + 1 + r.length
    · rw [if_pos e1, if_pos (by simp; omega)]
      rw [show j - o = (j - (o + 1)) + 1 by omega, List.getElem?_cons_succ]
    · rw [if_neg e1]
      by_cases e2 : j = o
      · subst e2
        rw [if_pos (by simp only [List.length_cons]; omega)]
        rw [Array.toList_setIfInBounds, List.getElem?_set_self (by rw [Array.length_toList]; omega), Nat.sub_self, List.getElem?_cons_zero]
      · rw [if_neg (by simp only [List.length_cons]; omega)]
        simp [Array.getElem?_setIfInBounds, show ¬ o = j by omega]
theorem setCells_size (g : Nat) : ∀ (vs : List Value) (o : Nat) (w : World), (w.setCells g o vs).heap.size = w.heap.size
  | [], _, _ => rfl
  | v :: r, o, w => by rw [World.setCells, setCells_size g r]; simp [World.setCell]
theorem setCells_other (g : Nat) : ∀ (vs : List Value) (o : Nat) (w : World) (i : Nat), i ≠ g → (w.setCells g o vs).heap[i]? = w.heap[i]?
  | [], _, _, _, _ => rfl
  | v :: r, o, w, i, h => by rw [World.setCells, setCells_other g r _ _ i h, Below.heap_setCell _ _ _ _ h]
theorem setCells_frame (g : Nat) : ∀ (vs : List Value) (o : Nat) (w : World), (w.setCells g o vs).os = w.os ∧ (w.setCells g o vs).tape = w.tape ∧ (w.setCells g o vs).output = w.output
  | [], _, _ => ⟨rfl, rfl, rfl⟩
  | v :: r, o, w => by rw [World.setCells]; exact setCells_frame g r _ _
/-- A copy of elements of k cells. -/
theorem run_copy_k {P : Program} (w : World) (dT sT ty elem : TypeId) (k b o dLen dCap : Nat) (a : Addr) (sLen sCap : Nat) (cs : List Value)
    (hu : P.underlying dT = some (.slice elem)) (hs : (P.info? elem).map (·.size) = some k) (hn : cs.length = Nat.min sLen dLen * k)
    (hsrc : ∀ j v, cs[j]? = some v → w.cell? (a.add j) = some v) (hc : ∀ j, j < cs.length → (w.cell? ⟨b, o + j, none⟩).isSome = true) (hf : ∀ j, j < cs.length → w.frozen? ⟨b, o + j, none⟩ = false) (h1 : ∀ v ∈ cs, v.oneCell' = true) :
    (Builtin.copy_ #[dT, sT] ty #[.slice (some ⟨b, o, none⟩) dLen dCap, .slice (some a) sLen sCap]).run P w = .ok (goInt (Nat.min sLen dLen)) (w.setCells b o cs) := by
  have hl := run_firstCells_some (P := P) w k (Nat.min sLen dLen) a sLen sCap cs hn hsrc
  have hst := run_storeCells_cells (P := P) b o cs 0 w (by simpa using hc) (by simpa using hf) h1
  cases hq : P.info? elem with
  | none => simp [hq] at hs
  | some i =>
    have hi : i.size = k := by simpa [hq] using hs
    simp [Builtin.copy_, run_underlying hu, Builtin.lenOf, sizeOf, typeInfo, hq, hi, hl, hst]
theorem wp_copy_r {P : Program} (w : World) {o : Oper} {a : Act} {K : Act → World → Prop} {Q : Exit → Act → World → Prop} (d s : Operand) (t t' : TypeId)
    (ho : o.op = .call { callee := .builtin .copy, args := #[d, s], argTypes := #[t, t'] }) (v u : Value) (hd : a.eval d = v) (hs : a.eval s = u) {v' : Value} {w' : World}
    (hr : (Builtin.copy_ #[t, t'] o.type #[v, u]).run P w = .ok v' w') (h : K (a.put o.dst v') w') : o.wp P a w K Q := by
  unfold Oper.wp execOp
  simp only [ho, resolve, invoke, builtin, Sem.run_bind, Sem.run_pure, Result.andThen_ok, List.map_toArray, List.map_cons, List.map_nil, hd, hs, hr]
  exact h
theorem wpList_copy_r {P : Program} (w : World) {ops : Array Oper} {rest : List Oper} {o : Oper} {a : Act} {Q : Exit → Act → World → Prop} (hgd : o.guard = none) (d s : Operand) (t t' : TypeId)
    (ho : o.op = .call { callee := .builtin .copy, args := #[d, s], argTypes := #[t, t'] }) (v u : Value) (hd : a.eval d = v) (hs : a.eval s = u) {v' : Value} {w' : World}
    (hr : (Builtin.copy_ #[t, t'] o.type #[v, u]).run P w = .ok v' w') (h : wpList P ops Q rest (a.put o.dst v') w') : wpList P ops Q (o :: rest) a w :=
  wpList_plain hgd fun _ hK => wp_copy_r w d s t t' ho v u hd hs hr (hK _ _ h)
theorem step_copy_r {P : Program} {ops : Array Oper} {o : Oper} {a : Act} {w : World} {K : Act → World → Prop} {Q : Exit → Act → World → Prop} {E : Prop}
    (hg : o.guard = none) (d x : Operand) (dT sT : TypeId) (hop : o.op = Op.call { callee := Callee.builtin Builtin.copy, args := #[d, x], argTypes := #[dT, sT] })
    (v u : Value) (hd : a.eval d = v) (hx : a.eval x = u) {v' : Value} {w' : World} (hr : (Builtin.copy_ #[dT, sT] o.type #[v, u]).run P w = .ok v' w') (hK : K (a.put o.dst v') w') :
    if Region.wanted o (yielded ops a.tmps) = true then Oper.wp P o a w K Q else E := by
  have hw : Region.wanted o (yielded ops a.tmps) = true := by simp [Region.wanted, hg]
  rw [if_pos hw]
  unfold Oper.wp
  simp [execOp, hop, resolve, invoke, builtin, hd, hx, hr, Result.andThen]
  exact hK
/-- Put in place: what stood from o on moves by the new cells' number, and they come between. -/
theorem shift_list (cur cs vs : List Value) (m o N : Nat) (cur1 cur2 : List Value) (hcs : cur.take N = cs) (hN : N ≤ cur.length) (hm : vs.length = m) (ho : o ≤ N) (hroom : N + m ≤ cur.length)
    (h1 : ∀ j, cur1[j]? = if o + m ≤ j ∧ j < o + m + (cs.drop o).length then (cs.drop o)[j - (o + m)]? else cur[j]?)
    (h2 : ∀ j, cur2[j]? = if o ≤ j ∧ j < o + vs.length then vs[j - o]? else cur1[j]?) : cur2.take (N + m) = cs.take o ++ vs ++ cs.drop o := by
  have hl : cs.length = N := by rw [← hcs, List.length_take]; omega
  apply List.ext_getElem?
  intro j
  rw [List.getElem?_take]
  by_cases a1 : j < o
  · rw [if_pos (by omega), h2, if_neg (by omega), h1, if_neg (by omega), List.append_assoc, List.getElem?_append_left (by rw [List.length_take]; omega), List.getElem?_take, if_pos a1, ← hcs, List.getElem?_take, if_pos (by omega)]
  · by_cases a2 : j < o + m
    · rw [if_pos (by omega), h2, if_pos (by omega), List.append_assoc, List.getElem?_append_right (by rw [List.length_take]; omega), List.length_take, Nat.min_eq_left (by omega), List.getElem?_append_left (by omega)]
    · by_cases a3 : j < N + m
      · rw [if_pos a3, h2, if_neg (by omega), h1, if_pos (by rw [List.length_drop, hl]; omega), List.getElem?_append_right (by rw [List.length_append, List.length_take]; omega), List.length_append, List.length_take, Nat.min_eq_left (by omega), hm]
      · rw [if_neg a3, eq_comm, List.getElem?_eq_none]
        simp only [List.length_append, List.length_take, List.length_drop]; omega
/-- What is put in place is owned. -/
theorem own_shift {w : World} {base : Nat} {e : TypeId} {k n cap g i : Nat} {cur : Array Value} {vs xs : List Value} (hb : base ≤ g) (hg : w.heap[g]? = some (.cells cur e (0, 0))) (hs : cur.size = cap * k) (hm : cap ≤ maxLen) (hx : cur.toList.take (n * k) = xs) (hi : i ≤ n) (hv : vs.length = k) (hroom : n + 1 ≤ cap)
    {w1 w2 : World} (h1 : w1 = w.setCells g ((i + 1) * k) (xs.drop (i * k))) (h2 : w2 = w1.setCells g (i * k) vs) :
    Own w2 base e k (.slice (some ⟨g, 0, none⟩) (n + 1) cap) (n + 1) (xs.take (i * k) ++ vs ++ xs.drop (i * k)) ∧ Wr base e w w2 := by
  have hnk : n * k + k ≤ cap * k := by rw [← Nat.succ_mul]; exact Nat.mul_le_mul_right _ hroom
  have hik : i * k ≤ n * k := Nat.mul_le_mul_right _ hi
  have hxl : xs.length = n * k := by rw [← hx, List.length_take, Array.length_toList, hs]; omega
  obtain ⟨cur1, a1, a2, a3⟩ := setCells_block g (xs.drop (i * k)) ((i + 1) * k) w cur hg (by rw [List.length_drop, hxl, Nat.succ_mul]; omega)
  obtain ⟨cur2, b1, b2, b3⟩ := setCells_block g vs (i * k) (w.setCells g ((i + 1) * k) (xs.drop (i * k))) cur1 a1 (by omega)
  have hk1 : (n + 1) * k = n * k + k := Nat.succ_mul _ _
  have hi1 : (i + 1) * k = i * k + k := Nat.succ_mul _ _
  subst h1
  subst h2
  refine ⟨Or.inr ⟨g, cap, cur2, rfl, hb, b1, hroom, hm, by omega, ?_⟩, ?_⟩
  · rw [hk1]
    refine shift_list cur.toList xs vs k (i * k) (n * k) cur1.toList cur2.toList hx (by rw [Array.length_toList]; omega) hv hik (by rw [Array.length_toList]; omega) (fun j => ?_) b3
    rw [a3 j, hi1]
  · obtain ⟨f1, f2, f3⟩ := setCells_frame g vs (i * k) (w.setCells g ((i + 1) * k) (xs.drop (i * k)))
    obtain ⟨g1, g2, g3⟩ := setCells_frame g (xs.drop (i * k)) ((i + 1) * k) w
    refine ⟨f1.trans g1, f2.trans g2, f3.trans g3, by rw [setCells_size, setCells_size]; exact Nat.le_refl _, fun j hj hne => ?_⟩
    have hjg : j ≠ g := fun e2 => by subst e2; have := hne cur (0, 0) hg; omega
    rw [setCells_other g _ _ _ j hjg, setCells_other g _ _ _ j hjg]
theorem zero_size (zc : Array Value) (m : Nat) : (Builtin.zeroCells zc m).size = m * zc.size := by simp [Builtin.zeroCells]
theorem Wr.alloc {base : Nat} {e : TypeId} {w : World} (o : Obj) : Wr base e w (w.drew.alloc o) :=
  Wr.of_below (((Below.refl w.heap.size w).drew).alloc (Nat.le_refl _) o)
/-- A row that was laid anew with one element more at its end. -/
theorem own_grown {w : World} {base : Nat} {e : TypeId} {k n G : Nat} {xs vs : List Value} {zc : Array Value} (hb : base ≤ w.heap.size) (hx : xs.length = n * k) (hv : vs.length = k) (hz : zc.size = k) (hG : n + 1 ≤ G) (hm : G ≤ maxLen) :
    Own (w.drew.alloc (.cells ((xs ++ vs).toArray ++ Builtin.zeroCells zc (G - (n + 1))) e)) base e k (.slice (some ⟨w.heap.size, 0, none⟩) (n + 1) G) (n + 1) (xs ++ vs) := by
  have hk1 : (n + 1) * k = n * k + k := Nat.succ_mul _ _
  refine Or.inr ⟨w.heap.size, G, _, rfl, hb, heap_alloc_new w.drew _, hG, hm, ?_, ?_⟩
  · rw [Array.size_append, zero_size, hz, List.size_toArray, List.length_append, hx, hv, ← hk1, ← Nat.add_mul]
    congr 1; omega
  · rw [Array.toList_append, List.take_append_of_le_length (by simp [hx, hv, hk1]), List.take_of_length_le (by simp [hx, hv, hk1])]
/-- A row that was laid anew, with one element put within. -/
theorem own_made {w w1 w2 w3 : World} {base : Nat} {e : TypeId} {k n G i : Nat} {xs vs : List Value} {zc : Array Value} (hb : base ≤ w.heap.size) (hx : xs.length = n * k) (hv : vs.length = k) (hz : zc.size = k) (hG : n + 1 ≤ G) (hm : G ≤ maxLen) (hi : i ≤ n)
    (h1 : w1 = w.drew.alloc (.cells ((xs.take (i * k)).toArray ++ Builtin.zeroCells zc (n + 1 - i) ++ Builtin.zeroCells zc (G - (n + 1))) e)) (h2 : w2 = w1.setCells w.heap.size (i * k) vs) (h3 : w3 = w2.drew.setCells w.heap.size ((i + 1) * k) (xs.drop (i * k))) :
    Own w3 base e k (.slice (some ⟨w.heap.size, 0, none⟩) (n + 1) G) (n + 1) (xs.take (i * k) ++ vs ++ xs.drop (i * k)) ∧ Wr base e w w3 := by
  have hk1 : (n + 1) * k = n * k + k := Nat.succ_mul _ _
  have hi1 : (i + 1) * k = i * k + k := Nat.succ_mul _ _
  have hik : i * k ≤ n * k := Nat.mul_le_mul_right _ hi
  have hgk : (n + 1) * k ≤ G * k := Nat.mul_le_mul_right _ hG
  have hr : ((xs.take (i * k)).toArray ++ Builtin.zeroCells zc (n + 1 - i) ++ Builtin.zeroCells zc (G - (n + 1))).size = G * k := by
    rw [Array.size_append, Array.size_append, zero_size, zero_size, hz, List.size_toArray, List.length_take, hx, Nat.min_eq_left hik, ← Nat.add_mul, ← Nat.add_mul]
    congr 1; omega
  have hN : w1.heap[w.heap.size]? = some (.cells ((xs.take (i * k)).toArray ++ Builtin.zeroCells zc (n + 1 - i) ++ Builtin.zeroCells zc (G - (n + 1))) e (0, 0)) := by rw [h1]; exact heap_alloc_new w.drew _
  have hF : ∀ j, j < i * k → ((xs.take (i * k)).toArray ++ Builtin.zeroCells zc (n + 1 - i) ++ Builtin.zeroCells zc (G - (n + 1))).toList[j]? = xs[j]? := fun j hj => by
    rw [Array.toList_append, Array.toList_append, List.append_assoc, List.getElem?_append_left (by show j < (xs.take (i * k)).length; rw [List.length_take, hx]; omega)]
    simp [List.getElem?_take, hj]
  generalize ((xs.take (i * k)).toArray ++ Builtin.zeroCells zc (n + 1 - i) ++ Builtin.zeroCells zc (G - (n + 1))) = ROW at *
  obtain ⟨cur1, a1, a2, a3⟩ := setCells_block w.heap.size vs (i * k) w1 ROW hN (by omega)
  obtain ⟨cur2, b1, b2, b3⟩ := setCells_block w.heap.size (xs.drop (i * k)) ((i + 1) * k) (w1.setCells w.heap.size (i * k) vs).drew cur1 a1 (by rw [List.length_drop, hx]; omega)
  have hdl : (xs.drop (i * k)).length = n * k - i * k := by rw [List.length_drop, hx]
  subst h2
  subst h3
  refine ⟨Or.inr ⟨w.heap.size, G, cur2, rfl, hb, b1, hG, hm, by omega, ?_⟩, ?_⟩
  · apply List.ext_getElem?
    intro j
    rw [List.getElem?_take, hk1]
    by_cases c1 : j < i * k
    · rw [if_pos (by omega), b3, if_neg (by omega), a3, if_neg (by omega), hF j c1, List.append_assoc, List.getElem?_append_left (by rw [List.length_take]; omega), List.getElem?_take, if_pos c1]
    · by_cases c2 : j < i * k + k
      · rw [if_pos (by omega), b3, if_neg (by omega), a3, if_pos (by omega), List.append_assoc, List.getElem?_append_right (by rw [List.length_take]; omega), List.length_take, Nat.min_eq_left (by omega), List.getElem?_append_left (by omega)]
      · by_cases c3 : j < n * k + k
        · rw [if_pos c3, b3, if_pos (by omega), List.getElem?_append_right (by rw [List.length_append, List.length_take]; omega), List.length_append, List.length_take, Nat.min_eq_left (by omega), hv, hi1]
        · rw [if_neg c3, eq_comm, List.getElem?_eq_none]
          simp only [List.length_append, List.length_take, List.length_drop]; omega
  · obtain ⟨f1, f2, f3⟩ := setCells_frame w.heap.size (xs.drop (i * k)) ((i + 1) * k) (w1.setCells w.heap.size (i * k) vs).drew
    obtain ⟨g1, g2, g3⟩ := setCells_frame w.heap.size vs (i * k) w1
    have hW : Wr base e w w1 := by rw [h1]; exact Wr.alloc _
    refine ⟨f1.trans (g1.trans hW.os), f2.trans (g2.trans hW.tape), f3.trans (g3.trans hW.output), ?_, fun j hj hne => ?_⟩
    · rw [setCells_size]; show w.heap.size ≤ (w1.setCells w.heap.size (i * k) vs).heap.size; rw [setCells_size]; exact hW.size
    · rw [setCells_other _ _ _ _ j (by omega)]
      show (w1.setCells w.heap.size (i * k) vs).heap[j]? = _
      rw [setCells_other _ _ _ _ j (by omega)]
      exact hW.block j hj hne
theorem Wr.trans {base : Nat} {e : TypeId} {a b c : World} (h : Wr base e a b) (hk : Wr base e b c) (hty : ∀ j cur fz, j < a.heap.size → b.heap[j]? = some (.cells cur e fz) → ∃ cur' fz', a.heap[j]? = some (.cells cur' e fz')) : Wr base e a c :=
  ⟨hk.os.trans h.os, hk.tape.trans h.tape, hk.output.trans h.output, Nat.le_trans h.size hk.size, fun j hj hne => (hk.block j (Nat.lt_of_lt_of_le hj h.size) (fun cur fz h2 => by
    obtain ⟨cur', fz', h3⟩ := hty j cur fz hj h2
    exact hne cur' fz' h3)).trans (h.block j hj hne)⟩
theorem Wr.drew {base : Nat} {e : TypeId} {w w' : World} (h : Wr base e w w') : Wr base e w w'.drew := ⟨h.os, h.tape, h.output, h.size, h.block⟩
end Go.Ow
