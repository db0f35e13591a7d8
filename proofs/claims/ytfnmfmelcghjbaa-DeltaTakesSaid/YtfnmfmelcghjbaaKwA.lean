/- Caches: rows, some elements behind others; News in memory. -/
import Derived.Test.YtfnmfmelcghjbaaCwA
import Derived.Test.YtfnmfmelcghjbaaMgG
import Derived.Test.YtfnmfmelcghjbaaKqA
import Derived.LaidEqlPtr
import Derived.Deep.Cut
import Derived.Deep.DeepCutAuto
import Derived.Deep.RegionLaw
import Derived.BigRegion
import Derived.BigQuiet
namespace Go.Kw
open Go.RowKit Go.Lib Go.Ow Go.Cw
set_option linter.unusedVariables false
set_option linter.unusedSimpArgs false
section
variable {α : Type} (c : α → List Value) (k : Nat) (hk : ∀ x, (c x).length = k)
include hk
theorem flat_len (l : List α) : (l.flatMap c).length = l.length * k := by
  induction l with
  | nil => simp
  | cons x r ih => rw [List.flatMap_cons, List.length_append, ih, hk, List.length_cons, Nat.succ_mul]; omega
theorem flat_take : ∀ (l : List α) (i : Nat), (l.take i).flatMap c = (l.flatMap c).take (i * k)
  | [], i => by simp
  | x :: r, 0 => by simp
  | x :: r, i + 1 => by
    rw [List.take_succ_cons, List.flatMap_cons, List.flatMap_cons, flat_take r i, Nat.succ_mul, Nat.add_comm (i * k) k, List.take_append, hk, Nat.add_sub_cancel_left, List.take_of_length_le (l := c x) (by rw [hk]; omega)]
theorem flat_drop : ∀ (l : List α) (i : Nat), (l.drop i).flatMap c = (l.flatMap c).drop (i * k)
  | [], i => by simp
  | x :: r, 0 => by simp
  | x :: r, i + 1 => by
    rw [List.drop_succ_cons, List.flatMap_cons, flat_drop r i, Nat.succ_mul, Nat.add_comm (i * k) k, ← List.drop_drop, List.drop_append, hk, Nat.sub_self, List.drop_of_length_le (l := c x) (by rw [hk]; omega), List.drop_zero, List.nil_append]
theorem flat_set (l : List α) (i : Nat) (x : α) (hi : i < l.length) : (l.set i x).flatMap c = (l.flatMap c).take (i * k) ++ c x ++ (l.flatMap c).drop ((i + 1) * k) := by
  rw [← flat_take c k hk, ← flat_drop c k hk, List.set_eq_take_append_cons_drop, if_pos hi]
  simp
theorem flat_get (l : List α) (i j : Nat) (hi : i < l.length) (hj : j < k) : (l.flatMap c)[i * k + j]? = (c l[i])[j]? := by
  have hd : (l.flatMap c).drop (i * k) = c l[i] ++ (l.drop (i + 1)).flatMap c := by
    rw [← flat_drop c k hk, List.drop_eq_getElem_cons hi, List.flatMap_cons]
  have h0 : (l.flatMap c)[i * k + j]? = (c l[i] ++ (l.drop (i + 1)).flatMap c)[j]? := by rw [← hd, List.getElem?_drop]
  rw [h0, List.getElem?_append_left (by rw [hk]; exact hj)]
end
theorem rw_src {P : Program} {w : World} {r k n : Nat} {T TS : TypeId} {u : Value} {ys : List Value} (hu : P.underlying TS = some (.slice T)) (h : Rw w r T k u n ys) (h1 : ∀ y ∈ ys, y.oneCell' = true) : Src P k TS u n ys w := by
  by_cases hn : 0 < n
  · obtain ⟨o, cap, rfl, hc, -, -, hra, -, -⟩ := h.at hn
    exact Src.ofSlice w hu ⟨r, o, none⟩ n cap ys h.len (fun j u hj => by rw [Addr.add_lit]; exact hra j u hj) h1
  · obtain ⟨a, c, rfl⟩ := h.slice
    have hl := h.len
    obtain rfl : n = 0 := by omega
    have hys : ys = [] := List.length_eq_zero_iff.1 (by rw [hl]; simp)
    subst hys
    rcases h with ⟨-, -, a', e⟩ | ⟨o, cap, cur, e, -⟩
    · cases e
      cases a with
      | none => exact Src.ofNil w hu 0
      | some a => exact Src.ofSlice w hu a 0 0 [] (by simp) (fun j u hj => by simp at hj) (fun u hu => by cases hu)
    · cases e
      exact Src.ofSlice w hu ⟨r, o, none⟩ 0 c [] (by simp) (fun j u hj => by simp at hj) (fun u hu => by cases hu)
/-- Some elements more at the end. -/
theorem rw_appm {P : Program} {w : World} {r k bytes n m : Nat} {T TS : TypeId} {v sv : Value} {z : Value} {xs vs : List Value} (hu : P.underlying TS = some (.slice T)) (hinfo : (P.info? T).map (fun i => (i.zero, i.size, i.bytes)) = some (some z, k, bytes)) (hz : z.cells.size = k)
    (hrw : Rw w r T k v n xs) (hsrc : Src P k TS sv m vs w) (hfit : (n + m) * bytes ≤ 140737488355328) (hn : n + m < 4611686018427387904) (p : Nat) :
    ∃ v' w' r', (∀ ty, (Builtin.append_ #[TS, TS] ty #[v, sv]).run P w = .ok v' w') ∧ Rw w' r' T k v' (n + m) (xs ++ vs) ∧ (r' = r ∨ w.heap.size ≤ r') ∧ Xr p r w w' := by
  have hxl := hrw.len
  have hvl := hsrc.newsLen
  obtain ⟨i0, hi0, hz0, hzs, hzb⟩ := info_parts hinfo
  have hml : n + m ≤ maxLen := by unfold maxLen; omega
  have GROW : ∀ (a : Option Addr) (c : Nat), v = .slice a n c → c < n + m → (Builtin.firstCells i0.size n (.slice a n c)).run P w.drew = .ok xs.toArray w.drew → ∃ v' w' r', (∀ ty, (Builtin.append_ #[TS, TS] ty #[v, sv]).run P w = .ok v' w') ∧ Rw w' r' T k v' (n + m) (xs ++ vs) ∧ (r' = r ∨ w.heap.size ≤ r') ∧ Xr p r w w' := fun a c hv hc hold => by
    subst hv
    refine ⟨_, _, w.heap.size, fun ty => run_append_grow_src w TS TS ty T i0 _ hu hi0 hz0 a n c xs hold _ m vs (by rw [hzs]; exact hsrc) hc (by unfold maxLen at hml; omega) (by rw [hzb]; exact growslice_fits hc hfit), ?_, Or.inr (Nat.le_refl _), Xr.grow p _⟩
    have hG := grownCap_ge w (n + m) c T
    refine Or.inr ⟨0, grownCap w (n + m) c T, _, rfl, heap_alloc_new w.drew _, hG, grownCap_le_maxLen w _ _ _ hml, ?_, ?_⟩
    · rw [Array.size_append, zero_size, hz, List.size_toArray, List.length_append, hxl, hvl, ← Nat.add_mul, ← Nat.add_mul, Nat.zero_add]
      congr 1; omega
    · have e : (n + m) * k = (xs ++ vs).length := by rw [List.length_append, hxl, hvl, Nat.add_mul]
      rw [Array.toList_append, List.drop_zero, List.take_append_of_le_length (by rw [e]; simp), e, List.take_of_length_le (by simp)]
  rcases hrw with ⟨rfl, rfl, a, rfl⟩ | ⟨o, cap, cur, rfl, hr, hc, hm, hs, hx⟩
  · by_cases h0 : m = 0
    · subst h0
      have hvs : vs = [] := List.length_eq_zero_iff.1 (by rw [hvl]; simp)
      subst hvs
      refine ⟨.slice a 0 0, w, r, fun ty => ?_, Or.inl ⟨rfl, rfl, a, rfl⟩, Or.inl rfl, Xr.refl _ _ _⟩
      have hs' : Src P i0.size TS sv 0 [] w := by rw [hzs]; exact hsrc
      rcases hs'.kind with ⟨e', hk⟩ | hk
      all_goals
        cases a with
        | none => simp [Builtin.append_, run_underlying hu, run_underlying hk, sizeOf, typeInfo, hi0, hs'.len, hs'.cells]
        | some a => obtain ⟨ab, ao, af⟩ := a; simp [Builtin.append_, run_underlying hu, run_underlying hk, sizeOf, typeInfo, hi0, hs'.len, hs'.cells, storeCells]
    · exact GROW a 0 rfl (by omega) (by
        rw [hzs]
        cases a with
        | none => exact run_firstCells_none w.drew k 0 0 0
        | some a => exact run_firstCells_some w.drew k 0 a 0 0 [] (by simp) (fun j v hj => by simp at hj))
  · have hck := Nat.mul_le_mul_right k hc
    by_cases hroom : n + m ≤ cap
    · have hk1 : (n + m) * k = n * k + m * k := Nat.add_mul _ _ _
      have hrk := Nat.mul_le_mul_right k hroom
      have h := fun ty => run_append_room_src (P := P) w TS TS ty T i0 hu hi0 r o n cap sv m vs (by rw [hzs]; exact hsrc) hroom
        (fun j hj => by rw [hzs, cell_of_row w r _ cur _ (0, 0) hr, Array.getElem?_eq_getElem (by omega)]; rfl) (fun j _ => frozen_of_row w r _ cur _ hr)
      rw [hzs] at h
      refine ⟨_, _, r, h, ?_, Or.inl rfl, (Xr.refl p r w).setCells (Or.inr rfl) vs⟩
      obtain ⟨cur', h1, h2, h3⟩ := setCells_block r vs (o + n * k) w cur hr (by omega)
      refine Or.inr ⟨o, cap, cur', rfl, h1, hroom, hm, by omega, ?_⟩
      apply List.ext_getElem?
      intro i
      rw [List.getElem?_take, List.getElem?_drop, h3 (o + i)]
      by_cases c1 : i < n * k
      · rw [if_pos (by omega), if_neg (by omega), List.getElem?_append_left (by omega), ← hx, List.getElem?_take, if_pos c1, List.getElem?_drop]
      · by_cases c2 : i < n * k + m * k
        · rw [if_pos (by omega), if_pos (by omega), List.getElem?_append_right (by omega), hxl]
          congr 1; omega
        · rw [if_neg (by omega), eq_comm, List.getElem?_eq_none (by rw [List.length_append]; omega)]
    · exact GROW _ cap rfl (by omega) (by
        rw [hzs]
        exact run_firstCells_some w.drew k n ⟨r, o, none⟩ n cap xs hxl (fun j v hj => by
          rw [Addr.add_lit]
          show w.cell? _ = _
          rw [cell_of_row w r _ cur _ (0, 0) hr, ← Array.getElem?_toList]
          rw [← hx, List.getElem?_take] at hj
          split at hj
          · rw [List.getElem?_drop] at hj; exact hj
          · cases hj))
end Go.Kw
namespace Go.Proofs.Ytfnmfmelcghjbaa
open Go.RowKit Go.Lib Go.Ow Go.Cw Go.Mq Go.Kq Go.Kw
set_option linter.unusedVariables false
set_option linter.unusedSimpArgs false
set_option maxRecDepth 100000

theorem gAl (W : World) (o : Obj) : Below W.heap.size W (W.alloc o) := (Below.refl _ _).alloc (Nat.le_refl _) _
theorem gNx {W w w' : World} (h : Below W.heap.size W w) (k : Below w.heap.size w w') : Below W.heap.size W w' := h.trans (k.mono h.size)
/-- One News' cells, a row of News. -/
def nC (n : Nw) : List Value := [.int .i64 n.dest, .int .i64 n.kind, .float .f64 n.dist, .float .f64 n.radius, .int .i64 n.home]
def nRow (l : List Nw) : List Value := l.flatMap nC
theorem nC_len (n : Nw) : (nC n).length = 5 := rfl
theorem nC_one (n : Nw) : ∀ v ∈ nC n, v.oneCell' = true := by
  intro v hv
  unfold nC at hv
  simp only [List.mem_cons, List.not_mem_nil, or_false] at hv
  rcases hv with rfl | rfl | rfl | rfl | rfl <;> rfl
theorem nRow_one (l : List Nw) : ∀ v ∈ nRow l, v.oneCell' = true := by
  intro v hv
  unfold nRow at hv
  obtain ⟨n, -, h⟩ := List.mem_flatMap.1 hv
  exact nC_one n v h
theorem nRow_len (l : List Nw) : (nRow l).length = l.length * 5 := flat_len nC 5 nC_len l
theorem nRow_app (l m : List Nw) : nRow (l ++ m) = nRow l ++ nRow m := List.flatMap_append
theorem nInfo : (Try.prog.info? 63).map (fun i => (i.zero, i.size, i.bytes)) = some (some (.agg #[.int .i64 0, .int .i64 0, .float .f64 0, .float .f64 0, .int .i64 0]), 5, 40) := by kernel_rfl
/-- A list of News in memory, in a block of which S speaks. -/
def NwS (S : Nat → Prop) (w : World) (l : List Nw) (a : Option Addr) : Prop := l = [] ∨ ∃ b o, a = some ⟨b, o, none⟩ ∧ S b ∧ b < w.heap.size ∧ ∀ k (h : k < l.length), NwAt w b (o + k * 5) l[k]
theorem NwS.news {S : Nat → Prop} {w : World} {l : List Nw} {a : Option Addr} (h : NwS S w l a) : NewsIn w w.heap.size l a := by
  rcases h with h | ⟨b, o, h1, -, h3, h4⟩
  · exact Or.inl h
  · exact Or.inr ⟨b, o, h1, h3, h4⟩
theorem NwS.of_news {w : World} {l : List Nw} {a : Option Addr} {B : Nat} (h : NewsIn w B l a) (hB : B ≤ w.heap.size) : NwS (· < B) w l a := by
  rcases h with h | ⟨b, o, h1, h3, h4⟩
  · exact Or.inl h
  · exact Or.inr ⟨b, o, h1, h3, by omega, h4⟩
theorem NwS.kept {S : Nat → Prop} {w w' : World} {l : List Nw} {a : Option Addr} (h : NwS S w l a) (hk : ∀ b, S b → b < w.heap.size → w'.heap[b]? = w.heap[b]?) (hs : w.heap.size ≤ w'.heap.size) : NwS S w' l a := by
  rcases h with h | ⟨b, o, h1, h2, h3, h4⟩
  · exact Or.inl h
  · exact Or.inr ⟨b, o, h1, h2, by omega, fun k hk2 => (h4 k hk2).kept (hk b h2 h3)⟩
theorem NwS.below {S : Nat → Prop} {w w' : World} {l : List Nw} {a : Option Addr} (h : NwS S w l a) (hb : Below w.heap.size w w') : NwS S w' l a := h.kept (fun b _ hl => hb.block b hl) hb.size
theorem NwS.mono {S T : Nat → Prop} {w : World} {l : List Nw} {a : Option Addr} (h : NwS S w l a) (hT : ∀ b, S b → T b) : NwS T w l a := by
  rcases h with h | ⟨b, o, h1, h2, h3⟩
  · exact Or.inl h
  · exact Or.inr ⟨b, o, h1, hT b h2, h3⟩
theorem NwS.lt {S : Nat → Prop} {w : World} {l : List Nw} {a : Option Addr} (h : NwS S w l a) : NwS (fun b => S b ∧ b < w.heap.size) w l a := by
  rcases h with h | ⟨b, o, h1, h2, h3⟩
  · exact Or.inl h
  · exact Or.inr ⟨b, o, h1, ⟨h2, h3.1⟩, h3⟩
theorem NwS.at {S : Nat → Prop} {w : World} {l : List Nw} {a : Option Addr} (h : NwS S w l a) (hn : 0 < l.length) : ∃ b o, a = some ⟨b, o, none⟩ ∧ S b ∧ b < w.heap.size ∧ ∀ k (h : k < l.length), NwAt w b (o + k * 5) l[k] := by
  rcases h with rfl | h
  · simp at hn
  · exact h
theorem NwS.range {w : World} {b o : Nat} {l : List Nw} (h : ∀ k (h : k < l.length), NwAt w b (o + k * 5) l[k]) : w.rangeAt b o (nRow l) := by
  intro j v hj
  have hl : j < l.length * 5 := by
    have := (List.getElem?_eq_some_iff.1 hj).1
    rwa [nRow_len] at this
  have hk : j / 5 < l.length := by omega
  have e : j = j / 5 * 5 + j % 5 := by omega
  have hg := flat_get nC 5 nC_len l (j / 5) (j % 5) hk (by omega)
  rw [← e] at hg
  have hN := h (j / 5) hk
  unfold nRow at hj
  rw [hg] at hj
  generalize l[j / 5] = n at hN hj
  have h5 : j % 5 < 5 := Nat.mod_lt _ (by omega)
  obtain ⟨c0, c1, c2, c3, c4⟩ := hN
  unfold nC at hj
  have ee : o + j = o + j / 5 * 5 + j % 5 := by omega
  rw [ee]
  generalize j % 5 = m at hj h5
  match m, h5 with
  | 0, _ => cases hj; exact c0
  | 1, _ => cases hj; exact c1
  | 2, _ => cases hj; exact c2
  | 3, _ => cases hj; exact c3
  | 4, _ => cases hj; exact c4
theorem nw_of_range {w : World} {b o : Nat} {l : List Nw} (h : w.rangeAt b o (nRow l)) (k : Nat) (hk : k < l.length) : NwAt w b (o + k * 5) l[k] := by
  have hg := fun j hj => flat_get nC 5 nC_len l k j hk hj
  refine ⟨?_, ?_, ?_, ?_, ?_⟩
  · have := h (k * 5 + 0) _ (hg 0 (by omega)); simpa using this
  · have := h (k * 5 + 1) _ (hg 1 (by omega)); rw [← Nat.add_assoc] at this; exact this
  · have := h (k * 5 + 2) _ (hg 2 (by omega)); rw [← Nat.add_assoc] at this; exact this
  · have := h (k * 5 + 3) _ (hg 3 (by omega)); rw [← Nat.add_assoc] at this; exact this
  · have := h (k * 5 + 4) _ (hg 4 (by omega)); rw [← Nat.add_assoc] at this; exact this
theorem NwS.src {S : Nat → Prop} {w : World} {l : List Nw} {a : Option Addr} {c : Nat} (h : NwS S w l a) : Src Try.prog 5 22 (.slice a l.length c) l.length (nRow l) w := by
  rcases h with rfl | ⟨b, o, rfl, -, h3, h4⟩
  · cases a with
    | none => exact Src.ofNil w Try.underlying22 c
    | some a => exact Src.ofSlice w Try.underlying22 a 0 c [] (by simp) (fun j u hj => by simp at hj) (fun u hu => by cases hu)
  · exact Src.ofSlice w Try.underlying22 ⟨b, o, none⟩ l.length c (nRow l) (nRow_len l) (fun j u hj => by rw [Addr.add_lit]; exact NwS.range h4 j u hj) (nRow_one l)
/-- A row of News of a call's own, in block r. -/
abbrev Nr (w : World) (r : Nat) (v : Value) (l : List Nw) : Prop := Rw w r 63 5 v l.length (nRow l)
theorem nr_nws {w : World} {r : Nat} {l : List Nw} {a : Option Addr} {c : Nat} (h : Nr w r (.slice a l.length c) l) : NwS (· = r) w l a := by
  by_cases hn : 0 < l.length
  · obtain ⟨o, cap, e, -, h1, -, h2, -, -⟩ := h.at hn
    cases e
    exact Or.inr ⟨r, o, rfl, rfl, h1, fun k hk => nw_of_range h2 k hk⟩
  · exact Or.inl (List.length_eq_zero_iff.1 (by omega))
/-- News laid behind a row of one's own: B is where the call began. -/
theorem nw_appm {S : Nat → Prop} {w : World} {r : Nat} {a : Option Addr} {c : Nat} {l m : List Nw} {a2 : Option Addr} {c2 : Nat} (h : Nr w r (.slice a l.length c) l) (hm : NwS S w m a2) (hf : (l.length + m.length) * 40 ≤ 140737488355328) {B : Nat} (hB : B ≤ r) {w0 : World} (hb : Below B w0 w) (hB2 : B ≤ w.heap.size) :
    ∃ a' c' W9 r', (∀ ty, (Builtin.append_ #[22, 22] ty #[.slice a l.length c, .slice a2 m.length c2]).run Try.prog w = .ok (.slice a' (l ++ m).length c') W9) ∧ Nr W9 r' (.slice a' (l ++ m).length c') (l ++ m) ∧ B ≤ r' ∧ Below B w0 W9 := by
  obtain ⟨v2, Wn, r2, hrun, hrow, hr2, hxr⟩ := rw_appm (P := Try.prog) Try.underlying22 nInfo rfl h (hm.src (c := c2)) (by omega) (by omega) r
  obtain ⟨a3, c3, rfl⟩ := hrow.slice
  have e1 : (l ++ m).length = l.length + m.length := by simp
  refine ⟨a3, c3, Wn, r2, by rw [e1]; exact hrun, by show Rw _ _ _ _ _ _ _; rw [e1, nRow_app]; exact hrow, by omega, hb.trans (hxr.below hB hB hB2)⟩
/-- One more. -/
theorem nw_app {w : World} {r : Nat} {a : Option Addr} {c : Nat} {l : List Nw} (n : Nw) (h : Nr w r (.slice a l.length c) l) (hf : (l.length + 1) * 40 ≤ 140737488355328) {B : Nat} (hB : B ≤ r) {w0 : World} (hb : Below B w0 w) (hB2 : B ≤ w.heap.size) (W8 : World) (hW8 : W8 = w.alloc (.cells (nC n).toArray 63)) :
    ∃ a' c' W9 r', (∀ ty, (Builtin.append_ #[22, 22] ty #[.slice a l.length c, .slice (some ⟨w.heap.size, 0, none⟩) 1 1]).run Try.prog W8 = .ok (.slice a' (l ++ [n]).length c') W9) ∧ Nr W9 r' (.slice a' (l ++ [n]).length c') (l ++ [n]) ∧ B ≤ r' ∧ Below B w0 W9 := by
  have b8 : Below w.heap.size w W8 := by rw [hW8]; exact gAl _ _
  have r8 : W8.heap[w.heap.size]? = some (.cells (nC n).toArray 63 (0, 0)) := by rw [hW8]; exact heap_alloc_new w _
  have hm : NwS (fun _ => True) W8 [n] (some ⟨w.heap.size, 0, none⟩) := Or.inr ⟨_, 0, rfl, trivial, (Array.getElem?_eq_some_iff.1 r8).1, fun k hk => by
    have : k = 0 := by simp at hk; omega
    subst this
    refine ⟨?_, ?_, ?_, ?_, ?_⟩ <;> (rw [cell_of_row W8 _ _ _ _ (0, 0) r8]; rfl)⟩
  exact nw_appm (m := [n]) (h.below b8) hm (by simpa using hf) hB (hb.trans (b8.mono hB2)) (by have := b8.size; omega)
/-- A row made of some. -/
theorem nw_clone {S : Nat → Prop} {w : World} {m : List Nw} {a2 : Option Addr} {c2 : Nat} (hm : NwS S w m a2) (hf : m.length * 40 ≤ 140737488355328) (a : Option Addr) :
    ∃ a' c' W9 r', (∀ ty, (Builtin.append_ #[22, 22] ty #[.slice a 0 0, .slice a2 m.length c2]).run Try.prog w = .ok (.slice a' m.length c') W9) ∧ Nr W9 r' (.slice a' m.length c') m ∧ w.heap.size ≤ r' ∧ Below w.heap.size w W9 := by
  have h0 : Nr w w.heap.size (.slice a ([] : List Nw).length 0) [] := Or.inl ⟨rfl, rfl, a, rfl⟩
  have := nw_appm (l := []) (c := 0) (c2 := c2) h0 hm (by simpa using hf) (Nat.le_refl w.heap.size) (Below.refl _ w) (Nat.le_refl _)
  simpa using this
end Go.Proofs.Ytfnmfmelcghjbaa
