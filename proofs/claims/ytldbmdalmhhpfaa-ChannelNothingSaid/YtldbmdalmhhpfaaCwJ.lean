/- Channel: slices.Clone, All. -/
import Derived.Test.YtldbmdalmhhpfaaCwI
namespace Go.Cw
open Go.RowKit Go.Lib Go.Ow
set_option linter.unusedVariables false
set_option linter.unusedSimpArgs false
theorem rw_src {P : Program} {w : World} {r k n : Nat} {T TS : TypeId} {u : Value} {ys : List Value} (hu : P.underlying TS = some (.slice T)) (h : Rw w r T k u n ys) (h1 : ∀ y ∈ ys, y.oneCell' = true) : Src P k TS u n ys w := by
  by_cases hn : 0 < n
  · obtain ⟨o, cap, rfl, hc, -, -, hra, -, -⟩ := h.at hn
    exact Src.ofSlice w hu ⟨r, o, none⟩ n cap ys h.len (fun j u hj => by rw [Addr.add_lit]; exact hra j u hj) h1
  · obtain ⟨a, c, rfl⟩ := h.slice
    have hl := h.len
    obtain rfl : n = 0 := by omega
    have hys : ys = [] := List.length_eq_zero_iff.1 (by rw [hl]; simp)
    subst hys
    rcases h with ⟨-, -, a', e⟩ | ⟨o, cap, cur, e, -⟩
    · cases e
      cases a with
      | none => exact Src.ofNil w hu 0
      | some a => exact Src.ofSlice w hu a 0 0 [] (by simp) (fun j u hj => by simp at hj) (fun u hu => by cases hu)
    · cases e
      exact Src.ofSlice w hu ⟨r, o, none⟩ 0 c [] (by simp) (fun j u hj => by simp at hj) (fun u hu => by cases hu)
/-- A row laid behind none. -/
theorem rw_clone {P : Program} {w : World} {k bytes m : Nat} {T TS : TypeId} {sv : Value} {z : Value} {vs : List Value} (hu : P.underlying TS = some (.slice T)) (hinfo : (P.info? T).map (fun i => (i.zero, i.size, i.bytes)) = some (some z, k, bytes)) (hz : z.cells.size = k)
    (hsrc : Src P k TS sv m vs w) (hfit : m * bytes ≤ 140737488355328) (hm : m < 4611686018427387904) (a : Option Addr) :
    ∃ v' w', (∀ ty, (Builtin.append_ #[TS, TS] ty #[.slice a 0 0, sv]).run P w = .ok v' w') ∧ Rw w' w.heap.size T k v' m vs ∧ Below w.heap.size w w' := by
  have hvl := hsrc.newsLen
  obtain ⟨i0, hi0, hz0, hzs, hzb⟩ := info_parts hinfo
  have hml : m ≤ maxLen := by unfold maxLen; omega
  by_cases h0 : m = 0
  · subst h0
    have hvs : vs = [] := List.length_eq_zero_iff.1 (by rw [hvl]; simp)
    subst hvs
    refine ⟨.slice a 0 0, w, fun ty => ?_, Or.inl ⟨rfl, rfl, a, rfl⟩, Below.refl _ _⟩
    have hs' : Src P i0.size TS sv 0 [] w := by rw [hzs]; exact hsrc
    cases a with
    | none => simp [Builtin.append_, run_underlying hu, sizeOf, typeInfo, hi0, hs'.len, hs'.cells]
    | some a => obtain ⟨ab, ao, af⟩ := a; simp [Builtin.append_, run_underlying hu, sizeOf, typeInfo, hi0, hs'.len, hs'.cells, storeCells]
  · refine ⟨_, _, fun ty => run_append_grow_src w TS TS ty T i0 _ hu hi0 hz0 a 0 0 [] (by
        rw [hzs]
        cases a with
        | none => exact run_firstCells_none w.drew k 0 0 0
        | some a => exact run_firstCells_some w.drew k 0 a 0 0 [] (by simp) (fun j v hj => by simp at hj)) _ m vs (by rw [hzs]; exact hsrc) (by omega) (by unfold maxLen at hml; omega) (by rw [hzb]; exact growslice_fits (by omega) (by simpa using hfit)), ?_, ((Below.refl w.heap.size w).drew).alloc (Nat.le_refl _) _⟩
    have hG := grownCap_ge w (0 + m) 0 T
    refine Or.inr ⟨0, grownCap w (0 + m) 0 T, _, by rw [Nat.zero_add], heap_alloc_new w.drew _, by omega, grownCap_le_maxLen w _ _ _ (by omega), ?_, ?_⟩
    · rw [Array.size_append, zero_size, hz, List.size_toArray, List.nil_append, hvl, Nat.zero_add, ← Nat.add_mul]
      rw [Nat.zero_add] at hG ⊢
      congr 1; omega
    · have e : m * k = vs.length := hvl.symm
      rw [Array.toList_append, List.drop_zero, List.nil_append, List.take_append_of_le_length (by rw [e]; simp), e, List.take_of_length_le (by simp)]
end Go.Cw
namespace Go.Proofs.Ytldbmdalmhhpfaa
open Go.RowKit Go.Lib Go.Ow Go.Cw Go.Cq
set_option linter.unusedVariables false
set_option linter.unusedSimpArgs false
set_option maxRecDepth 100000

theorem gmNil (V : World) (a : Option Addr) (n c : Nat) : (binOp .eql 22 (.slice a n c) (.slice none 0 0)).run Try.prog V = .ok (.bool a.isNone) V := Lib.run_eql_slice_nil V 22 _ a n c 0 0 Try.underlying22
/-- A row of datagrams of its own. -/
def Row1 (w : World) (l : List Gm) (e : Ending) (w' : World) : Prop := Below w.heap.size w w' ∧ ∃ v r, e = .returned v ∧ w.heap.size ≤ r ∧ Rw w' r 35 4 v l.length (gmRow l)
set_option maxHeartbeats 4000000 in
theorem gmClone_any (l : List Gm) (v : Value) (w : World) (hsrc : ∀ V, Below w.heap.size w V → Src Try.prog 4 22 v l.length (gmRow l) V) (hs : ∃ a c, v = .slice a l.length c ∧ (a = none → l = [])) (hl : l.length * 40 ≤ 140737488355328) :
    Calls Try.prog 23 #[v] w fun e w' => Row1 w l e w' := by
  obtain ⟨a, c, rfl, hnil⟩ := hs
  have heq := gmNil
  cases a with
  | none =>
    obtain rfl := hnil rfl
    clear hsrc hl hnil
    go_enter Try.func23, Try.ntmps23
    go_wp2_with fail
    go_ret
    exact ⟨Below.refl _ _, _, w.heap.size, rfl, Nat.le_refl _, Or.inl ⟨rfl, rfl, none, rfl⟩⟩
  | some a =>
    obtain ⟨b, o, fz⟩ := a
    obtain ⟨v, V, hrun, ho, hb⟩ := rw_clone (P := Try.prog) (w := w.alloc (.cells #[] 35)) Try.underlying22 gmInfo rfl (hsrc _ (gAl _ _)) hl (by omega) (some ⟨w.heap.size, 0, none⟩)
    have HR := Lib.hid hrun
    have HO : Hid (w.heap.size ≤ (w.alloc (.cells #[] 35)).heap.size ∧ Rw V (w.alloc (.cells #[] 35)).heap.size 35 4 v l.length (gmRow l)) := Lib.hid ⟨(gAl w _).size, ho⟩
    have HB := Lib.hid (gNx (gAl w (.cells #[] 35)) hb)
    clear hsrc hl hnil hrun ho hb
    go_enter Try.func23, Try.ntmps23
    go_wp2_with (at_builtin; refine Lib.wpList_append_run _ rfl _ _ _ _ rfl _ _ rfl rfl _ _ (HR.out _) ?_)
    go_ret
    exact ⟨HB.out, _, _, rfl, HO.out.1, HO.out.2⟩
set_option maxHeartbeats 4000000 in
theorem all_any (w : World) (fb r : Nat) (l : List Gm) (h : Fl w fb r l) : Calls Try.prog 16 #[.pointer (some ⟨fb, 0, none⟩)] w fun e w' => Row1 w l e w' := by
  have hg := isGiven_any w fb r l h
  have hfew := h.good.few
  obtain ⟨v, h1, h2⟩ := h.row
  obtain ⟨c0, c1, -, -⟩ := two_cells h1
  obtain ⟨va, vc, rfl⟩ := h2.slice
  have hcl := gmClone_any l _ w (fun V hV => rw_src Try.underlying22 (h2.below hV) (gmRow_one l)) ⟨va, vc, rfl, fun e => by
    subst e
    rcases h2 with ⟨h0, -⟩ | ⟨o, cap, cur, e, -⟩
    · exact List.length_eq_zero_iff.1 h0
    · simp at e⟩ (by omega)
  have HG := Lib.hid hg
  have HC := Lib.hid hcl
  clear h h1 h2 hg hcl hfew
  go_enter Try.func16, Try.ntmps16
  go_wp2_with fail
  refine HG.out.mono ?_
  rintro e w2 ⟨rfl, hw2⟩
  rw [hw2]
  clear hw2
  go_wp2_with fail
  refine HC.out.mono ?_
  rintro e w2 ⟨hb2, v2, r2, rfl, hr2, hrw2⟩
  have HE : Hid (Below w.heap.size w w2 ∧ w.heap.size ≤ r2 ∧ Rw w2 r2 35 4 v2 l.length (gmRow l)) := Lib.hid ⟨hb2, hr2, hrw2⟩
  clear hb2 hr2 hrw2 c0 c1
  go_wp2_with fail
  refine bodyPost_ret (v := v2) (by simp [results, Try.results16, go_sem]) rfl ?_
  exact ⟨HE.out.1, _, _, rfl, HE.out.2⟩
end Go.Proofs.Ytldbmdalmhhpfaa
