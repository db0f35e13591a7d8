/- Channel: Ready. -/
import Derived.Test.YtldbmdalmhhpfaaCwK
namespace Go.Proofs.Ytldbmdalmhhpfaa
open Go.RowKit Go.Lib Go.Ow Go.Cw Go.Cq
set_option linter.unusedVariables false
set_option linter.unusedSimpArgs false
set_option maxRecDepth 100000

theorem inInfo : (Try.prog.info? 3).map (fun i => (i.zero, i.size, i.bytes)) = some (some (.int .i64 0), 1, 8) := by kernel_rfl
/-- Integers of a list. -/
def iv (xs : List Int) : List Value := xs.map (Value.int .i64)
/-- Integers in a row of their own. -/
def Ints1 (w : World) (xs : List Int) (e : Ending) (w' : World) : Prop := Below w.heap.size w w' ∧ ∃ v r, e = .returned v ∧ w.heap.size ≤ r ∧ Rw w' r 3 1 v xs.length (iv xs)
theorem readyK_go (l : List Gm) {k : Nat} (h : k < l.length) : readyK l (k + 1) = if l[k].wt = 0 then readyK l k ++ [(k : Int)] else readyK l k := by
  unfold readyK
  rw [List.range_succ, List.filter_append, List.map_append]
  have e : l.getD k zG = l[k] := by rw [List.getD_eq_getElem?_getD, List.getElem?_eq_getElem h]; rfl
  by_cases hz : l[k].wt = 0
  · rw [if_pos hz, List.filter_cons_of_pos (by rw [e]; simpa using hz)]; simp
  · rw [if_neg hz, List.filter_cons_of_neg (by rw [e]; simpa using hz)]; simp
theorem readyK_len (l : List Gm) (k : Nat) : (readyK l k).length ≤ k := by
  unfold readyK
  rw [List.length_map]
  exact Nat.le_trans (List.length_filter_le _ _) (by simp)
/-- One integer more. -/
theorem iv_app {w : World} {r k : Nat} {a : Option Addr} {c : Nat} {xs : List Int} (z : Int) (h : Rw w r 3 1 (.slice a xs.length c) xs.length (iv xs)) (hk : xs.length ≤ k) (hf : (k + 1) * 8 ≤ 140737488355328) {B : Nat} (hB : B ≤ r) {w0 : World} (hb : Below B w0 w) (hB2 : B ≤ w.heap.size) (W8 : World) (hW8 : W8 = w.alloc (.cells #[.int .i64 z] 3)) :
    ∃ a' c' W9 r', (∀ ty, (Builtin.append_ #[52, 52] ty #[.slice a xs.length c, .slice (some ⟨w.heap.size, 0, none⟩) 1 1]).run Try.prog W8 = .ok (.slice a' (xs ++ [z]).length c') W9) ∧ Rw W9 r' 3 1 (.slice a' (xs ++ [z]).length c') (xs ++ [z]).length (iv (xs ++ [z])) ∧ B ≤ r' ∧ Below B w0 W9 := by
  have b8 : Below w.heap.size w W8 := by rw [hW8]; exact gAl _ _
  have r8 : W8.heap[w.heap.size]? = some (.cells [.int .i64 z].toArray 3 (0, 0)) := by rw [hW8]; exact heap_alloc_new w _
  obtain ⟨v2, Wn, r2, hrun, hrow, hr2, hxr, hoth⟩ := rw_app (P := Try.prog) (vb := w.heap.size) (vs := [.int .i64 z]) Try.underlying52 inInfo rfl (h.below b8) r8 rfl (by intro v hv; rw [List.mem_singleton] at hv; subst hv; rfl) (by omega) (by omega) r
  obtain ⟨a2, c2, rfl⟩ := hrow.slice
  have e1 : (xs ++ [z]).length = xs.length + 1 := by simp
  have e2 : iv (xs ++ [z]) = iv xs ++ [.int .i64 z] := by simp [iv]
  refine ⟨a2, c2, Wn, r2, by rw [e1]; exact hrun, by rw [e1, e2]; exact hrow, by have := b8.size; omega, hb.trans ((b8.mono hB2).trans (hxr.below hB hB (by have := b8.size; omega)))⟩
set_option maxHeartbeats 8000000 in
theorem ready_any (w : World) (fb r : Nat) (l : List Gm) (h : Fl w fb r l) : Calls Try.prog 19 #[.pointer (some ⟨fb, 0, none⟩)] w fun e w' => Ints1 w (readyL l) e w' := by
  have HG := Lib.hid (isGiven_any w fb r l h)
  have HFEW : Hid (l.length ≤ 65536) := Lib.hid h.good.few
  obtain ⟨v, h1, h2⟩ := h.row
  obtain ⟨c0, c1, -, -⟩ := two_cells h1
  obtain ⟨va, vc, rfl⟩ := h2.slice
  have HR := Lib.hid (fun V (hV : Below w.heap.size w V) => h2.below hV)
  clear h h1 h2
  go_enter Try.func19, Try.ntmps19
  go_wp2_with fail
  refine HG.out.mono ?_
  rintro e w2 ⟨rfl, hw2⟩
  rw [hw2]
  clear hw2
  go_wp2_with fail
  clear c0 c1
  go_loopw [14, 3] (fun ii v wr => ∃ (k : Nat) (a : Option Addr) (c : Nat) (r' : Nat), ii = .int .i64 (k : Int) ∧ v = .slice a (readyK l k).length c ∧ k ≤ l.length ∧ w.heap.size ≤ r' ∧ Rw wr r' 3 1 (.slice a (readyK l k).length c) (readyK l k).length (iv (readyK l k)) ∧ Below w.heap.size w wr) (fun ii _ _ => l.length - (RowKit.intOf ii).toNat)
  case atStart => exact ⟨0, none, 0, w.heap.size, rfl, rfl, Nat.zero_le _, Nat.le_refl _, Or.inl ⟨rfl, rfl, none, rfl⟩, Below.refl _ _⟩
  case round =>
    obtain ⟨k, a, c, r', rfl, rfl, hk, hr', hrow, hbel⟩ := hrel
    obtain ⟨wo, hwo⟩ : ∃ wo, wo = wr := ⟨_, rfl⟩
    subst hwo
    have HB := Lib.hid hbel
    have HROW := Lib.hid hrow
    have HR2 := Lib.hid hr'
    by_cases hlt : k < l.length
    · have hlti : (k : Int) < (l.length : Int) := by omega
      have hk0 : (0 : Int) ≤ (k : Int) := by omega
      have hkw : IntKind.i64.wrap ((k : Int) + 1) = (k : Int) + 1 := by rw [IntKind.wrap_i64]; have := HFEW.out; omega
      have HK1 : Hid (k + 1 ≤ l.length ∧ l.length - (k + 1) < l.length - k ∧ ((k : Int) + 1).toNat = k + 1 ∧ (k : Int) + 1 = ((k + 1 : Nat) : Int)) := Lib.hid ⟨by omega, by omega, by omega, by omega⟩
      obtain ⟨o, cap, e1, hcap, hlow, hcur, hra, hth, hml⟩ := (HR.out wo hbel).at (by omega)
      simp only [Value.slice.injEq, true_and] at e1
      obtain ⟨rfl, rfl⟩ := e1
      obtain ⟨k0, k1, k2, k3⟩ := gm_cells hra hlt
      have HGO := Lib.hid (readyK_go l hlt)
      have HRL := Lib.hid (readyK_len l k)
      generalize l[k] = g at *
      obtain ⟨x, y, s, t⟩ := g
      simp only at k0 k1 k2 k3
      have hbl : w.heap.size ≤ wo.heap.size := hbel.size
      have HBL := Lib.hid hbl
      clear hlt hk hrow hr' hbel hcap hlow hcur hra hth hml hbl
      go_wp2_with fail
      refine (mayArrive_any x y s t _).mono ?_
      rintro e w3 ⟨rfl, hb3⟩
      have HB3 : Hid (Below wo.heap.size wo w3) := Lib.hid (gNx (gAl wo _) hb3)
      clear hb3 k0 k1 k2 k3
      by_cases hz : t = 0
      · subst hz
        have HGN := Lib.hid (HGO.out.trans (if_pos rfl))
        clear HGO
        obtain ⟨W8, hW8⟩ : ∃ W8, W8 = w3.alloc (.cells #[.int .i64 (k : Int)] 3) := ⟨_, rfl⟩
        obtain ⟨a', c', W9, r9, hrun, hrow9, hr9, hb9⟩ := iv_app (k : Int) (HROW.out.below HB3.out) HRL.out (by have := HFEW.out; have := HK1.out; omega) HR2.out (HB.out.trans (HB3.out.mono HBL.out)) (Nat.le_trans HBL.out HB3.out.size) W8 hW8
        rw [hW8] at hrun
        have HRUN := Lib.hid hrun
        have HROW9 := Lib.hid hrow9
        have HR9 := Lib.hid hr9
        have HB9 := Lib.hid hb9
        clear hrun hrow9 hr9 hb9 hW8
        go_wp2_with (at_builtin; refine Lib.wpList_append_run _ rfl _ _ _ _ rfl _ _ rfl rfl _ _ (HRUN.out _) ?_)
        all_goals
          refine ⟨⟨k + 1, a', c', r9, congrArg (Value.int .i64) HK1.out.2.2.2, by rw [HGN.out, List.length_append]; rfl, HK1.out.1, HR9.out, by rw [HGN.out]; exact HROW9.out, HB9.out⟩, ?_⟩
          show l.length - ((k : Int) + 1).toNat < l.length - (k : Int).toNat
          rw [HK1.out.2.2.1]
          exact HK1.out.2.1
      · have HGN := Lib.hid (HGO.out.trans (if_neg hz))
        clear HGO
        have hz2 : (t == 0) = false := by simpa using hz
        clear hz
        go_wp2_with fail
        refine ⟨⟨k + 1, a, c, r', congrArg (Value.int .i64) HK1.out.2.2.2, by rw [HGN.out], HK1.out.1, HR2.out, by rw [HGN.out]; exact HROW.out.below HB3.out, HB.out.trans (HB3.out.mono HBL.out)⟩, ?_⟩
        show l.length - ((k : Int) + 1).toNat < l.length - (k : Int).toNat
        rw [HK1.out.2.2.1]
        exact HK1.out.2.1
    · have hnk : ¬ (k : Int) < (l.length : Int) := by omega
      obtain rfl : k = l.length := by omega
      clear hlt hk hrow hr' hbel
      go_wp2_with fail
      refine bodyPost_ret (v := .slice a (readyK l l.length).length c) (by simp [results, Try.results19, go_sem]) rfl ?_
      exact ⟨HB.out, _, _, rfl, HR2.out, HROW.out⟩
end Go.Proofs.Ytldbmdalmhhpfaa
