/- Channel: change, Do. -/
import Derived.Test.YtldbmdalmhhpfaaCwH
namespace Go.Proofs.Ytldbmdalmhhpfaa
open Go.RowKit Go.Lib Go.Ow Go.Cw Go.Cq
set_option linter.unusedVariables false
set_option linter.unusedSimpArgs false
set_option maxRecDepth 100000

theorem three_cells {V : World} {b : Nat} {x y z : Value} {t : TypeId} (h : V.heap[b]? = some (.cells #[x, y, z] t (0, 0))) : V.cell? ⟨b, 0, none⟩ = some x ∧ V.cell? ⟨b, 1, none⟩ = some y ∧ V.cell? ⟨b, 2, none⟩ = some z :=
  ⟨by rw [cell_of_row V b 0 _ _ (0, 0) h]; rfl, by rw [cell_of_row V b 1 _ _ (0, 0) h]; rfl, by rw [cell_of_row V b 2 _ _ (0, 0) h]; rfl⟩
set_option maxHeartbeats 8000000 in
theorem change_any (kd i k : Int) (w : World) (fb r : Nat) (l : List Gm) (h : Fl w fb r l) (hk : kd ≠ 1) :
    Calls Try.prog 32 #[.pointer (some ⟨fb, 0, none⟩), .agg #[.int .i64 kd, .int .i64 i, .int .i64 k]] w fun e w' => e = .returned (.int .i64 (doE l kd i k)) ∧ Dn w fb r (doL l kd i k) w' := by
  obtain ⟨W1, hW1⟩ : ∃ W1, W1 = w.alloc (.cells #[.int .i64 kd, .int .i64 i, .int .i64 k] 37) := ⟨_, rfl⟩
  have b1 : Below w.heap.size w W1 := by rw [hW1]; exact gAl _ _
  have r1 : W1.heap[w.heap.size]? = some (.cells #[.int .i64 kd, .int .i64 i, .int .i64 k] 37 (0, 0)) := by rw [hW1]; exact heap_alloc_new w _
  obtain ⟨bx, hbx⟩ : ∃ bx, bx = w.heap.size := ⟨_, rfl⟩
  have s1 : bx < W1.heap.size := by rw [hW1, hbx]; simp
  rw [← hbx] at r1
  obtain ⟨g0, g1, g2⟩ := three_cells r1
  have HB1 := Lib.hid b1
  have HF := Lib.hid h
  have h' := h.below b1
  have HWS : Hid (W1 = w.alloc (.cells #[.int .i64 kd, .int .i64 i, .int .i64 k] 37) ∧ w.heap.size = bx) := Lib.hid ⟨hW1, hbx.symm⟩
  clear h b1 r1 s1 hW1 hbx
  by_cases h2 : kd = 2
  · subst h2
    have HC := Lib.hid (drop_any i k W1 fb r l h')
    clear h' hk
    go_enter Try.func32, Try.ntmps32
    go_upto_region 1 with (fail)
    rw [← HWS.out.1, HWS.out.2]
    go_wp2_with fail
    refine HC.out.mono ?_
    rintro e w2 ⟨rfl, hd⟩
    have HD := Lib.hid (Dn.open HB1.out hd)
    clear hd
    go_wp2_with fail
    go_ret
    exact ⟨rfl, HD.out⟩
  by_cases h3 : kd = 3
  · subst h3
    have HC := Lib.hid (double_any i k W1 fb r l h')
    clear h' hk h2
    go_enter Try.func32, Try.ntmps32
    go_upto_region 1 with (fail)
    rw [← HWS.out.1, HWS.out.2]
    go_wp2_with fail
    refine HC.out.mono ?_
    rintro e w2 ⟨rfl, hd⟩
    have HD := Lib.hid (Dn.open HB1.out hd)
    clear hd
    go_wp2_with fail
    go_ret
    exact ⟨rfl, HD.out⟩
  by_cases h4 : kd = 4
  · subst h4
    have HC := Lib.hid (delay_any i k W1 fb r l h')
    clear h' hk h2 h3
    go_enter Try.func32, Try.ntmps32
    go_upto_region 1 with (fail)
    rw [← HWS.out.1, HWS.out.2]
    go_wp2_with fail
    refine HC.out.mono ?_
    rintro e w2 ⟨rfl, hd⟩
    have HD := Lib.hid (Dn.open HB1.out hd)
    clear hd
    go_wp2_with fail
    go_ret
    exact ⟨rfl, HD.out⟩
  by_cases h5 : kd = 5
  · subst h5
    have HC := Lib.hid (swap_any i k W1 fb r l h')
    clear h' hk h2 h3 h4
    go_enter Try.func32, Try.ntmps32
    go_upto_region 1 with (fail)
    rw [← HWS.out.1, HWS.out.2]
    go_wp2_with fail
    refine HC.out.mono ?_
    rintro e w2 ⟨rfl, hd⟩
    have HD := Lib.hid (Dn.open HB1.out hd)
    clear hd
    go_wp2_with fail
    go_ret
    exact ⟨rfl, HD.out⟩
  by_cases h6 : kd = 6
  · subst h6
    have HC := Lib.hid (tick_any W1 fb r l h')
    have HZ : Hid (doE l 6 i k = 0 ∧ doL l 6 i k = l.map tickG) := Lib.hid ⟨by simp [doE], by simp [doL, doE]⟩
    clear h' hk h2 h3 h4 h5
    go_enter Try.func32, Try.ntmps32
    go_upto_region 1 with (fail)
    rw [← HWS.out.1, HWS.out.2]
    go_wp2_with fail
    refine HC.out.mono ?_
    rintro e w2 ⟨rfl, hd⟩
    have HD := Lib.hid (Dn.open HB1.out hd)
    clear hd
    go_wp2_with fail
    go_ret
    exact ⟨by rw [HZ.out.1]; rfl, by rw [HZ.out.2]; exact HD.out⟩
  by_cases h7 : kd = 7
  · subst h7
    have HC := Lib.hid (cut_any i k W1 fb r l h')
    clear h' hk h2 h3 h4 h5 h6
    go_enter Try.func32, Try.ntmps32
    go_upto_region 1 with (fail)
    rw [← HWS.out.1, HWS.out.2]
    go_wp2_with fail
    refine HC.out.mono ?_
    rintro e w2 ⟨rfl, hd⟩
    have HD := Lib.hid (Dn.open HB1.out hd)
    clear hd
    go_wp2_with fail
    go_ret
    exact ⟨rfl, HD.out⟩
  have HZ : Hid (doE l kd i k = 1 ∧ doL l kd i k = l) := Lib.hid (by
    have e : doE l kd i k = 1 := by unfold doE; rw [if_neg hk, if_neg h2, if_neg h3, if_neg h4, if_neg h5, if_neg h6, if_neg h7]
    exact ⟨e, by unfold doL; rw [e, if_pos (by decide)]⟩)
  have e2 : (kd == 2) = false := by simpa using h2
  have e3 : (kd == 3) = false := by simpa using h3
  have e4 : (kd == 4) = false := by simpa using h4
  have e5 : (kd == 5) = false := by simpa using h5
  have e6 : (kd == 6) = false := by simpa using h6
  have e7 : (kd == 7) = false := by simpa using h7
  clear h' hk h2 h3 h4 h5 h6 h7
  go_enter Try.func32, Try.ntmps32
  go_upto_region 1 with (fail)
  rw [← HWS.out.1, HWS.out.2]
  go_wp2_with fail
  go_ret
  exact ⟨by rw [HZ.out.1]; rfl, by rw [HZ.out.2]; exact Dn.same HF.out HB1.out⟩
/-- What is told is written beside a flight. -/
theorem dn_write {W w' : World} {fb r xb : Nat} {l : List Gm} {g : Gm} (hd : Dn W fb r l w') (hg : GmB W xb g) (h1 : xb ≠ fb) (h2 : xb ≠ r) (x y : Int) (s : ByteArray) (t : Int) :
    GmB w' xb g ∧ GmB ((((w'.setCell ⟨xb, 0, none⟩ (.int .i64 x)).setCell ⟨xb, 1, none⟩ (.int .i64 y)).setCell ⟨xb, 2, none⟩ (.string s)).setCell ⟨xb, 3, none⟩ (.int .i64 t)) xb ⟨x, y, s, t⟩ ∧
    (∀ w0 : World, Below w0.heap.size w0 W → w0.heap.size ≤ xb → Dn w0 fb r l ((((w'.setCell ⟨xb, 0, none⟩ (.int .i64 x)).setCell ⟨xb, 1, none⟩ (.int .i64 y)).setCell ⟨xb, 2, none⟩ (.string s)).setCell ⟨xb, 3, none⟩ (.int .i64 t))) := by
  have hlow : xb < W.heap.size := (Array.getElem?_eq_some_iff.1 hg).1
  have hx6 : GmB w' xb g := (hd.xr.block xb hlow h1 h2).trans hg
  refine ⟨hx6, hx6.set x y s t, fun w0 hb hxb => ?_⟩
  have h0 := Dn.open hb hd
  obtain ⟨r', hf, hr'⟩ := hd.fl
  have hsz : ((((w'.setCell ⟨xb, 0, none⟩ (.int .i64 x)).setCell ⟨xb, 1, none⟩ (.int .i64 y)).setCell ⟨xb, 2, none⟩ (.string s)).setCell ⟨xb, 3, none⟩ (.int .i64 t)).heap.size = w'.heap.size := by simp [World.setCell]
  have hrx : r' ≠ xb := by
    rcases hr' with rfl | hr'
    · exact Ne.symm h2
    · omega
  have hr' : r' = r ∨ w0.heap.size ≤ r' := by have := hb.size; omega
  exact ⟨⟨r', hf.keep (by rw [hsz]; exact Nat.le_refl _) (gmb_sets _ _ _ _ fb (Ne.symm h1)) (fun _ => gmb_sets _ _ _ _ r' hrx), hr'⟩, ⟨h0.xr.os, h0.xr.tape, h0.xr.output, by rw [hsz]; exact h0.xr.size, fun j hj hp hq => (gmb_sets _ _ _ _ j (by omega)).trans (h0.xr.block j hj hp hq)⟩⟩
set_option maxHeartbeats 8000000 in
theorem do_any (kd i k : Int) (w : World) (fb r : Nat) (l : List Gm) (h : Fl w fb r l) :
    Calls Try.prog 17 #[.pointer (some ⟨fb, 0, none⟩), .agg #[.int .i64 kd, .int .i64 i, .int .i64 k]] w fun e w' => e = .returned (.tuple #[.agg (gmC (doG l kd i k)).toArray, .int .i64 (doE l kd i k)]) ∧ Dn w fb r (doL l kd i k) w' := by
  obtain ⟨W0, hW0⟩ : ∃ W0, W0 = w.alloc (.cells #[.int .i64 kd, .int .i64 i, .int .i64 k] 37) := ⟨_, rfl⟩
  obtain ⟨W1, hW1⟩ : ∃ W1, W1 = W0.alloc (.cells #[.int .i64 0, .int .i64 0, .string ⟨#[]⟩, .int .i64 0] 35) := ⟨_, rfl⟩
  have z0 : W0.heap.size = w.heap.size + 1 := by rw [hW0]; simp
  have b0 : Below w.heap.size w W0 := by rw [hW0]; exact gAl _ _
  have b1 : Below W0.heap.size W0 W1 := by rw [hW1]; exact gAl _ _
  have r0 : W1.heap[w.heap.size]? = some (.cells #[.int .i64 kd, .int .i64 i, .int .i64 k] 37 (0, 0)) := (b1.block _ (by omega)).trans (by rw [hW0]; exact heap_alloc_new w _)
  have r1 : GmB W1 (w.heap.size + 1) zG := by rw [← z0, hW1]; exact heap_alloc_new W0 _
  have b01 := gNx b0 b1
  obtain ⟨bx, hbx⟩ : ∃ bx, bx = w.heap.size := ⟨_, rfl⟩
  obtain ⟨xb, hxb⟩ : ∃ xb, xb = w.heap.size + 1 := ⟨_, rfl⟩
  rw [← hbx] at r0
  rw [← hxb] at r1
  obtain ⟨g0, g1, g2⟩ := three_cells r0
  have h' := h.below b01
  have HG := Lib.hid (isGiven_any W1 fb r l h')
  have HB1 := Lib.hid b01
  have HR1 := Lib.hid r1
  have HNE : Hid (xb ≠ fb ∧ xb ≠ r ∧ w.heap.size ≤ xb) := Lib.hid ⟨by have := h.low; omega, by have := h.rl; omega, by omega⟩
  have HWS : Hid (W1 = (w.alloc (.cells #[.int .i64 kd, .int .i64 i, .int .i64 k] 37)).alloc (.cells #[.int .i64 0, .int .i64 0, .string ⟨#[]⟩, .int .i64 0] 35) ∧ w.heap.size = bx ∧ w.heap.size + 1 = xb) := Lib.hid ⟨by rw [hW1, hW0], hbx.symm, hxb.symm⟩
  by_cases h1 : kd = 1
  · subst h1
    have HC := Lib.hid (take_any i W1 fb r l h')
    have HZ : Hid (doE l 1 i k = takeE l i ∧ doL l 1 i k = takeL l i ∧ doG l 1 i k = takeG l i) := Lib.hid (by
      have e : doE l 1 i k = takeE l i := by simp [doE]
      refine ⟨e, ?_, by simp [doG]⟩
      unfold doL takeL
      rw [e]
      by_cases hz : takeE l i = 0
      · rw [if_neg (by simpa using hz), if_pos rfl, if_pos hz]
      · rw [if_pos hz, if_neg hz])
    obtain ⟨ga, gb, gs, gt, hgm⟩ := gm_parts (takeG l i)
    have HGM := Lib.hid hgm
    rw [hgm] at HC
    clear h h' b0 b1 b01 r0 r1 hW0 hW1 z0 hbx hxb hgm
    go_enter Try.func17, Try.ntmps17
    go_upto_region 1 with (fail)
    rw [← HWS.out.1, HWS.out.2.1]
    rw [← HWS.out.2.1, HWS.out.2.2, HWS.out.2.1]
    go_wp2_with fail
    refine HG.out.mono ?_
    rintro e w2 ⟨rfl, hw2⟩
    rw [hw2]
    clear hw2
    go_wp2_with fail
    refine HC.out.mono ?_
    rintro e w3 ⟨rfl, hd⟩
    rw [show gmC ⟨ga, gb, gs, gt⟩ = [.int .i64 ga, .int .i64 gb, .string gs, .int .i64 gt] from rfl]
    obtain ⟨hx3, hs3, hd3⟩ := dn_write hd HR1.out HNE.out.1 HNE.out.2.1 ga gb gs gt
    obtain ⟨z0, z1, z2, z3, y0, y1, y2, y3⟩ := hx3.cells
    have HS3 := Lib.hid hs3
    have HD3 := Lib.hid (hd3 w HB1.out HNE.out.2.2)
    clear hd hx3 hs3 hd3 g0 g1 g2
    go_wp2_with fail
    refine bodyPost_ret (results_cell2 Try.results17 _ _ xb 0 (gmC ⟨ga, gb, gs, gt⟩) _ rfl (gm_range HS3.out) Try.underlying35 (by rfl) (by kernel_rfl)) rfl ?_
    exact ⟨by rw [HZ.out.1, HZ.out.2.2, HGM.out]; rfl, by rw [HZ.out.2.1]; exact HD3.out⟩
  · have HC := Lib.hid (change_any kd i k W1 fb r l h' h1)
    have e1 : (kd == 1) = false := by simpa using h1
    have HZ : Hid (doG l kd i k = zG) := Lib.hid (by unfold doG; rw [if_neg h1])
    clear h h' b0 b1 b01 r0 r1 hW0 hW1 z0 hbx hxb h1
    go_enter Try.func17, Try.ntmps17
    go_upto_region 1 with (fail)
    rw [← HWS.out.1, HWS.out.2.1]
    rw [← HWS.out.2.1, HWS.out.2.2, HWS.out.2.1]
    go_wp2_with fail
    refine HG.out.mono ?_
    rintro e w2 ⟨rfl, hw2⟩
    rw [hw2]
    clear hw2
    go_wp2_with fail
    refine HC.out.mono ?_
    rintro e w3 ⟨rfl, hd⟩
    obtain ⟨hx3, hs3, hd3⟩ := dn_write hd HR1.out HNE.out.1 HNE.out.2.1 0 0 ⟨#[]⟩ 0
    obtain ⟨z0, z1, z2, z3, y0, y1, y2, y3⟩ := hx3.cells
    have HS3 := Lib.hid hs3
    have HD3 := Lib.hid (hd3 w HB1.out HNE.out.2.2)
    clear hd hx3 hs3 hd3 g0 g1 g2
    go_wp2_with fail
    refine bodyPost_ret (results_cell2 Try.results17 _ _ xb 0 (gmC zG) _ rfl (gm_range HS3.out) Try.underlying35 (by rfl) (by kernel_rfl)) rfl ?_
    exact ⟨by rw [HZ.out]; rfl, HD3.out⟩
end Go.Proofs.Ytldbmdalmhhpfaa
