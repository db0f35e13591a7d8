/- Channel: the document's Do. -/
import Derived.Test.YtldbmdalmhhpfaaCwU
namespace Go.Proofs.Ytldbmdalmhhpfaa
open Go.RowKit Go.Lib Go.Ow Go.Cw Go.Cq
set_option linter.unusedVariables false
set_option linter.unusedSimpArgs false
set_option maxRecDepth 100000

/-- The result's block is written: the list is told all the same. -/
theorem lg_end {w W1 w2 V : World} {xb lb : Nat} {l : List Gm} {g : Gm} {E : Int} {e : Ending} (h1 : Below w.heap.size w W1) (h2 : Below W1.heap.size W1 w2) (hx : w.heap.size ≤ xb) (hx2 : xb < W1.heap.size) (ho : ∀ j, j ≠ xb → V.heap[j]? = w2.heap[j]?) (hs : V.heap.size = w2.heap.size ∧ V.os = w2.os ∧ V.tape = w2.tape ∧ V.output = w2.output)
    (h : ∃ a c b, e = .returned (.tuple #[.slice a l.length c, .agg (gmC g).toArray, .int .i64 E]) ∧ Gs w2 b l a ∧ (b = lb ∨ W1.heap.size ≤ b)) (hlb : lb < w.heap.size ∨ l = []) : LG w lb l g E e V := by
  have hb := gNx h1 h2
  obtain ⟨a, c, b, h3, h4, h5⟩ := h
  refine ⟨⟨hs.2.1.trans hb.os, hs.2.2.1.trans hb.tape, hs.2.2.2.trans hb.output, by rw [hs.1]; exact hb.size, fun j hj => (ho j (by omega)).trans (hb.block j hj)⟩, a, c, b, h3, ?_, ?_⟩
  · rcases hlb with hlb | rfl
    · exact h4.keep (by rw [hs.1]; exact Nat.le_refl _) (ho b (by omega))
    · exact Or.inl rfl
  · have := h1.size
    omega
set_option maxHeartbeats 16000000 in
theorem rDo_take (i k : Int) (l : List Gm) (hgd : Cq.Good l) (lb : Nat) (la : Option Addr) (lc : Nat) (w : World) (h : Gs w lb l la) :
    Calls Try.prog 29 #[.slice la l.length lc, .agg #[.int .i64 (1), .int .i64 i, .int .i64 k]] w fun e w' => LG w lb (doL l (1) i k) (doG l (1) i k) (doE l (1) i k) e w' := by
  obtain ⟨W0, hW0⟩ : ∃ W0, W0 = w.alloc (.cells #[.int .i64 (1), .int .i64 i, .int .i64 k] 37) := ⟨_, rfl⟩
  obtain ⟨W1, hW1⟩ : ∃ W1, W1 = W0.alloc (.cells #[.int .i64 0, .int .i64 0, .string ⟨#[]⟩, .int .i64 0] 35) := ⟨_, rfl⟩
  have z0 : W0.heap.size = w.heap.size + 1 := by rw [hW0]; simp
  have z1 : W1.heap.size = w.heap.size + 2 := by rw [hW1]; simp [z0]
  have b0 : Below w.heap.size w W0 := by rw [hW0]; exact gAl _ _
  have b1 : Below W0.heap.size W0 W1 := by rw [hW1]; exact gAl _ _
  have r0 : W1.heap[w.heap.size]? = some (.cells #[.int .i64 (1), .int .i64 i, .int .i64 k] 37 (0, 0)) := (b1.block _ (by omega)).trans (by rw [hW0]; exact heap_alloc_new w _)
  have r1 : GmB W1 (w.heap.size + 1) zG := by rw [← z0, hW1]; exact heap_alloc_new W0 _
  have b01 := gNx b0 b1
  obtain ⟨bx, hbx⟩ : ∃ bx, bx = w.heap.size := ⟨_, rfl⟩
  obtain ⟨xb, hxb⟩ : ∃ xb, xb = w.heap.size + 1 := ⟨_, rfl⟩
  rw [← hbx] at r0
  rw [← hxb] at r1
  have HB1 := Lib.hid b01
  have HGS := Lib.hid (fun V (hV : Below w.heap.size w V) => h.below hV)
  have HXL : Hid (w.heap.size ≤ xb ∧ xb < W1.heap.size) := Lib.hid ⟨by omega, by omega⟩
  have HLB : Hid (lb < w.heap.size ∨ l = []) := Lib.hid (by
    rcases h with h | ⟨_, _, h, _⟩
    · exact Or.inr h
    · exact Or.inl h)
  have HC : Hid (∀ V, Below W1.heap.size W1 V → V.cell? ⟨bx, 0, none⟩ = some (.int .i64 (1)) ∧ V.cell? ⟨bx, 1, none⟩ = some (.int .i64 i) ∧ V.cell? ⟨bx, 2, none⟩ = some (.int .i64 k) ∧ GmB V xb zG) := Lib.hid (fun V hV => by
    obtain ⟨p0, p1, p2⟩ := three_cells ((hV.block bx (by omega)).trans r0)
    exact ⟨p0, p1, p2, (hV.block xb (by omega)).trans r1⟩)
  have HFEW : Hid (l.length ≤ 65536) := Lib.hid hgd.few
  have HCP := Lib.hid (rCopy_any l lb la lc W1 (h.below b01) (by have := hgd.few; omega))
  have HWS : Hid (W1 = (w.alloc (.cells #[.int .i64 (1), .int .i64 i, .int .i64 k] 37)).alloc (.cells #[.int .i64 0, .int .i64 0, .string ⟨#[]⟩, .int .i64 0] 35) ∧ w.heap.size = bx ∧ w.heap.size + 1 = xb) := Lib.hid ⟨by rw [hW1, hW0], hbx.symm, hxb.symm⟩
  have HTK := Lib.hid (fun V (hV : Below W1.heap.size W1 V) => rTake_any i l hgd lb la lc V (h.below (gNx b01 hV)))
  have HZ : Hid (doE l 1 i k = takeE l i ∧ doL l 1 i k = takeL l i ∧ doG l 1 i k = takeG l i) := Lib.hid (by
    have e : doE l 1 i k = takeE l i := by simp [doE]
    refine ⟨e, ?_, by simp [doG]⟩
    unfold doL takeL
    rw [e]
    by_cases hz : takeE l i = 0
    · rw [if_neg (by simpa using hz), if_pos rfl, if_pos hz]
    · rw [if_pos hz, if_neg hz])
  have HLT : Hid (lb < w.heap.size ∨ takeL l i = []) := Lib.hid (by
    rcases HLB.out with h | h
    · exact Or.inl h
    · right; subst h; unfold takeL; split <;> simp)
  obtain ⟨q1, hq1⟩ : ∃ q, (decide ((0 : Int) ≤ i)) = q := ⟨_, rfl⟩
  obtain ⟨q2, hq2⟩ : ∃ q, (decide (i < (l.length : Int))) = q := ⟨_, rfl⟩
  clear h hgd b0 b1 b01 r0 r1 hW0 hW1 z0 z1 hbx hxb
  cases q1 with
  | false =>
    go_enter Try.func29, Try.ntmps29
    go_upto_region 1 with (fail)
    rw [← HWS.out.1, HWS.out.2.1]
    rw [← HWS.out.2.1, HWS.out.2.2, HWS.out.2.1]
    obtain ⟨g0, g1, g2, gz⟩ := HC.out W1 (Below.refl _ _)
    go_wp2_with fail
    refine HCP.out.mono ?_
    rintro e w2 ⟨hb2, v2, r2, rfl, hr2, hrow2⟩
    obtain ⟨a2, c2, rfl⟩ := hrow2.slice
    have HB2 := Lib.hid hb2
    have HROW2 := Lib.hid hrow2
    clear hb2 hr2 hrow2 g0 g1 g2 gz
    obtain ⟨g0, g1, g2, gz⟩ := HC.out w2 HB2.out
    go_wp2_with fail
    refine (HTK.out w2 HB2.out).mono ?_
    rintro e w3 ⟨hb3, a3, c3, b3, rfl, hgs3, hbb3⟩
    obtain ⟨ga, gb, gs, gt, hgm⟩ := gm_parts (takeG l i)
    have HGM := Lib.hid hgm
    rw [hgm, show gmC ⟨ga, gb, gs, gt⟩ = [.int .i64 ga, .int .i64 gb, .string gs, .int .i64 gt] from rfl]
    have HB3 := Lib.hid (gNx HB2.out hb3)
    have HG3 := Lib.hid (And.intro hgs3 (show b3 = lb ∨ W1.heap.size ≤ b3 by have := HB2.out.size; omega))
    have hx3 := (HC.out w3 HB3.out).2.2.2
    obtain ⟨z0, z1, z2, z3, y0, y1, y2, y3⟩ := hx3.cells
    have HW := Lib.hid (hx3.set ga gb gs gt)
    have HO := Lib.hid (fun (j : Nat) (hj : j ≠ xb) => gmb_sets (w := w3) (.int .i64 ga) (.int .i64 gb) (.string gs) (.int .i64 gt) j hj)
    clear hb3 hgs3 hbb3 hgm hx3 g0 g1 g2 gz
    go_wp2_with fail
    refine bodyPost_ret (results_cellM Try.results29 _ _ xb 0 (gmC ⟨ga, gb, gs, gt⟩) _ rfl (gm_range HW.out) Try.underlying35 (by rfl) (by kernel_rfl)) rfl ?_
    rw [HZ.out.1, HZ.out.2.1, HZ.out.2.2, HGM.out]
    exact lg_end (lb := lb) HB1.out HB3.out HXL.out.1 HXL.out.2 HO.out ⟨by simp [World.setCell], rfl, rfl, rfl⟩ ⟨a3, c3, b3, rfl, HG3.out.1, HG3.out.2⟩ HLT.out

  | true =>
    go_enter Try.func29, Try.ntmps29
    go_upto_region 1 with (fail)
    rw [← HWS.out.1, HWS.out.2.1]
    rw [← HWS.out.2.1, HWS.out.2.2, HWS.out.2.1]
    obtain ⟨g0, g1, g2, gz⟩ := HC.out W1 (Below.refl _ _)
    go_wp2_with fail
    refine HCP.out.mono ?_
    rintro e w2 ⟨hb2, v2, r2, rfl, hr2, hrow2⟩
    obtain ⟨a2, c2, rfl⟩ := hrow2.slice
    have HB2 := Lib.hid hb2
    have HROW2 := Lib.hid hrow2
    clear hb2 hr2 hrow2 g0 g1 g2 gz
    obtain ⟨g0, g1, g2, gz⟩ := HC.out w2 HB2.out
    go_wp2_with fail
    refine (HTK.out w2 HB2.out).mono ?_
    rintro e w3 ⟨hb3, a3, c3, b3, rfl, hgs3, hbb3⟩
    obtain ⟨ga, gb, gs, gt, hgm⟩ := gm_parts (takeG l i)
    have HGM := Lib.hid hgm
    rw [hgm, show gmC ⟨ga, gb, gs, gt⟩ = [.int .i64 ga, .int .i64 gb, .string gs, .int .i64 gt] from rfl]
    have HB3 := Lib.hid (gNx HB2.out hb3)
    have HG3 := Lib.hid (And.intro hgs3 (show b3 = lb ∨ W1.heap.size ≤ b3 by have := HB2.out.size; omega))
    have hx3 := (HC.out w3 HB3.out).2.2.2
    obtain ⟨z0, z1, z2, z3, y0, y1, y2, y3⟩ := hx3.cells
    have HW := Lib.hid (hx3.set ga gb gs gt)
    have HO := Lib.hid (fun (j : Nat) (hj : j ≠ xb) => gmb_sets (w := w3) (.int .i64 ga) (.int .i64 gb) (.string gs) (.int .i64 gt) j hj)
    clear hb3 hgs3 hbb3 hgm hx3 g0 g1 g2 gz
    go_wp2_with fail
    refine bodyPost_ret (results_cellM Try.results29 _ _ xb 0 (gmC ⟨ga, gb, gs, gt⟩) _ rfl (gm_range HW.out) Try.underlying35 (by rfl) (by kernel_rfl)) rfl ?_
    rw [HZ.out.1, HZ.out.2.1, HZ.out.2.2, HGM.out]
    exact lg_end (lb := lb) HB1.out HB3.out HXL.out.1 HXL.out.2 HO.out ⟨by simp [World.setCell], rfl, rfl, rfl⟩ ⟨a3, c3, b3, rfl, HG3.out.1, HG3.out.2⟩ HLT.out

set_option maxHeartbeats 16000000 in
theorem rDo_tick (i k : Int) (l : List Gm) (hgd : Cq.Good l) (lb : Nat) (la : Option Addr) (lc : Nat) (w : World) (h : Gs w lb l la) :
    Calls Try.prog 29 #[.slice la l.length lc, .agg #[.int .i64 (6), .int .i64 i, .int .i64 k]] w fun e w' => LG w lb (doL l (6) i k) (doG l (6) i k) (doE l (6) i k) e w' := by
  obtain ⟨W0, hW0⟩ : ∃ W0, W0 = w.alloc (.cells #[.int .i64 (6), .int .i64 i, .int .i64 k] 37) := ⟨_, rfl⟩
  obtain ⟨W1, hW1⟩ : ∃ W1, W1 = W0.alloc (.cells #[.int .i64 0, .int .i64 0, .string ⟨#[]⟩, .int .i64 0] 35) := ⟨_, rfl⟩
  have z0 : W0.heap.size = w.heap.size + 1 := by rw [hW0]; simp
  have z1 : W1.heap.size = w.heap.size + 2 := by rw [hW1]; simp [z0]
  have b0 : Below w.heap.size w W0 := by rw [hW0]; exact gAl _ _
  have b1 : Below W0.heap.size W0 W1 := by rw [hW1]; exact gAl _ _
  have r0 : W1.heap[w.heap.size]? = some (.cells #[.int .i64 (6), .int .i64 i, .int .i64 k] 37 (0, 0)) := (b1.block _ (by omega)).trans (by rw [hW0]; exact heap_alloc_new w _)
  have r1 : GmB W1 (w.heap.size + 1) zG := by rw [← z0, hW1]; exact heap_alloc_new W0 _
  have b01 := gNx b0 b1
  obtain ⟨bx, hbx⟩ : ∃ bx, bx = w.heap.size := ⟨_, rfl⟩
  obtain ⟨xb, hxb⟩ : ∃ xb, xb = w.heap.size + 1 := ⟨_, rfl⟩
  rw [← hbx] at r0
  rw [← hxb] at r1
  have HB1 := Lib.hid b01
  have HGS := Lib.hid (fun V (hV : Below w.heap.size w V) => h.below hV)
  have HXL : Hid (w.heap.size ≤ xb ∧ xb < W1.heap.size) := Lib.hid ⟨by omega, by omega⟩
  have HLB : Hid (lb < w.heap.size ∨ l = []) := Lib.hid (by
    rcases h with h | ⟨_, _, h, _⟩
    · exact Or.inr h
    · exact Or.inl h)
  have HC : Hid (∀ V, Below W1.heap.size W1 V → V.cell? ⟨bx, 0, none⟩ = some (.int .i64 (6)) ∧ V.cell? ⟨bx, 1, none⟩ = some (.int .i64 i) ∧ V.cell? ⟨bx, 2, none⟩ = some (.int .i64 k) ∧ GmB V xb zG) := Lib.hid (fun V hV => by
    obtain ⟨p0, p1, p2⟩ := three_cells ((hV.block bx (by omega)).trans r0)
    exact ⟨p0, p1, p2, (hV.block xb (by omega)).trans r1⟩)
  have HFEW : Hid (l.length ≤ 65536) := Lib.hid hgd.few
  have HCP := Lib.hid (rCopy_any l lb la lc W1 (h.below b01) (by have := hgd.few; omega))
  have HWS : Hid (W1 = (w.alloc (.cells #[.int .i64 (6), .int .i64 i, .int .i64 k] 37)).alloc (.cells #[.int .i64 0, .int .i64 0, .string ⟨#[]⟩, .int .i64 0] 35) ∧ w.heap.size = bx ∧ w.heap.size + 1 = xb) := Lib.hid ⟨by rw [hW1, hW0], hbx.symm, hxb.symm⟩
  have HTI := Lib.hid (fun V (hV : Below W1.heap.size W1 V) => rTick_any l (fun g hg => (mayB_iff.1 (hgd.may g hg)).2.2.2.2.2) lb la lc V (h.below (gNx b01 hV)) (by have := hgd.few; omega))
  have HZ : Hid (doE l 6 i k = 0 ∧ doL l 6 i k = l.map tickG ∧ doG l 6 i k = zG) := Lib.hid ⟨by simp [doE], by simp [doL, doE], by simp [doG]⟩
  have HLT : Hid (lb < w.heap.size ∨ l.map tickG = []) := Lib.hid (by
    rcases HLB.out with h | h
    · exact Or.inl h
    · right; subst h; rfl)
  obtain ⟨q1, hq1⟩ : ∃ q, (decide ((0 : Int) ≤ i)) = q := ⟨_, rfl⟩
  obtain ⟨q2, hq2⟩ : ∃ q, (decide (i < (l.length : Int))) = q := ⟨_, rfl⟩
  clear h hgd b0 b1 b01 r0 r1 hW0 hW1 z0 z1 hbx hxb
  cases q1 with
  | false =>
    go_enter Try.func29, Try.ntmps29
    go_upto_region 1 with (fail)
    rw [← HWS.out.1, HWS.out.2.1]
    rw [← HWS.out.2.1, HWS.out.2.2, HWS.out.2.1]
    obtain ⟨g0, g1, g2, gz⟩ := HC.out W1 (Below.refl _ _)
    go_wp2_with fail
    refine HCP.out.mono ?_
    rintro e w2 ⟨hb2, v2, r2, rfl, hr2, hrow2⟩
    obtain ⟨a2, c2, rfl⟩ := hrow2.slice
    have HB2 := Lib.hid hb2
    have HROW2 := Lib.hid hrow2
    clear hb2 hr2 hrow2 g0 g1 g2 gz
    obtain ⟨g0, g1, g2, gz⟩ := HC.out w2 HB2.out
    go_wp2_with fail
    refine (HTI.out w2 HB2.out).mono ?_
    rintro e w3 ⟨hb3, v3, r3, rfl, hr3, hrow3⟩
    obtain ⟨a3, c3, rfl⟩ := hrow3.slice
    have HB3 := Lib.hid (gNx HB2.out hb3)
    have HG3 := Lib.hid (And.intro (rw_gs hrow3) (show W1.heap.size ≤ r3 by have := HB2.out.size; omega))
    have hx3 := (HC.out w3 HB3.out).2.2.2
    obtain ⟨z0, z1, z2, z3, y0, y1, y2, y3⟩ := hx3.cells
    have HW := Lib.hid (hx3.set 0 0 ⟨#[]⟩ 0)
    have HO := Lib.hid (fun (j : Nat) (hj : j ≠ xb) => gmb_sets (w := w3) (.int .i64 0) (.int .i64 0) (.string ⟨#[]⟩) (.int .i64 0) j hj)
    clear hb3 hr3 hrow3 hx3 g0 g1 g2 gz
    go_wp2_with fail
    refine bodyPost_ret (results_cellM Try.results29 _ _ xb 0 (gmC zG) _ rfl (gm_range HW.out) Try.underlying35 (by rfl) (by kernel_rfl)) rfl ?_
    rw [HZ.out.1, HZ.out.2.1, HZ.out.2.2]
    exact lg_end (lb := lb) HB1.out HB3.out HXL.out.1 HXL.out.2 HO.out ⟨by simp [World.setCell], rfl, rfl, rfl⟩ ⟨a3, c3, r3, by rw [List.length_map]; rfl, HG3.out.1, Or.inr HG3.out.2⟩ HLT.out

  | true =>
    go_enter Try.func29, Try.ntmps29
    go_upto_region 1 with (fail)
    rw [← HWS.out.1, HWS.out.2.1]
    rw [← HWS.out.2.1, HWS.out.2.2, HWS.out.2.1]
    obtain ⟨g0, g1, g2, gz⟩ := HC.out W1 (Below.refl _ _)
    go_wp2_with fail
    refine HCP.out.mono ?_
    rintro e w2 ⟨hb2, v2, r2, rfl, hr2, hrow2⟩
    obtain ⟨a2, c2, rfl⟩ := hrow2.slice
    have HB2 := Lib.hid hb2
    have HROW2 := Lib.hid hrow2
    clear hb2 hr2 hrow2 g0 g1 g2 gz
    obtain ⟨g0, g1, g2, gz⟩ := HC.out w2 HB2.out
    go_wp2_with fail
    refine (HTI.out w2 HB2.out).mono ?_
    rintro e w3 ⟨hb3, v3, r3, rfl, hr3, hrow3⟩
    obtain ⟨a3, c3, rfl⟩ := hrow3.slice
    have HB3 := Lib.hid (gNx HB2.out hb3)
    have HG3 := Lib.hid (And.intro (rw_gs hrow3) (show W1.heap.size ≤ r3 by have := HB2.out.size; omega))
    have hx3 := (HC.out w3 HB3.out).2.2.2
    obtain ⟨z0, z1, z2, z3, y0, y1, y2, y3⟩ := hx3.cells
    have HW := Lib.hid (hx3.set 0 0 ⟨#[]⟩ 0)
    have HO := Lib.hid (fun (j : Nat) (hj : j ≠ xb) => gmb_sets (w := w3) (.int .i64 0) (.int .i64 0) (.string ⟨#[]⟩) (.int .i64 0) j hj)
    clear hb3 hr3 hrow3 hx3 g0 g1 g2 gz
    go_wp2_with fail
    refine bodyPost_ret (results_cellM Try.results29 _ _ xb 0 (gmC zG) _ rfl (gm_range HW.out) Try.underlying35 (by rfl) (by kernel_rfl)) rfl ?_
    rw [HZ.out.1, HZ.out.2.1, HZ.out.2.2]
    exact lg_end (lb := lb) HB1.out HB3.out HXL.out.1 HXL.out.2 HO.out ⟨by simp [World.setCell], rfl, rfl, rfl⟩ ⟨a3, c3, r3, by rw [List.length_map]; rfl, HG3.out.1, Or.inr HG3.out.2⟩ HLT.out

set_option maxHeartbeats 16000000 in
theorem rDo_cut (i k : Int) (l : List Gm) (hgd : Cq.Good l) (lb : Nat) (la : Option Addr) (lc : Nat) (w : World) (h : Gs w lb l la) :
    Calls Try.prog 29 #[.slice la l.length lc, .agg #[.int .i64 (7), .int .i64 i, .int .i64 k]] w fun e w' => LG w lb (doL l (7) i k) (doG l (7) i k) (doE l (7) i k) e w' := by
  obtain ⟨W0, hW0⟩ : ∃ W0, W0 = w.alloc (.cells #[.int .i64 (7), .int .i64 i, .int .i64 k] 37) := ⟨_, rfl⟩
  obtain ⟨W1, hW1⟩ : ∃ W1, W1 = W0.alloc (.cells #[.int .i64 0, .int .i64 0, .string ⟨#[]⟩, .int .i64 0] 35) := ⟨_, rfl⟩
  have z0 : W0.heap.size = w.heap.size + 1 := by rw [hW0]; simp
  have z1 : W1.heap.size = w.heap.size + 2 := by rw [hW1]; simp [z0]
  have b0 : Below w.heap.size w W0 := by rw [hW0]; exact gAl _ _
  have b1 : Below W0.heap.size W0 W1 := by rw [hW1]; exact gAl _ _
  have r0 : W1.heap[w.heap.size]? = some (.cells #[.int .i64 (7), .int .i64 i, .int .i64 k] 37 (0, 0)) := (b1.block _ (by omega)).trans (by rw [hW0]; exact heap_alloc_new w _)
  have r1 : GmB W1 (w.heap.size + 1) zG := by rw [← z0, hW1]; exact heap_alloc_new W0 _
  have b01 := gNx b0 b1
  obtain ⟨bx, hbx⟩ : ∃ bx, bx = w.heap.size := ⟨_, rfl⟩
  obtain ⟨xb, hxb⟩ : ∃ xb, xb = w.heap.size + 1 := ⟨_, rfl⟩
  rw [← hbx] at r0
  rw [← hxb] at r1
  have HB1 := Lib.hid b01
  have HGS := Lib.hid (fun V (hV : Below w.heap.size w V) => h.below hV)
  have HXL : Hid (w.heap.size ≤ xb ∧ xb < W1.heap.size) := Lib.hid ⟨by omega, by omega⟩
  have HLB : Hid (lb < w.heap.size ∨ l = []) := Lib.hid (by
    rcases h with h | ⟨_, _, h, _⟩
    · exact Or.inr h
    · exact Or.inl h)
  have HC : Hid (∀ V, Below W1.heap.size W1 V → V.cell? ⟨bx, 0, none⟩ = some (.int .i64 (7)) ∧ V.cell? ⟨bx, 1, none⟩ = some (.int .i64 i) ∧ V.cell? ⟨bx, 2, none⟩ = some (.int .i64 k) ∧ GmB V xb zG) := Lib.hid (fun V hV => by
    obtain ⟨p0, p1, p2⟩ := three_cells ((hV.block bx (by omega)).trans r0)
    exact ⟨p0, p1, p2, (hV.block xb (by omega)).trans r1⟩)
  have HFEW : Hid (l.length ≤ 65536) := Lib.hid hgd.few
  have HCP := Lib.hid (rCopy_any l lb la lc W1 (h.below b01) (by have := hgd.few; omega))
  have HWS : Hid (W1 = (w.alloc (.cells #[.int .i64 (7), .int .i64 i, .int .i64 k] 37)).alloc (.cells #[.int .i64 0, .int .i64 0, .string ⟨#[]⟩, .int .i64 0] 35) ∧ w.heap.size = bx ∧ w.heap.size + 1 = xb) := Lib.hid ⟨by rw [hW1, hW0], hbx.symm, hxb.symm⟩
  have HCU := Lib.hid (fun V (hV : Below W1.heap.size W1 V) => rCut_any l i k lb la lc V (h.below (gNx b01 hV)) (by have := hgd.few; omega))
  have HN1 := Lib.hid (rNumber_any i)
  have HN2 := Lib.hid (rNumber_any k)
  obtain ⟨q1, hq1⟩ : ∃ q, (decide ((0 : Int) ≤ i)) = q := ⟨_, rfl⟩
  obtain ⟨q2, hq2⟩ : ∃ q, (decide (i < (l.length : Int))) = q := ⟨_, rfl⟩
  clear h hgd b0 b1 b01 r0 r1 hW0 hW1 z0 z1 hbx hxb
  cases h1 : idB i with
  | false =>
    have htw : twoB i k = false := by unfold twoB; rw [h1]; rfl
    have HZ : Hid (doE l 7 i k = 1 ∧ doL l 7 i k = l ∧ doG l 7 i k = zG) := Lib.hid (by
      have e : doE l 7 i k = 1 := by simp [doE, htw]
      exact ⟨e, by unfold doL; rw [e, if_pos (by decide)], by simp [doG]⟩)
    rw [h1] at HN1
    clear h1 htw
    cases q1 with
    | false =>
      go_enter Try.func29, Try.ntmps29
      go_upto_region 1 with (fail)
      rw [← HWS.out.1, HWS.out.2.1]
      rw [← HWS.out.2.1, HWS.out.2.2, HWS.out.2.1]
      obtain ⟨g0, g1, g2, gz⟩ := HC.out W1 (Below.refl _ _)
      go_wp2_with fail
      refine HCP.out.mono ?_
      rintro e w2 ⟨hb2, v2, r2, rfl, hr2, hrow2⟩
      obtain ⟨a2, c2, rfl⟩ := hrow2.slice
      have HB2 := Lib.hid hb2
      have HROW2 := Lib.hid hrow2
      clear hb2 hr2 hrow2 g0 g1 g2 gz
      obtain ⟨g0, g1, g2, gz⟩ := HC.out w2 HB2.out
      obtain ⟨z0, z1, z2, z3, y0, y1, y2, y3⟩ := gz.cells
      have HW := Lib.hid (gz.set 0 0 ⟨#[]⟩ 0)
      have HO := Lib.hid (fun (j : Nat) (hj : j ≠ xb) => gmb_sets (w := w2) (.int .i64 0) (.int .i64 0) (.string ⟨#[]⟩) (.int .i64 0) j hj)
      clear gz
      go_wp2_with fail
      refine (HN1.out w2).mono ?_
      rintro e w3 ⟨rfl, hw3⟩
      rw [hw3]
      clear hw3
      go_wp2_with fail
      refine bodyPost_ret (results_cellM Try.results29 _ _ xb 0 (gmC zG) _ rfl (gm_range HW.out) Try.underlying35 (by rfl) (by kernel_rfl)) rfl ?_
      rw [HZ.out.1, HZ.out.2.1, HZ.out.2.2]
      exact lg_end (lb := lb) HB1.out HB2.out HXL.out.1 HXL.out.2 HO.out ⟨by simp [World.setCell], rfl, rfl, rfl⟩ ⟨la, lc, lb, rfl, HGS.out _ (gNx HB1.out HB2.out), Or.inl rfl⟩ HLB.out

    | true =>
      go_enter Try.func29, Try.ntmps29
      go_upto_region 1 with (fail)
      rw [← HWS.out.1, HWS.out.2.1]
      rw [← HWS.out.2.1, HWS.out.2.2, HWS.out.2.1]
      obtain ⟨g0, g1, g2, gz⟩ := HC.out W1 (Below.refl _ _)
      go_wp2_with fail
      refine HCP.out.mono ?_
      rintro e w2 ⟨hb2, v2, r2, rfl, hr2, hrow2⟩
      obtain ⟨a2, c2, rfl⟩ := hrow2.slice
      have HB2 := Lib.hid hb2
      have HROW2 := Lib.hid hrow2
      clear hb2 hr2 hrow2 g0 g1 g2 gz
      obtain ⟨g0, g1, g2, gz⟩ := HC.out w2 HB2.out
      obtain ⟨z0, z1, z2, z3, y0, y1, y2, y3⟩ := gz.cells
      have HW := Lib.hid (gz.set 0 0 ⟨#[]⟩ 0)
      have HO := Lib.hid (fun (j : Nat) (hj : j ≠ xb) => gmb_sets (w := w2) (.int .i64 0) (.int .i64 0) (.string ⟨#[]⟩) (.int .i64 0) j hj)
      clear gz
      go_wp2_with fail
      refine (HN1.out w2).mono ?_
      rintro e w3 ⟨rfl, hw3⟩
      rw [hw3]
      clear hw3
      go_wp2_with fail
      refine bodyPost_ret (results_cellM Try.results29 _ _ xb 0 (gmC zG) _ rfl (gm_range HW.out) Try.underlying35 (by rfl) (by kernel_rfl)) rfl ?_
      rw [HZ.out.1, HZ.out.2.1, HZ.out.2.2]
      exact lg_end (lb := lb) HB1.out HB2.out HXL.out.1 HXL.out.2 HO.out ⟨by simp [World.setCell], rfl, rfl, rfl⟩ ⟨la, lc, lb, rfl, HGS.out _ (gNx HB1.out HB2.out), Or.inl rfl⟩ HLB.out

  | true =>
    cases h2 : idB k with
    | false =>
      have htw : twoB i k = false := by unfold twoB; rw [h1, h2]; rfl
      have HZ : Hid (doE l 7 i k = 1 ∧ doL l 7 i k = l ∧ doG l 7 i k = zG) := Lib.hid (by
        have e : doE l 7 i k = 1 := by simp [doE, htw]
        exact ⟨e, by unfold doL; rw [e, if_pos (by decide)], by simp [doG]⟩)
      rw [h1] at HN1
      rw [h2] at HN2
      clear h1 h2 htw
      cases q1 with
      | false =>
        go_enter Try.func29, Try.ntmps29
        go_upto_region 1 with (fail)
        rw [← HWS.out.1, HWS.out.2.1]
        rw [← HWS.out.2.1, HWS.out.2.2, HWS.out.2.1]
        obtain ⟨g0, g1, g2, gz⟩ := HC.out W1 (Below.refl _ _)
        go_wp2_with fail
        refine HCP.out.mono ?_
        rintro e w2 ⟨hb2, v2, r2, rfl, hr2, hrow2⟩
        obtain ⟨a2, c2, rfl⟩ := hrow2.slice
        have HB2 := Lib.hid hb2
        have HROW2 := Lib.hid hrow2
        clear hb2 hr2 hrow2 g0 g1 g2 gz
        obtain ⟨g0, g1, g2, gz⟩ := HC.out w2 HB2.out
        obtain ⟨z0, z1, z2, z3, y0, y1, y2, y3⟩ := gz.cells
        have HW := Lib.hid (gz.set 0 0 ⟨#[]⟩ 0)
        have HO := Lib.hid (fun (j : Nat) (hj : j ≠ xb) => gmb_sets (w := w2) (.int .i64 0) (.int .i64 0) (.string ⟨#[]⟩) (.int .i64 0) j hj)
        clear gz
        go_wp2_with fail
        refine (HN1.out w2).mono ?_
        rintro e w3 ⟨rfl, hw3⟩
        rw [hw3]
        clear hw3
        go_wp2_with fail
        refine (HN2.out w2).mono ?_
        rintro e w3 ⟨rfl, hw3⟩
        rw [hw3]
        clear hw3
        go_wp2_with fail
        refine bodyPost_ret (results_cellM Try.results29 _ _ xb 0 (gmC zG) _ rfl (gm_range HW.out) Try.underlying35 (by rfl) (by kernel_rfl)) rfl ?_
        rw [HZ.out.1, HZ.out.2.1, HZ.out.2.2]
        exact lg_end (lb := lb) HB1.out HB2.out HXL.out.1 HXL.out.2 HO.out ⟨by simp [World.setCell], rfl, rfl, rfl⟩ ⟨la, lc, lb, rfl, HGS.out _ (gNx HB1.out HB2.out), Or.inl rfl⟩ HLB.out

      | true =>
        go_enter Try.func29, Try.ntmps29
        go_upto_region 1 with (fail)
        rw [← HWS.out.1, HWS.out.2.1]
        rw [← HWS.out.2.1, HWS.out.2.2, HWS.out.2.1]
        obtain ⟨g0, g1, g2, gz⟩ := HC.out W1 (Below.refl _ _)
        go_wp2_with fail
        refine HCP.out.mono ?_
        rintro e w2 ⟨hb2, v2, r2, rfl, hr2, hrow2⟩
        obtain ⟨a2, c2, rfl⟩ := hrow2.slice
        have HB2 := Lib.hid hb2
        have HROW2 := Lib.hid hrow2
        clear hb2 hr2 hrow2 g0 g1 g2 gz
        obtain ⟨g0, g1, g2, gz⟩ := HC.out w2 HB2.out
        obtain ⟨z0, z1, z2, z3, y0, y1, y2, y3⟩ := gz.cells
        have HW := Lib.hid (gz.set 0 0 ⟨#[]⟩ 0)
        have HO := Lib.hid (fun (j : Nat) (hj : j ≠ xb) => gmb_sets (w := w2) (.int .i64 0) (.int .i64 0) (.string ⟨#[]⟩) (.int .i64 0) j hj)
        clear gz
        go_wp2_with fail
        refine (HN1.out w2).mono ?_
        rintro e w3 ⟨rfl, hw3⟩
        rw [hw3]
        clear hw3
        go_wp2_with fail
        refine (HN2.out w2).mono ?_
        rintro e w3 ⟨rfl, hw3⟩
        rw [hw3]
        clear hw3
        go_wp2_with fail
        refine bodyPost_ret (results_cellM Try.results29 _ _ xb 0 (gmC zG) _ rfl (gm_range HW.out) Try.underlying35 (by rfl) (by kernel_rfl)) rfl ?_
        rw [HZ.out.1, HZ.out.2.1, HZ.out.2.2]
        exact lg_end (lb := lb) HB1.out HB2.out HXL.out.1 HXL.out.2 HO.out ⟨by simp [World.setCell], rfl, rfl, rfl⟩ ⟨la, lc, lb, rfl, HGS.out _ (gNx HB1.out HB2.out), Or.inl rfl⟩ HLB.out

    | true =>
      by_cases h3 : i = k
      · have htw : twoB i k = false := by unfold twoB; rw [h1, h2, h3]; simp
        have HZ : Hid (doE l 7 i k = 1 ∧ doL l 7 i k = l ∧ doG l 7 i k = zG) := Lib.hid (by
          have e : doE l 7 i k = 1 := by simp [doE, htw]
          exact ⟨e, by unfold doL; rw [e, if_pos (by decide)], by simp [doG]⟩)
        rw [h1] at HN1
        rw [h2] at HN2
        have hik : (i == k) = true := by simpa using h3
        clear h1 h2 h3 htw
        cases q1 with
        | false =>
          go_enter Try.func29, Try.ntmps29
          go_upto_region 1 with (fail)
          rw [← HWS.out.1, HWS.out.2.1]
          rw [← HWS.out.2.1, HWS.out.2.2, HWS.out.2.1]
          obtain ⟨g0, g1, g2, gz⟩ := HC.out W1 (Below.refl _ _)
          go_wp2_with fail
          refine HCP.out.mono ?_
          rintro e w2 ⟨hb2, v2, r2, rfl, hr2, hrow2⟩
          obtain ⟨a2, c2, rfl⟩ := hrow2.slice
          have HB2 := Lib.hid hb2
          have HROW2 := Lib.hid hrow2
          clear hb2 hr2 hrow2 g0 g1 g2 gz
          obtain ⟨g0, g1, g2, gz⟩ := HC.out w2 HB2.out
          obtain ⟨z0, z1, z2, z3, y0, y1, y2, y3⟩ := gz.cells
          have HW := Lib.hid (gz.set 0 0 ⟨#[]⟩ 0)
          have HO := Lib.hid (fun (j : Nat) (hj : j ≠ xb) => gmb_sets (w := w2) (.int .i64 0) (.int .i64 0) (.string ⟨#[]⟩) (.int .i64 0) j hj)
          clear gz
          go_wp2_with fail
          refine (HN1.out w2).mono ?_
          rintro e w3 ⟨rfl, hw3⟩
          rw [hw3]
          clear hw3
          go_wp2_with fail
          refine (HN2.out w2).mono ?_
          rintro e w3 ⟨rfl, hw3⟩
          rw [hw3]
          clear hw3
          go_wp2_with fail
          refine bodyPost_ret (results_cellM Try.results29 _ _ xb 0 (gmC zG) _ rfl (gm_range HW.out) Try.underlying35 (by rfl) (by kernel_rfl)) rfl ?_
          rw [HZ.out.1, HZ.out.2.1, HZ.out.2.2]
          exact lg_end (lb := lb) HB1.out HB2.out HXL.out.1 HXL.out.2 HO.out ⟨by simp [World.setCell], rfl, rfl, rfl⟩ ⟨la, lc, lb, rfl, HGS.out _ (gNx HB1.out HB2.out), Or.inl rfl⟩ HLB.out

        | true =>
          go_enter Try.func29, Try.ntmps29
          go_upto_region 1 with (fail)
          rw [← HWS.out.1, HWS.out.2.1]
          rw [← HWS.out.2.1, HWS.out.2.2, HWS.out.2.1]
          obtain ⟨g0, g1, g2, gz⟩ := HC.out W1 (Below.refl _ _)
          go_wp2_with fail
          refine HCP.out.mono ?_
          rintro e w2 ⟨hb2, v2, r2, rfl, hr2, hrow2⟩
          obtain ⟨a2, c2, rfl⟩ := hrow2.slice
          have HB2 := Lib.hid hb2
          have HROW2 := Lib.hid hrow2
          clear hb2 hr2 hrow2 g0 g1 g2 gz
          obtain ⟨g0, g1, g2, gz⟩ := HC.out w2 HB2.out
          obtain ⟨z0, z1, z2, z3, y0, y1, y2, y3⟩ := gz.cells
          have HW := Lib.hid (gz.set 0 0 ⟨#[]⟩ 0)
          have HO := Lib.hid (fun (j : Nat) (hj : j ≠ xb) => gmb_sets (w := w2) (.int .i64 0) (.int .i64 0) (.string ⟨#[]⟩) (.int .i64 0) j hj)
          clear gz
          go_wp2_with fail
          refine (HN1.out w2).mono ?_
          rintro e w3 ⟨rfl, hw3⟩
          rw [hw3]
          clear hw3
          go_wp2_with fail
          refine (HN2.out w2).mono ?_
          rintro e w3 ⟨rfl, hw3⟩
          rw [hw3]
          clear hw3
          go_wp2_with fail
          refine bodyPost_ret (results_cellM Try.results29 _ _ xb 0 (gmC zG) _ rfl (gm_range HW.out) Try.underlying35 (by rfl) (by kernel_rfl)) rfl ?_
          rw [HZ.out.1, HZ.out.2.1, HZ.out.2.2]
          exact lg_end (lb := lb) HB1.out HB2.out HXL.out.1 HXL.out.2 HO.out ⟨by simp [World.setCell], rfl, rfl, rfl⟩ ⟨la, lc, lb, rfl, HGS.out _ (gNx HB1.out HB2.out), Or.inl rfl⟩ HLB.out

      · have htw : twoB i k = true := by unfold twoB; rw [h1, h2]; simpa using h3
        have HZ : Hid (doE l 7 i k = 0 ∧ doL l 7 i k = keepL i k l ∧ doG l 7 i k = zG) := Lib.hid (by
          have e : doE l 7 i k = 0 := by simp [doE, htw]
          exact ⟨e, by simp [doL, e, keepL], by simp [doG]⟩)
        have HLT : Hid (lb < w.heap.size ∨ keepL i k l = []) := Lib.hid (by
          rcases HLB.out with h | h
          · exact Or.inl h
          · right; subst h; rfl)
        rw [h1] at HN1
        rw [h2] at HN2
        have hik : (i == k) = false := by simpa using h3
        clear h1 h2 h3 htw
        cases q1 with
        | false =>
          go_enter Try.func29, Try.ntmps29
          go_upto_region 1 with (fail)
          rw [← HWS.out.1, HWS.out.2.1]
          rw [← HWS.out.2.1, HWS.out.2.2, HWS.out.2.1]
          obtain ⟨g0, g1, g2, gz⟩ := HC.out W1 (Below.refl _ _)
          go_wp2_with fail
          refine HCP.out.mono ?_
          rintro e w2 ⟨hb2, v2, r2, rfl, hr2, hrow2⟩
          obtain ⟨a2, c2, rfl⟩ := hrow2.slice
          have HB2 := Lib.hid hb2
          have HROW2 := Lib.hid hrow2
          clear hb2 hr2 hrow2 g0 g1 g2 gz
          obtain ⟨g0, g1, g2, gz⟩ := HC.out w2 HB2.out
          go_wp2_with fail
          refine (HN1.out w2).mono ?_
          rintro e w3 ⟨rfl, hw3⟩
          rw [hw3]
          clear hw3
          go_wp2_with fail
          refine (HN2.out w2).mono ?_
          rintro e w3 ⟨rfl, hw3⟩
          rw [hw3]
          clear hw3
          go_wp2_with fail
          refine (HCU.out w2 HB2.out).mono ?_
          rintro e w3 ⟨hb3, v3, r3, rfl, hr3, hrow3⟩
          obtain ⟨a3, c3, rfl⟩ := hrow3.slice
          have HB3 := Lib.hid (gNx HB2.out hb3)
          have HG3 := Lib.hid (And.intro (rw_gs hrow3) (show W1.heap.size ≤ r3 by have := HB2.out.size; omega))
          have hx3 := (HC.out w3 HB3.out).2.2.2
          obtain ⟨z0, z1, z2, z3, y0, y1, y2, y3⟩ := hx3.cells
          have HW := Lib.hid (hx3.set 0 0 ⟨#[]⟩ 0)
          have HO := Lib.hid (fun (j : Nat) (hj : j ≠ xb) => gmb_sets (w := w3) (.int .i64 0) (.int .i64 0) (.string ⟨#[]⟩) (.int .i64 0) j hj)
          clear hb3 hr3 hrow3 hx3 g0 g1 g2 gz
          go_wp2_with fail
          refine bodyPost_ret (results_cellM Try.results29 _ _ xb 0 (gmC zG) _ rfl (gm_range HW.out) Try.underlying35 (by rfl) (by kernel_rfl)) rfl ?_
          rw [HZ.out.1, HZ.out.2.1, HZ.out.2.2]
          exact lg_end (lb := lb) HB1.out HB3.out HXL.out.1 HXL.out.2 HO.out ⟨by simp [World.setCell], rfl, rfl, rfl⟩ ⟨a3, c3, r3, rfl, HG3.out.1, Or.inr HG3.out.2⟩ HLT.out

        | true =>
          go_enter Try.func29, Try.ntmps29
          go_upto_region 1 with (fail)
          rw [← HWS.out.1, HWS.out.2.1]
          rw [← HWS.out.2.1, HWS.out.2.2, HWS.out.2.1]
          obtain ⟨g0, g1, g2, gz⟩ := HC.out W1 (Below.refl _ _)
          go_wp2_with fail
          refine HCP.out.mono ?_
          rintro e w2 ⟨hb2, v2, r2, rfl, hr2, hrow2⟩
          obtain ⟨a2, c2, rfl⟩ := hrow2.slice
          have HB2 := Lib.hid hb2
          have HROW2 := Lib.hid hrow2
          clear hb2 hr2 hrow2 g0 g1 g2 gz
          obtain ⟨g0, g1, g2, gz⟩ := HC.out w2 HB2.out
          go_wp2_with fail
          refine (HN1.out w2).mono ?_
          rintro e w3 ⟨rfl, hw3⟩
          rw [hw3]
          clear hw3
          go_wp2_with fail
          refine (HN2.out w2).mono ?_
          rintro e w3 ⟨rfl, hw3⟩
          rw [hw3]
          clear hw3
          go_wp2_with fail
          refine (HCU.out w2 HB2.out).mono ?_
          rintro e w3 ⟨hb3, v3, r3, rfl, hr3, hrow3⟩
          obtain ⟨a3, c3, rfl⟩ := hrow3.slice
          have HB3 := Lib.hid (gNx HB2.out hb3)
          have HG3 := Lib.hid (And.intro (rw_gs hrow3) (show W1.heap.size ≤ r3 by have := HB2.out.size; omega))
          have hx3 := (HC.out w3 HB3.out).2.2.2
          obtain ⟨z0, z1, z2, z3, y0, y1, y2, y3⟩ := hx3.cells
          have HW := Lib.hid (hx3.set 0 0 ⟨#[]⟩ 0)
          have HO := Lib.hid (fun (j : Nat) (hj : j ≠ xb) => gmb_sets (w := w3) (.int .i64 0) (.int .i64 0) (.string ⟨#[]⟩) (.int .i64 0) j hj)
          clear hb3 hr3 hrow3 hx3 g0 g1 g2 gz
          go_wp2_with fail
          refine bodyPost_ret (results_cellM Try.results29 _ _ xb 0 (gmC zG) _ rfl (gm_range HW.out) Try.underlying35 (by rfl) (by kernel_rfl)) rfl ?_
          rw [HZ.out.1, HZ.out.2.1, HZ.out.2.2]
          exact lg_end (lb := lb) HB1.out HB3.out HXL.out.1 HXL.out.2 HO.out ⟨by simp [World.setCell], rfl, rfl, rfl⟩ ⟨a3, c3, r3, rfl, HG3.out.1, Or.inr HG3.out.2⟩ HLT.out

set_option maxHeartbeats 16000000 in
theorem rDo_none (kd : Int) (n1 : kd ≠ 1) (n2 : kd ≠ 2) (n3 : kd ≠ 3) (n4 : kd ≠ 4) (n5 : kd ≠ 5) (n6 : kd ≠ 6) (n7 : kd ≠ 7) (i k : Int) (l : List Gm) (hgd : Cq.Good l) (lb : Nat) (la : Option Addr) (lc : Nat) (w : World) (h : Gs w lb l la) :
    Calls Try.prog 29 #[.slice la l.length lc, .agg #[.int .i64 (kd), .int .i64 i, .int .i64 k]] w fun e w' => LG w lb (doL l (kd) i k) (doG l (kd) i k) (doE l (kd) i k) e w' := by
  obtain ⟨W0, hW0⟩ : ∃ W0, W0 = w.alloc (.cells #[.int .i64 (kd), .int .i64 i, .int .i64 k] 37) := ⟨_, rfl⟩
  obtain ⟨W1, hW1⟩ : ∃ W1, W1 = W0.alloc (.cells #[.int .i64 0, .int .i64 0, .string ⟨#[]⟩, .int .i64 0] 35) := ⟨_, rfl⟩
  have z0 : W0.heap.size = w.heap.size + 1 := by rw [hW0]; simp
  have z1 : W1.heap.size = w.heap.size + 2 := by rw [hW1]; simp [z0]
  have b0 : Below w.heap.size w W0 := by rw [hW0]; exact gAl _ _
  have b1 : Below W0.heap.size W0 W1 := by rw [hW1]; exact gAl _ _
  have r0 : W1.heap[w.heap.size]? = some (.cells #[.int .i64 (kd), .int .i64 i, .int .i64 k] 37 (0, 0)) := (b1.block _ (by omega)).trans (by rw [hW0]; exact heap_alloc_new w _)
  have r1 : GmB W1 (w.heap.size + 1) zG := by rw [← z0, hW1]; exact heap_alloc_new W0 _
  have b01 := gNx b0 b1
  obtain ⟨bx, hbx⟩ : ∃ bx, bx = w.heap.size := ⟨_, rfl⟩
  obtain ⟨xb, hxb⟩ : ∃ xb, xb = w.heap.size + 1 := ⟨_, rfl⟩
  rw [← hbx] at r0
  rw [← hxb] at r1
  have HB1 := Lib.hid b01
  have HGS := Lib.hid (fun V (hV : Below w.heap.size w V) => h.below hV)
  have HXL : Hid (w.heap.size ≤ xb ∧ xb < W1.heap.size) := Lib.hid ⟨by omega, by omega⟩
  have HLB : Hid (lb < w.heap.size ∨ l = []) := Lib.hid (by
    rcases h with h | ⟨_, _, h, _⟩
    · exact Or.inr h
    · exact Or.inl h)
  have HC : Hid (∀ V, Below W1.heap.size W1 V → V.cell? ⟨bx, 0, none⟩ = some (.int .i64 (kd)) ∧ V.cell? ⟨bx, 1, none⟩ = some (.int .i64 i) ∧ V.cell? ⟨bx, 2, none⟩ = some (.int .i64 k) ∧ GmB V xb zG) := Lib.hid (fun V hV => by
    obtain ⟨p0, p1, p2⟩ := three_cells ((hV.block bx (by omega)).trans r0)
    exact ⟨p0, p1, p2, (hV.block xb (by omega)).trans r1⟩)
  have HFEW : Hid (l.length ≤ 65536) := Lib.hid hgd.few
  have HCP := Lib.hid (rCopy_any l lb la lc W1 (h.below b01) (by have := hgd.few; omega))
  have HWS : Hid (W1 = (w.alloc (.cells #[.int .i64 (kd), .int .i64 i, .int .i64 k] 37)).alloc (.cells #[.int .i64 0, .int .i64 0, .string ⟨#[]⟩, .int .i64 0] 35) ∧ w.heap.size = bx ∧ w.heap.size + 1 = xb) := Lib.hid ⟨by rw [hW1, hW0], hbx.symm, hxb.symm⟩
  have HZ : Hid (doE l kd i k = 1 ∧ doL l kd i k = l ∧ doG l kd i k = zG) := Lib.hid (by
    have e : doE l kd i k = 1 := by unfold doE; rw [if_neg n1, if_neg n2, if_neg n3, if_neg n4, if_neg n5, if_neg n6, if_neg n7]
    exact ⟨e, by unfold doL; rw [e, if_pos (by decide)], by unfold doG; rw [if_neg n1]⟩)
  have e1 : (kd == 1) = false := by simpa using n1
  have e2 : (kd == 2) = false := by simpa using n2
  have e3 : (kd == 3) = false := by simpa using n3
  have e4 : (kd == 4) = false := by simpa using n4
  have e5 : (kd == 5) = false := by simpa using n5
  have e6 : (kd == 6) = false := by simpa using n6
  have e7 : (kd == 7) = false := by simpa using n7
  clear n1 n2 n3 n4 n5 n6 n7
  obtain ⟨q1, hq1⟩ : ∃ q, (decide ((0 : Int) ≤ i)) = q := ⟨_, rfl⟩
  obtain ⟨q2, hq2⟩ : ∃ q, (decide (i < (l.length : Int))) = q := ⟨_, rfl⟩
  clear h hgd b0 b1 b01 r0 r1 hW0 hW1 z0 z1 hbx hxb
  cases q1 with
  | false =>
    go_enter Try.func29, Try.ntmps29
    go_upto_region 1 with (fail)
    rw [← HWS.out.1, HWS.out.2.1]
    rw [← HWS.out.2.1, HWS.out.2.2, HWS.out.2.1]
    obtain ⟨g0, g1, g2, gz⟩ := HC.out W1 (Below.refl _ _)
    go_wp2_with fail
    refine HCP.out.mono ?_
    rintro e w2 ⟨hb2, v2, r2, rfl, hr2, hrow2⟩
    obtain ⟨a2, c2, rfl⟩ := hrow2.slice
    have HB2 := Lib.hid hb2
    have HROW2 := Lib.hid hrow2
    clear hb2 hr2 hrow2 g0 g1 g2 gz
    obtain ⟨g0, g1, g2, gz⟩ := HC.out w2 HB2.out
    obtain ⟨z0, z1, z2, z3, y0, y1, y2, y3⟩ := gz.cells
    have HW := Lib.hid (gz.set 0 0 ⟨#[]⟩ 0)
    have HO := Lib.hid (fun (j : Nat) (hj : j ≠ xb) => gmb_sets (w := w2) (.int .i64 0) (.int .i64 0) (.string ⟨#[]⟩) (.int .i64 0) j hj)
    clear gz
    go_wp2_with fail
    refine bodyPost_ret (results_cellM Try.results29 _ _ xb 0 (gmC zG) _ rfl (gm_range HW.out) Try.underlying35 (by rfl) (by kernel_rfl)) rfl ?_
    rw [HZ.out.1, HZ.out.2.1, HZ.out.2.2]
    exact lg_end (lb := lb) HB1.out HB2.out HXL.out.1 HXL.out.2 HO.out ⟨by simp [World.setCell], rfl, rfl, rfl⟩ ⟨la, lc, lb, rfl, HGS.out _ (gNx HB1.out HB2.out), Or.inl rfl⟩ HLB.out

  | true =>
    go_enter Try.func29, Try.ntmps29
    go_upto_region 1 with (fail)
    rw [← HWS.out.1, HWS.out.2.1]
    rw [← HWS.out.2.1, HWS.out.2.2, HWS.out.2.1]
    obtain ⟨g0, g1, g2, gz⟩ := HC.out W1 (Below.refl _ _)
    go_wp2_with fail
    refine HCP.out.mono ?_
    rintro e w2 ⟨hb2, v2, r2, rfl, hr2, hrow2⟩
    obtain ⟨a2, c2, rfl⟩ := hrow2.slice
    have HB2 := Lib.hid hb2
    have HROW2 := Lib.hid hrow2
    clear hb2 hr2 hrow2 g0 g1 g2 gz
    obtain ⟨g0, g1, g2, gz⟩ := HC.out w2 HB2.out
    obtain ⟨z0, z1, z2, z3, y0, y1, y2, y3⟩ := gz.cells
    have HW := Lib.hid (gz.set 0 0 ⟨#[]⟩ 0)
    have HO := Lib.hid (fun (j : Nat) (hj : j ≠ xb) => gmb_sets (w := w2) (.int .i64 0) (.int .i64 0) (.string ⟨#[]⟩) (.int .i64 0) j hj)
    clear gz
    go_wp2_with fail
    refine bodyPost_ret (results_cellM Try.results29 _ _ xb 0 (gmC zG) _ rfl (gm_range HW.out) Try.underlying35 (by rfl) (by kernel_rfl)) rfl ?_
    rw [HZ.out.1, HZ.out.2.1, HZ.out.2.2]
    exact lg_end (lb := lb) HB1.out HB2.out HXL.out.1 HXL.out.2 HO.out ⟨by simp [World.setCell], rfl, rfl, rfl⟩ ⟨la, lc, lb, rfl, HGS.out _ (gNx HB1.out HB2.out), Or.inl rfl⟩ HLB.out

end Go.Proofs.Ytldbmdalmhhpfaa
