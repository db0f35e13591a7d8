/- Channel: the document's Do: drop, double. -/
import Derived.Test.YtldbmdalmhhpfaaCwV
namespace Go.Proofs.Ytldbmdalmhhpfaa
open Go.RowKit Go.Lib Go.Ow Go.Cw Go.Cq
set_option linter.unusedVariables false
set_option linter.unusedSimpArgs false
set_option maxRecDepth 100000

set_option maxHeartbeats 16000000 in
theorem rDo_drop (i k : Int) (l : List Gm) (hgd : Cq.Good l) (lb : Nat) (la : Option Addr) (lc : Nat) (w : World) (h : Gs w lb l la) :
    Calls Try.prog 29 #[.slice la l.length lc, .agg #[.int .i64 (2), .int .i64 i, .int .i64 k]] w fun e w' => LG w lb (doL l (2) i k) (doG l (2) i k) (doE l (2) i k) e w' := by
  obtain ⟨W0, hW0⟩ : ∃ W0, W0 = w.alloc (.cells #[.int .i64 (2), .int .i64 i, .int .i64 k] 37) := ⟨_, rfl⟩
  obtain ⟨W1, hW1⟩ : ∃ W1, W1 = W0.alloc (.cells #[.int .i64 0, .int .i64 0, .string ⟨#[]⟩, .int .i64 0] 35) := ⟨_, rfl⟩
  have z0 : W0.heap.size = w.heap.size + 1 := by rw [hW0]; simp
  have z1 : W1.heap.size = w.heap.size + 2 := by rw [hW1]; simp [z0]
  have b0 : Below w.heap.size w W0 := by rw [hW0]; exact gAl _ _
  have b1 : Below W0.heap.size W0 W1 := by rw [hW1]; exact gAl _ _
  have r0 : W1.heap[w.heap.size]? = some (.cells #[.int .i64 (2), .int .i64 i, .int .i64 k] 37 (0, 0)) := (b1.block _ (by omega)).trans (by rw [hW0]; exact heap_alloc_new w _)
  have r1 : GmB W1 (w.heap.size + 1) zG := by rw [← z0, hW1]; exact heap_alloc_new W0 _
  have b01 := gNx b0 b1
  obtain ⟨bx, hbx⟩ : ∃ bx, bx = w.heap.size := ⟨_, rfl⟩
  obtain ⟨xb, hxb⟩ : ∃ xb, xb = w.heap.size + 1 := ⟨_, rfl⟩
  rw [← hbx] at r0
  rw [← hxb] at r1
  have HB1 := Lib.hid b01
  have HGS := Lib.hid (fun V (hV : Below w.heap.size w V) => h.below hV)
  have HXL : Hid (w.heap.size ≤ xb ∧ xb < W1.heap.size) := Lib.hid ⟨by omega, by omega⟩
  have HLB : Hid (lb < w.heap.size ∨ l = []) := Lib.hid (by
    rcases h with h | ⟨_, _, h, _⟩
    · exact Or.inr h
    · exact Or.inl h)
  have HC : Hid (∀ V, Below W1.heap.size W1 V → V.cell? ⟨bx, 0, none⟩ = some (.int .i64 (2)) ∧ V.cell? ⟨bx, 1, none⟩ = some (.int .i64 i) ∧ V.cell? ⟨bx, 2, none⟩ = some (.int .i64 k) ∧ GmB V xb zG) := Lib.hid (fun V hV => by
    obtain ⟨p0, p1, p2⟩ := three_cells ((hV.block bx (by omega)).trans r0)
    exact ⟨p0, p1, p2, (hV.block xb (by omega)).trans r1⟩)
  have HFEW : Hid (l.length ≤ 65536) := Lib.hid hgd.few
  have HCP := Lib.hid (rCopy_any l lb la lc W1 (h.below b01) (by have := hgd.few; omega))
  have HWS : Hid (W1 = (w.alloc (.cells #[.int .i64 (2), .int .i64 i, .int .i64 k] 37)).alloc (.cells #[.int .i64 0, .int .i64 0, .string ⟨#[]⟩, .int .i64 0] 35) ∧ w.heap.size = bx ∧ w.heap.size + 1 = xb) := Lib.hid ⟨by rw [hW1, hW0], hbx.symm, hxb.symm⟩
  have HWI : Hid (0 ≤ i → ∀ V, Below W1.heap.size W1 V → Calls Try.prog 38 #[.slice la l.length lc, .int .i64 i] V fun e w' => Row1 V (l.eraseIdx i.toNat) e w') := Lib.hid (fun h0 V hV => by
    have := rWithout_any l i.toNat lb la lc V (h.below (gNx b01 hV)) (by have := hgd.few; omega)
    rwa [Int.toNat_of_nonneg h0] at this)
  obtain ⟨q1, hq1⟩ : ∃ q, (decide ((0 : Int) ≤ i)) = q := ⟨_, rfl⟩
  obtain ⟨q2, hq2⟩ : ∃ q, (decide (i < (l.length : Int))) = q := ⟨_, rfl⟩
  clear h hgd b0 b1 b01 r0 r1 hW0 hW1 z0 z1 hbx hxb
  have hhb : hasB l i = (q1 && q2) := by unfold hasB; rw [hq1, hq2]
  cases q1 with
  | false =>
    have HZ : Hid (doE l 2 i k = 4 ∧ doL l 2 i k = l ∧ doG l 2 i k = zG) := Lib.hid (by
      have e : doE l 2 i k = 4 := by simp [doE, hhb]
      exact ⟨e, by unfold doL; rw [e, if_pos (by decide)], by simp [doG]⟩)
    clear hhb
    go_enter Try.func29, Try.ntmps29
    go_upto_region 1 with (fail)
    rw [← HWS.out.1, HWS.out.2.1]
    rw [← HWS.out.2.1, HWS.out.2.2, HWS.out.2.1]
    obtain ⟨g0, g1, g2, gz⟩ := HC.out W1 (Below.refl _ _)
    go_wp2_with fail
    refine HCP.out.mono ?_
    rintro e w2 ⟨hb2, v2, r2, rfl, hr2, hrow2⟩
    obtain ⟨a2, c2, rfl⟩ := hrow2.slice
    have HB2 := Lib.hid hb2
    have HROW2 := Lib.hid hrow2
    clear hb2 hr2 hrow2 g0 g1 g2 gz
    obtain ⟨g0, g1, g2, gz⟩ := HC.out w2 HB2.out
    obtain ⟨z0, z1, z2, z3, y0, y1, y2, y3⟩ := gz.cells
    have HW := Lib.hid (gz.set 0 0 ⟨#[]⟩ 0)
    have HO := Lib.hid (fun (j : Nat) (hj : j ≠ xb) => gmb_sets (w := w2) (.int .i64 0) (.int .i64 0) (.string ⟨#[]⟩) (.int .i64 0) j hj)
    clear gz
    go_wp2_with fail
    refine bodyPost_ret (results_cellM Try.results29 _ _ xb 0 (gmC zG) _ rfl (gm_range HW.out) Try.underlying35 (by rfl) (by kernel_rfl)) rfl ?_
    rw [HZ.out.1, HZ.out.2.1, HZ.out.2.2]
    exact lg_end (lb := lb) HB1.out HB2.out HXL.out.1 HXL.out.2 HO.out ⟨by simp [World.setCell], rfl, rfl, rfl⟩ ⟨la, lc, lb, rfl, HGS.out _ (gNx HB1.out HB2.out), Or.inl rfl⟩ HLB.out

  | true =>
    cases q2 with
    | false =>
      have HZ : Hid (doE l 2 i k = 4 ∧ doL l 2 i k = l ∧ doG l 2 i k = zG) := Lib.hid (by
        have e : doE l 2 i k = 4 := by simp [doE, hhb]
        exact ⟨e, by unfold doL; rw [e, if_pos (by decide)], by simp [doG]⟩)
      clear hhb
      go_enter Try.func29, Try.ntmps29
      go_upto_region 1 with (fail)
      rw [← HWS.out.1, HWS.out.2.1]
      rw [← HWS.out.2.1, HWS.out.2.2, HWS.out.2.1]
      obtain ⟨g0, g1, g2, gz⟩ := HC.out W1 (Below.refl _ _)
      go_wp2_with fail
      refine HCP.out.mono ?_
      rintro e w2 ⟨hb2, v2, r2, rfl, hr2, hrow2⟩
      obtain ⟨a2, c2, rfl⟩ := hrow2.slice
      have HB2 := Lib.hid hb2
      have HROW2 := Lib.hid hrow2
      clear hb2 hr2 hrow2 g0 g1 g2 gz
      obtain ⟨g0, g1, g2, gz⟩ := HC.out w2 HB2.out
      obtain ⟨z0, z1, z2, z3, y0, y1, y2, y3⟩ := gz.cells
      have HW := Lib.hid (gz.set 0 0 ⟨#[]⟩ 0)
      have HO := Lib.hid (fun (j : Nat) (hj : j ≠ xb) => gmb_sets (w := w2) (.int .i64 0) (.int .i64 0) (.string ⟨#[]⟩) (.int .i64 0) j hj)
      clear gz
      go_wp2_with fail
      refine bodyPost_ret (results_cellM Try.results29 _ _ xb 0 (gmC zG) _ rfl (gm_range HW.out) Try.underlying35 (by rfl) (by kernel_rfl)) rfl ?_
      rw [HZ.out.1, HZ.out.2.1, HZ.out.2.2]
      exact lg_end (lb := lb) HB1.out HB2.out HXL.out.1 HXL.out.2 HO.out ⟨by simp [World.setCell], rfl, rfl, rfl⟩ ⟨la, lc, lb, rfl, HGS.out _ (gNx HB1.out HB2.out), Or.inl rfl⟩ HLB.out

    | true =>
      have h0 : (0 : Int) ≤ i := by simpa using hq1
      have hil : i < (l.length : Int) := by simpa using hq2
      have HZ : Hid (doE l 2 i k = 0 ∧ doL l 2 i k = l.eraseIdx i.toNat ∧ doG l 2 i k = zG) := Lib.hid (by
        have e : doE l 2 i k = 0 := by simp [doE, hhb]
        exact ⟨e, by simp [doL, e], by simp [doG]⟩)
      have HLT : Hid (lb < w.heap.size ∨ l.eraseIdx i.toNat = []) := Lib.hid (by
        rcases HLB.out with h | h
        · exact Or.inl h
        · right; subst h; simp)
      have HWO := Lib.hid (HWI.out h0)
      clear hhb h0 hil HWI
      go_enter Try.func29, Try.ntmps29
      go_upto_region 1 with (fail)
      rw [← HWS.out.1, HWS.out.2.1]
      rw [← HWS.out.2.1, HWS.out.2.2, HWS.out.2.1]
      obtain ⟨g0, g1, g2, gz⟩ := HC.out W1 (Below.refl _ _)
      go_wp2_with fail
      refine HCP.out.mono ?_
      rintro e w2 ⟨hb2, v2, r2, rfl, hr2, hrow2⟩
      obtain ⟨a2, c2, rfl⟩ := hrow2.slice
      have HB2 := Lib.hid hb2
      have HROW2 := Lib.hid hrow2
      clear hb2 hr2 hrow2 g0 g1 g2 gz
      obtain ⟨g0, g1, g2, gz⟩ := HC.out w2 HB2.out
      go_wp2_with fail
      refine (HWO.out w2 HB2.out).mono ?_
      rintro e w3 ⟨hb3, v3, r3, rfl, hr3, hrow3⟩
      obtain ⟨a3, c3, rfl⟩ := hrow3.slice
      have HB3 := Lib.hid (gNx HB2.out hb3)
      have HG3 := Lib.hid (And.intro (rw_gs hrow3) (show W1.heap.size ≤ r3 by have := HB2.out.size; omega))
      have hx3 := (HC.out w3 HB3.out).2.2.2
      obtain ⟨z0, z1, z2, z3, y0, y1, y2, y3⟩ := hx3.cells
      have HW := Lib.hid (hx3.set 0 0 ⟨#[]⟩ 0)
      have HO := Lib.hid (fun (j : Nat) (hj : j ≠ xb) => gmb_sets (w := w3) (.int .i64 0) (.int .i64 0) (.string ⟨#[]⟩) (.int .i64 0) j hj)
      clear hb3 hr3 hrow3 hx3 g0 g1 g2 gz
      go_wp2_with fail
      refine bodyPost_ret (results_cellM Try.results29 _ _ xb 0 (gmC zG) _ rfl (gm_range HW.out) Try.underlying35 (by rfl) (by kernel_rfl)) rfl ?_
      rw [HZ.out.1, HZ.out.2.1, HZ.out.2.2]
      exact lg_end (lb := lb) HB1.out HB3.out HXL.out.1 HXL.out.2 HO.out ⟨by simp [World.setCell], rfl, rfl, rfl⟩ ⟨a3, c3, r3, rfl, HG3.out.1, Or.inr HG3.out.2⟩ HLT.out

set_option maxHeartbeats 16000000 in
theorem rDo_double (i k : Int) (l : List Gm) (hgd : Cq.Good l) (lb : Nat) (la : Option Addr) (lc : Nat) (w : World) (h : Gs w lb l la) :
    Calls Try.prog 29 #[.slice la l.length lc, .agg #[.int .i64 (3), .int .i64 i, .int .i64 k]] w fun e w' => LG w lb (doL l (3) i k) (doG l (3) i k) (doE l (3) i k) e w' := by
  obtain ⟨W0, hW0⟩ : ∃ W0, W0 = w.alloc (.cells #[.int .i64 (3), .int .i64 i, .int .i64 k] 37) := ⟨_, rfl⟩
  obtain ⟨W1, hW1⟩ : ∃ W1, W1 = W0.alloc (.cells #[.int .i64 0, .int .i64 0, .string ⟨#[]⟩, .int .i64 0] 35) := ⟨_, rfl⟩
  have z0 : W0.heap.size = w.heap.size + 1 := by rw [hW0]; simp
  have z1 : W1.heap.size = w.heap.size + 2 := by rw [hW1]; simp [z0]
  have b0 : Below w.heap.size w W0 := by rw [hW0]; exact gAl _ _
  have b1 : Below W0.heap.size W0 W1 := by rw [hW1]; exact gAl _ _
  have r0 : W1.heap[w.heap.size]? = some (.cells #[.int .i64 (3), .int .i64 i, .int .i64 k] 37 (0, 0)) := (b1.block _ (by omega)).trans (by rw [hW0]; exact heap_alloc_new w _)
  have r1 : GmB W1 (w.heap.size + 1) zG := by rw [← z0, hW1]; exact heap_alloc_new W0 _
  have b01 := gNx b0 b1
  obtain ⟨bx, hbx⟩ : ∃ bx, bx = w.heap.size := ⟨_, rfl⟩
  obtain ⟨xb, hxb⟩ : ∃ xb, xb = w.heap.size + 1 := ⟨_, rfl⟩
  rw [← hbx] at r0
  rw [← hxb] at r1
  have HB1 := Lib.hid b01
  have HGS := Lib.hid (fun V (hV : Below w.heap.size w V) => h.below hV)
  have HXL : Hid (w.heap.size ≤ xb ∧ xb < W1.heap.size) := Lib.hid ⟨by omega, by omega⟩
  have HLB : Hid (lb < w.heap.size ∨ l = []) := Lib.hid (by
    rcases h with h | ⟨_, _, h, _⟩
    · exact Or.inr h
    · exact Or.inl h)
  have HC : Hid (∀ V, Below W1.heap.size W1 V → V.cell? ⟨bx, 0, none⟩ = some (.int .i64 (3)) ∧ V.cell? ⟨bx, 1, none⟩ = some (.int .i64 i) ∧ V.cell? ⟨bx, 2, none⟩ = some (.int .i64 k) ∧ GmB V xb zG) := Lib.hid (fun V hV => by
    obtain ⟨p0, p1, p2⟩ := three_cells ((hV.block bx (by omega)).trans r0)
    exact ⟨p0, p1, p2, (hV.block xb (by omega)).trans r1⟩)
  have HFEW : Hid (l.length ≤ 65536) := Lib.hid hgd.few
  have HCP := Lib.hid (rCopy_any l lb la lc W1 (h.below b01) (by have := hgd.few; omega))
  have HWS : Hid (W1 = (w.alloc (.cells #[.int .i64 (3), .int .i64 i, .int .i64 k] 37)).alloc (.cells #[.int .i64 0, .int .i64 0, .string ⟨#[]⟩, .int .i64 0] 35) ∧ w.heap.size = bx ∧ w.heap.size + 1 = xb) := Lib.hid ⟨by rw [hW1, hW0], hbx.symm, hxb.symm⟩
  obtain ⟨q1, hq1⟩ : ∃ q, (decide ((0 : Int) ≤ i)) = q := ⟨_, rfl⟩
  obtain ⟨q2, hq2⟩ : ∃ q, (decide (i < (l.length : Int))) = q := ⟨_, rfl⟩
  clear h hgd b0 b1 b01 r0 r1 hW0 hW1 z0 z1 hbx hxb
  have hhb : hasB l i = (q1 && q2) := by unfold hasB; rw [hq1, hq2]
  cases q1 with
  | false =>
    have HZ : Hid (doE l 3 i k = 4 ∧ doL l 3 i k = l ∧ doG l 3 i k = zG) := Lib.hid (by
      have e : doE l 3 i k = 4 := by simp [doE, hhb]
      exact ⟨e, by unfold doL; rw [e, if_pos (by decide)], by simp [doG]⟩)
    clear hhb
    go_enter Try.func29, Try.ntmps29
    go_upto_region 1 with (fail)
    rw [← HWS.out.1, HWS.out.2.1]
    rw [← HWS.out.2.1, HWS.out.2.2, HWS.out.2.1]
    obtain ⟨g0, g1, g2, gz⟩ := HC.out W1 (Below.refl _ _)
    go_wp2_with fail
    refine HCP.out.mono ?_
    rintro e w2 ⟨hb2, v2, r2, rfl, hr2, hrow2⟩
    obtain ⟨a2, c2, rfl⟩ := hrow2.slice
    have HB2 := Lib.hid hb2
    have HROW2 := Lib.hid hrow2
    clear hb2 hr2 hrow2 g0 g1 g2 gz
    obtain ⟨g0, g1, g2, gz⟩ := HC.out w2 HB2.out
    obtain ⟨z0, z1, z2, z3, y0, y1, y2, y3⟩ := gz.cells
    have HW := Lib.hid (gz.set 0 0 ⟨#[]⟩ 0)
    have HO := Lib.hid (fun (j : Nat) (hj : j ≠ xb) => gmb_sets (w := w2) (.int .i64 0) (.int .i64 0) (.string ⟨#[]⟩) (.int .i64 0) j hj)
    clear gz
    go_wp2_with fail
    refine bodyPost_ret (results_cellM Try.results29 _ _ xb 0 (gmC zG) _ rfl (gm_range HW.out) Try.underlying35 (by rfl) (by kernel_rfl)) rfl ?_
    rw [HZ.out.1, HZ.out.2.1, HZ.out.2.2]
    exact lg_end (lb := lb) HB1.out HB2.out HXL.out.1 HXL.out.2 HO.out ⟨by simp [World.setCell], rfl, rfl, rfl⟩ ⟨la, lc, lb, rfl, HGS.out _ (gNx HB1.out HB2.out), Or.inl rfl⟩ HLB.out

  | true =>
    cases q2 with
    | false =>
      have HZ : Hid (doE l 3 i k = 4 ∧ doL l 3 i k = l ∧ doG l 3 i k = zG) := Lib.hid (by
        have e : doE l 3 i k = 4 := by simp [doE, hhb]
        exact ⟨e, by unfold doL; rw [e, if_pos (by decide)], by simp [doG]⟩)
      clear hhb
      go_enter Try.func29, Try.ntmps29
      go_upto_region 1 with (fail)
      rw [← HWS.out.1, HWS.out.2.1]
      rw [← HWS.out.2.1, HWS.out.2.2, HWS.out.2.1]
      obtain ⟨g0, g1, g2, gz⟩ := HC.out W1 (Below.refl _ _)
      go_wp2_with fail
      refine HCP.out.mono ?_
      rintro e w2 ⟨hb2, v2, r2, rfl, hr2, hrow2⟩
      obtain ⟨a2, c2, rfl⟩ := hrow2.slice
      have HB2 := Lib.hid hb2
      have HROW2 := Lib.hid hrow2
      clear hb2 hr2 hrow2 g0 g1 g2 gz
      obtain ⟨g0, g1, g2, gz⟩ := HC.out w2 HB2.out
      obtain ⟨z0, z1, z2, z3, y0, y1, y2, y3⟩ := gz.cells
      have HW := Lib.hid (gz.set 0 0 ⟨#[]⟩ 0)
      have HO := Lib.hid (fun (j : Nat) (hj : j ≠ xb) => gmb_sets (w := w2) (.int .i64 0) (.int .i64 0) (.string ⟨#[]⟩) (.int .i64 0) j hj)
      clear gz
      go_wp2_with fail
      refine bodyPost_ret (results_cellM Try.results29 _ _ xb 0 (gmC zG) _ rfl (gm_range HW.out) Try.underlying35 (by rfl) (by kernel_rfl)) rfl ?_
      rw [HZ.out.1, HZ.out.2.1, HZ.out.2.2]
      exact lg_end (lb := lb) HB1.out HB2.out HXL.out.1 HXL.out.2 HO.out ⟨by simp [World.setCell], rfl, rfl, rfl⟩ ⟨la, lc, lb, rfl, HGS.out _ (gNx HB1.out HB2.out), Or.inl rfl⟩ HLB.out

    | true =>
      have h0 : (0 : Int) ≤ i := by simpa using hq1
      have hil : i < (l.length : Int) := by simpa using hq2
      by_cases hl : 65536 ≤ l.length
      · have hli : (65536 : Int) ≤ (l.length : Int) := by omega
        have HZ : Hid (doE l 3 i k = 2 ∧ doL l 3 i k = l ∧ doG l 3 i k = zG) := Lib.hid (by
          have e : doE l 3 i k = 2 := by simp [doE, hhb, hl]
          exact ⟨e, by unfold doL; rw [e, if_pos (by decide)], by simp [doG]⟩)
        clear hhb h0 hil hl
        go_enter Try.func29, Try.ntmps29
        go_upto_region 1 with (fail)
        rw [← HWS.out.1, HWS.out.2.1]
        rw [← HWS.out.2.1, HWS.out.2.2, HWS.out.2.1]
        obtain ⟨g0, g1, g2, gz⟩ := HC.out W1 (Below.refl _ _)
        go_wp2_with fail
        refine HCP.out.mono ?_
        rintro e w2 ⟨hb2, v2, r2, rfl, hr2, hrow2⟩
        obtain ⟨a2, c2, rfl⟩ := hrow2.slice
        have HB2 := Lib.hid hb2
        have HROW2 := Lib.hid hrow2
        clear hb2 hr2 hrow2 g0 g1 g2 gz
        obtain ⟨g0, g1, g2, gz⟩ := HC.out w2 HB2.out
        obtain ⟨z0, z1, z2, z3, y0, y1, y2, y3⟩ := gz.cells
        have HW := Lib.hid (gz.set 0 0 ⟨#[]⟩ 0)
        have HO := Lib.hid (fun (j : Nat) (hj : j ≠ xb) => gmb_sets (w := w2) (.int .i64 0) (.int .i64 0) (.string ⟨#[]⟩) (.int .i64 0) j hj)
        clear gz
        go_wp2_with fail
        refine bodyPost_ret (results_cellM Try.results29 _ _ xb 0 (gmC zG) _ rfl (gm_range HW.out) Try.underlying35 (by rfl) (by kernel_rfl)) rfl ?_
        rw [HZ.out.1, HZ.out.2.1, HZ.out.2.2]
        exact lg_end (lb := lb) HB1.out HB2.out HXL.out.1 HXL.out.2 HO.out ⟨by simp [World.setCell], rfl, rfl, rfl⟩ ⟨la, lc, lb, rfl, HGS.out _ (gNx HB1.out HB2.out), Or.inl rfl⟩ HLB.out

      · have hli : ¬ (65536 : Int) ≤ (l.length : Int) := by omega
        have hli2 : (65536 ≤ (l.length : Int)) = False := by simp; omega
        have HLL : Hid (l.length < 65536) := Lib.hid (by omega)
        have HZ : Hid (doE l 3 i k = 0 ∧ doL l 3 i k = l ++ [gat l i] ∧ doG l 3 i k = zG) := Lib.hid (by
          have e : doE l 3 i k = 0 := by simp [doE, hhb, hl]
          exact ⟨e, by simp [doL, e], by simp [doG]⟩)
        obtain ⟨n, rfl⟩ : ∃ n : Nat, i = (n : Int) := ⟨i.toNat, by omega⟩
        have hn : n < l.length := by omega
        have hg := gat_nat l hn
        have HLT : Hid (lb < w.heap.size) := Lib.hid (by
          rcases HLB.out with h | h
          · exact h
          · subst h; simp at hn)
        obtain ⟨ga, gb, gs, gt, hgm⟩ := gm_parts l[n]
        have HGM := Lib.hid (hg.trans hgm)
        have HEL : Hid (∀ V, Below W1.heap.size W1 V → ∃ o, la = some ⟨lb, o, none⟩ ∧ V.cell? ⟨lb, o + n * 4, none⟩ = some (.int .i64 ga) ∧ V.cell? ⟨lb, o + n * 4 + 1, none⟩ = some (.int .i64 gb) ∧ V.cell? ⟨lb, o + n * 4 + 2, none⟩ = some (.string gs) ∧ V.cell? ⟨lb, o + n * 4 + 3, none⟩ = some (.int .i64 gt)) := Lib.hid (fun V hV => by
          obtain ⟨o, e, hlow, hra⟩ := (HGS.out V (gNx HB1.out hV)).at (by omega)
          obtain ⟨k0, k1, k2, k3⟩ := gm_cells hra hn
          rw [hgm] at k0 k1 k2 k3
          exact ⟨o, e, k0, k1, k2, k3⟩)
        clear hhb hl hn hg hgm h0
        go_enter Try.func29, Try.ntmps29
        go_upto_region 1 with (fail)
        rw [← HWS.out.1, HWS.out.2.1]
        rw [← HWS.out.2.1, HWS.out.2.2, HWS.out.2.1]
        obtain ⟨g0, g1, g2, gz⟩ := HC.out W1 (Below.refl _ _)
        go_wp2_with fail
        refine HCP.out.mono ?_
        rintro e w2 ⟨hb2, v2, r2, rfl, hr2, hrow2⟩
        obtain ⟨a2, c2, rfl⟩ := hrow2.slice
        have HB2 := Lib.hid hb2
        have HROW2 := Lib.hid hrow2
        have HR2 : Hid (W1.heap.size ≤ r2) := Lib.hid hr2
        clear hb2 hr2 hrow2 g0 g1 g2 gz
        obtain ⟨g0, g1, g2, gz⟩ := HC.out w2 HB2.out
        obtain ⟨o, rfl, k0, k1, k2, k3⟩ := HEL.out w2 HB2.out
        obtain ⟨W8, hW8⟩ : ∃ W8, W8 = w2.alloc (.cells #[.int .i64 ga, .int .i64 gb, .string gs, .int .i64 gt] 35) := ⟨_, rfl⟩
        obtain ⟨a9, c9, W9, r9, hrun, hrow9, hr9, hb9⟩ := gm_app (k := l.length) ga gb gs gt HROW2.out (by have := HLL.out; omega) HR2.out HB2.out HB2.out.size W8 hW8
        rw [hW8] at hrun
        have HRUN := Lib.hid hrun
        have HROW9 := Lib.hid hrow9
        have HR9 := Lib.hid hr9
        have HB9 := Lib.hid hb9
        have hx9 := (HC.out W9 hb9).2.2.2
        obtain ⟨z0, z1, z2, z3, y0, y1, y2, y3⟩ := hx9.cells
        have HW := Lib.hid (hx9.set 0 0 ⟨#[]⟩ 0)
        have HO := Lib.hid (fun (j : Nat) (hj : j ≠ xb) => gmb_sets (w := W9) (.int .i64 0) (.int .i64 0) (.string ⟨#[]⟩) (.int .i64 0) j hj)
        clear hrun hrow9 hr9 hb9 hW8 hx9 gz
        go_wp2_with (at_builtin; refine Lib.wpList_append_run _ rfl _ _ _ _ rfl _ _ rfl rfl _ _ (HRUN.out _) ?_)
        refine bodyPost_ret (results_cellM Try.results29 _ _ xb 0 (gmC zG) _ rfl (gm_range HW.out) Try.underlying35 (by rfl) (by kernel_rfl)) rfl ?_
        rw [HZ.out.1, HZ.out.2.1, HZ.out.2.2, HGM.out]
        exact lg_end (lb := lb) HB1.out HB9.out HXL.out.1 HXL.out.2 HO.out ⟨by simp [World.setCell], rfl, rfl, rfl⟩ ⟨a9, c9, r9, by rw [List.length_append]; rfl, rw_gs HROW9.out, Or.inr HR9.out⟩ (Or.inl HLT.out)

end Go.Proofs.Ytldbmdalmhhpfaa
