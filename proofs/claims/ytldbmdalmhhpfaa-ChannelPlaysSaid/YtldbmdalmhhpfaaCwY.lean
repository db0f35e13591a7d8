/- Channel: the document's Do: swap. -/
import Derived.Test.YtldbmdalmhhpfaaCwX
import Derived.Test.YtldbmdalmhhpfaaCwF
namespace Go.Proofs.Ytldbmdalmhhpfaa
open Go.RowKit Go.Lib Go.Ow Go.Cw Go.Cq
set_option linter.unusedVariables false
set_option linter.unusedSimpArgs false
set_option maxRecDepth 100000

set_option maxHeartbeats 16000000 in
theorem rDo_swap (i k : Int) (l : List Gm) (hgd : Cq.Good l) (lb : Nat) (la : Option Addr) (lc : Nat) (w : World) (h : Gs w lb l la) :
    Calls Try.prog 29 #[.slice la l.length lc, .agg #[.int .i64 (5), .int .i64 i, .int .i64 k]] w fun e w' => LG w lb (doL l (5) i k) (doG l (5) i k) (doE l (5) i k) e w' := by
  obtain ⟨W0, hW0⟩ : ∃ W0, W0 = w.alloc (.cells #[.int .i64 (5), .int .i64 i, .int .i64 k] 37) := ⟨_, rfl⟩
  obtain ⟨W1, hW1⟩ : ∃ W1, W1 = W0.alloc (.cells #[.int .i64 0, .int .i64 0, .string ⟨#[]⟩, .int .i64 0] 35) := ⟨_, rfl⟩
  have z0 : W0.heap.size = w.heap.size + 1 := by rw [hW0]; simp
  have z1 : W1.heap.size = w.heap.size + 2 := by rw [hW1]; simp [z0]
  have b0 : Below w.heap.size w W0 := by rw [hW0]; exact gAl _ _
  have b1 : Below W0.heap.size W0 W1 := by rw [hW1]; exact gAl _ _
  have r0 : W1.heap[w.heap.size]? = some (.cells #[.int .i64 (5), .int .i64 i, .int .i64 k] 37 (0, 0)) := (b1.block _ (by omega)).trans (by rw [hW0]; exact heap_alloc_new w _)
  have r1 : GmB W1 (w.heap.size + 1) zG := by rw [← z0, hW1]; exact heap_alloc_new W0 _
  have b01 := gNx b0 b1
  obtain ⟨bx, hbx⟩ : ∃ bx, bx = w.heap.size := ⟨_, rfl⟩
  obtain ⟨xb, hxb⟩ : ∃ xb, xb = w.heap.size + 1 := ⟨_, rfl⟩
  rw [← hbx] at r0
  rw [← hxb] at r1
  have HB1 := Lib.hid b01
  have HGS := Lib.hid (fun V (hV : Below w.heap.size w V) => h.below hV)
  have HXL : Hid (w.heap.size ≤ xb ∧ xb < W1.heap.size) := Lib.hid ⟨by omega, by omega⟩
  have HLB : Hid (lb < w.heap.size ∨ l = []) := Lib.hid (by
    rcases h with h | ⟨_, _, h, _⟩
    · exact Or.inr h
    · exact Or.inl h)
  have HC : Hid (∀ V, Below W1.heap.size W1 V → V.cell? ⟨bx, 0, none⟩ = some (.int .i64 (5)) ∧ V.cell? ⟨bx, 1, none⟩ = some (.int .i64 i) ∧ V.cell? ⟨bx, 2, none⟩ = some (.int .i64 k) ∧ GmB V xb zG) := Lib.hid (fun V hV => by
    obtain ⟨p0, p1, p2⟩ := three_cells ((hV.block bx (by omega)).trans r0)
    exact ⟨p0, p1, p2, (hV.block xb (by omega)).trans r1⟩)
  have HFEW : Hid (l.length ≤ 65536) := Lib.hid hgd.few
  have HCP := Lib.hid (rCopy_any l lb la lc W1 (h.below b01) (by have := hgd.few; omega))
  have HWS : Hid (W1 = (w.alloc (.cells #[.int .i64 (5), .int .i64 i, .int .i64 k] 37)).alloc (.cells #[.int .i64 0, .int .i64 0, .string ⟨#[]⟩, .int .i64 0] 35) ∧ w.heap.size = bx ∧ w.heap.size + 1 = xb) := Lib.hid ⟨by rw [hW1, hW0], hbx.symm, hxb.symm⟩
  have hgdK := Lib.hid hgd
  obtain ⟨q1, hq1⟩ : ∃ q, (decide ((0 : Int) ≤ i)) = q := ⟨_, rfl⟩
  obtain ⟨q2, hq2⟩ : ∃ q, (decide (i < (l.length : Int))) = q := ⟨_, rfl⟩
  clear h hgd b0 b1 b01 r0 r1 hW0 hW1 z0 z1 hbx hxb
  have hhb : hasB l i = (q1 && q2) := by unfold hasB; rw [hq1, hq2]
  cases q1 with
  | false =>
    have HZ : Hid (doE l 5 i k = 4 ∧ doL l 5 i k = l ∧ doG l 5 i k = zG) := Lib.hid (by
      have e : doE l 5 i k = 4 := by simp [doE, hhb]
      exact ⟨e, by unfold doL; rw [e, if_pos (by decide)], by simp [doG]⟩)
    clear hhb
    go_enter Try.func29, Try.ntmps29
    go_upto_region 1 with (fail)
    rw [← HWS.out.1, HWS.out.2.1]
    rw [← HWS.out.2.1, HWS.out.2.2, HWS.out.2.1]
    obtain ⟨g0, g1, g2, gz⟩ := HC.out W1 (Below.refl _ _)
    go_wp2_with fail
    refine HCP.out.mono ?_
    rintro e w2 ⟨hb2, v2, r2, rfl, hr2, hrow2⟩
    obtain ⟨a2, c2, rfl⟩ := hrow2.slice
    have HB2 := Lib.hid hb2
    have HROW2 := Lib.hid hrow2
    clear hb2 hr2 hrow2 g0 g1 g2 gz
    obtain ⟨g0, g1, g2, gz⟩ := HC.out w2 HB2.out
    obtain ⟨z0, z1, z2, z3, y0, y1, y2, y3⟩ := gz.cells
    have HW := Lib.hid (gz.set 0 0 ⟨#[]⟩ 0)
    have HO := Lib.hid (fun (j : Nat) (hj : j ≠ xb) => gmb_sets (w := w2) (.int .i64 0) (.int .i64 0) (.string ⟨#[]⟩) (.int .i64 0) j hj)
    clear gz
    go_wp2_with fail
    refine bodyPost_ret (results_cellM Try.results29 _ _ xb 0 (gmC zG) _ rfl (gm_range HW.out) Try.underlying35 (by rfl) (by kernel_rfl)) rfl ?_
    rw [HZ.out.1, HZ.out.2.1, HZ.out.2.2]
    exact lg_end (lb := lb) HB1.out HB2.out HXL.out.1 HXL.out.2 HO.out ⟨by simp [World.setCell], rfl, rfl, rfl⟩ ⟨la, lc, lb, rfl, HGS.out _ (gNx HB1.out HB2.out), Or.inl rfl⟩ HLB.out

  | true =>
    cases q2 with
    | false =>
      have HZ : Hid (doE l 5 i k = 4 ∧ doL l 5 i k = l ∧ doG l 5 i k = zG) := Lib.hid (by
        have e : doE l 5 i k = 4 := by simp [doE, hhb]
        exact ⟨e, by unfold doL; rw [e, if_pos (by decide)], by simp [doG]⟩)
      clear hhb
      go_enter Try.func29, Try.ntmps29
      go_upto_region 1 with (fail)
      rw [← HWS.out.1, HWS.out.2.1]
      rw [← HWS.out.2.1, HWS.out.2.2, HWS.out.2.1]
      obtain ⟨g0, g1, g2, gz⟩ := HC.out W1 (Below.refl _ _)
      go_wp2_with fail
      refine HCP.out.mono ?_
      rintro e w2 ⟨hb2, v2, r2, rfl, hr2, hrow2⟩
      obtain ⟨a2, c2, rfl⟩ := hrow2.slice
      have HB2 := Lib.hid hb2
      have HROW2 := Lib.hid hrow2
      clear hb2 hr2 hrow2 g0 g1 g2 gz
      obtain ⟨g0, g1, g2, gz⟩ := HC.out w2 HB2.out
      obtain ⟨z0, z1, z2, z3, y0, y1, y2, y3⟩ := gz.cells
      have HW := Lib.hid (gz.set 0 0 ⟨#[]⟩ 0)
      have HO := Lib.hid (fun (j : Nat) (hj : j ≠ xb) => gmb_sets (w := w2) (.int .i64 0) (.int .i64 0) (.string ⟨#[]⟩) (.int .i64 0) j hj)
      clear gz
      go_wp2_with fail
      refine bodyPost_ret (results_cellM Try.results29 _ _ xb 0 (gmC zG) _ rfl (gm_range HW.out) Try.underlying35 (by rfl) (by kernel_rfl)) rfl ?_
      rw [HZ.out.1, HZ.out.2.1, HZ.out.2.2]
      exact lg_end (lb := lb) HB1.out HB2.out HXL.out.1 HXL.out.2 HO.out ⟨by simp [World.setCell], rfl, rfl, rfl⟩ ⟨la, lc, lb, rfl, HGS.out _ (gNx HB1.out HB2.out), Or.inl rfl⟩ HLB.out

    | true =>
      have h0 : (0 : Int) ≤ i := by simpa using hq1
      have hil : i < (l.length : Int) := by simpa using hq2
      obtain ⟨n, rfl⟩ : ∃ n : Nat, i = (n : Int) := ⟨i.toNat, by omega⟩
      have hn : n < l.length := by omega
      have hn0 : (0 : Int) ≤ (n : Int) := by omega
      by_cases hk0 : k < 0
      · have hkb : decide (k < 0) = true := by simpa using hk0
        have HZ : Hid (doE l 5 (n : Int) k = 4 ∧ doL l 5 (n : Int) k = l ∧ doG l 5 (n : Int) k = zG) := Lib.hid (by
          have e : doE l 5 (n : Int) k = 4 := by unfold doE; rw [if_neg (by decide), if_neg (by decide), if_neg (by decide), if_neg (by decide), if_pos rfl, if_neg (by rintro ⟨-, h⟩; unfold hasB at h; simp at h; omega)]
          exact ⟨e, by unfold doL; rw [e, if_pos (by decide)], by simp [doG]⟩)
        clear hhb h0 hn
        go_enter Try.func29, Try.ntmps29
        go_upto_region 1 with (fail)
        rw [← HWS.out.1, HWS.out.2.1]
        rw [← HWS.out.2.1, HWS.out.2.2, HWS.out.2.1]
        obtain ⟨g0, g1, g2, gz⟩ := HC.out W1 (Below.refl _ _)
        go_wp2_with fail
        refine HCP.out.mono ?_
        rintro e w2 ⟨hb2, v2, r2, rfl, hr2, hrow2⟩
        obtain ⟨a2, c2, rfl⟩ := hrow2.slice
        have HB2 := Lib.hid hb2
        have HROW2 := Lib.hid hrow2
        clear hb2 hr2 hrow2 g0 g1 g2 gz
        obtain ⟨g0, g1, g2, gz⟩ := HC.out w2 HB2.out
        obtain ⟨z0, z1, z2, z3, y0, y1, y2, y3⟩ := gz.cells
        have HW := Lib.hid (gz.set 0 0 ⟨#[]⟩ 0)
        have HO := Lib.hid (fun (j : Nat) (hj : j ≠ xb) => gmb_sets (w := w2) (.int .i64 0) (.int .i64 0) (.string ⟨#[]⟩) (.int .i64 0) j hj)
        clear gz
        go_wp2_with fail
        refine bodyPost_ret (results_cellM Try.results29 _ _ xb 0 (gmC zG) _ rfl (gm_range HW.out) Try.underlying35 (by rfl) (by kernel_rfl)) rfl ?_
        rw [HZ.out.1, HZ.out.2.1, HZ.out.2.2]
        exact lg_end (lb := lb) HB1.out HB2.out HXL.out.1 HXL.out.2 HO.out ⟨by simp [World.setCell], rfl, rfl, rfl⟩ ⟨la, lc, lb, rfl, HGS.out _ (gNx HB1.out HB2.out), Or.inl rfl⟩ HLB.out

      by_cases hk1 : (l.length : Int) ≤ k
      · have hkb : decide (k < 0) = false := by simpa using hk0
        have hkd : decide ((l.length : Int) ≤ k) = true := by simpa using hk1
        have HZ : Hid (doE l 5 (n : Int) k = 4 ∧ doL l 5 (n : Int) k = l ∧ doG l 5 (n : Int) k = zG) := Lib.hid (by
          have e : doE l 5 (n : Int) k = 4 := by unfold doE; rw [if_neg (by decide), if_neg (by decide), if_neg (by decide), if_neg (by decide), if_pos rfl, if_neg (by rintro ⟨-, h⟩; unfold hasB at h; simp at h; omega)]
          exact ⟨e, by unfold doL; rw [e, if_pos (by decide)], by simp [doG]⟩)
        clear hhb h0 hn
        go_enter Try.func29, Try.ntmps29
        go_upto_region 1 with (fail)
        rw [← HWS.out.1, HWS.out.2.1]
        rw [← HWS.out.2.1, HWS.out.2.2, HWS.out.2.1]
        obtain ⟨g0, g1, g2, gz⟩ := HC.out W1 (Below.refl _ _)
        go_wp2_with fail
        refine HCP.out.mono ?_
        rintro e w2 ⟨hb2, v2, r2, rfl, hr2, hrow2⟩
        obtain ⟨a2, c2, rfl⟩ := hrow2.slice
        have HB2 := Lib.hid hb2
        have HROW2 := Lib.hid hrow2
        clear hb2 hr2 hrow2 g0 g1 g2 gz
        obtain ⟨g0, g1, g2, gz⟩ := HC.out w2 HB2.out
        obtain ⟨z0, z1, z2, z3, y0, y1, y2, y3⟩ := gz.cells
        have HW := Lib.hid (gz.set 0 0 ⟨#[]⟩ 0)
        have HO := Lib.hid (fun (j : Nat) (hj : j ≠ xb) => gmb_sets (w := w2) (.int .i64 0) (.int .i64 0) (.string ⟨#[]⟩) (.int .i64 0) j hj)
        clear gz
        go_wp2_with fail
        refine bodyPost_ret (results_cellM Try.results29 _ _ xb 0 (gmC zG) _ rfl (gm_range HW.out) Try.underlying35 (by rfl) (by kernel_rfl)) rfl ?_
        rw [HZ.out.1, HZ.out.2.1, HZ.out.2.2]
        exact lg_end (lb := lb) HB1.out HB2.out HXL.out.1 HXL.out.2 HO.out ⟨by simp [World.setCell], rfl, rfl, rfl⟩ ⟨la, lc, lb, rfl, HGS.out _ (gNx HB1.out HB2.out), Or.inl rfl⟩ HLB.out

      obtain ⟨m, rfl⟩ : ∃ m : Nat, k = (m : Int) := ⟨k.toNat, by omega⟩
      have hm : m < l.length := by omega
      have hm0 : (0 : Int) ≤ (m : Int) := by omega
      have hmi : (m : Int) < (l.length : Int) := by omega
      have hkb : decide ((m : Int) < 0) = false := by simp
      have hkc : ((m : Int) < 0) = False := by simp
      have hkd : decide ((l.length : Int) ≤ (m : Int)) = false := by simp; omega
      have hgn := gat_nat l hn
      have hgm := gat_nat l hm
      have HLT : Hid (lb < w.heap.size) := Lib.hid (by
        rcases HLB.out with h | h
        · exact h
        · subst h; simp at hn)
      obtain ⟨ga, gb, gs, gt, en⟩ := gm_parts l[n]
      obtain ⟨ha, hb, hs, ht, em⟩ := gm_parts l[m]
      rw [en] at hgn
      rw [em] at hgm
      have HZ : Hid (doE l 5 (n : Int) (m : Int) = 0 ∧ doL l 5 (n : Int) (m : Int) = (l.set n ⟨ha, hb, hs, ht⟩).set m ⟨ga, gb, gs, gt⟩ ∧ doG l 5 (n : Int) (m : Int) = zG) := Lib.hid (by
        have hb2 : hasB l (m : Int) = true := by unfold hasB; simp; omega
        have e : doE l 5 (n : Int) (m : Int) = 0 := by simp [doE, hhb, hb2]
        refine ⟨e, ?_, by simp [doG]⟩
        unfold doL
        rw [e, if_neg (by decide), if_neg (by decide), if_neg (by decide), if_neg (by decide), if_neg (by decide), if_pos rfl, hgn, hgm]
        rfl)
      obtain ⟨o, rfl, hlow, hra⟩ := (HGS.out W1 HB1.out).at (by omega)
      have hrn := range_at hra hn
      have hrm := range_at hra hm
      rw [en] at hrn
      rw [em] at hrm
      have HLR : Hid (∀ V, Below W1.heap.size W1 V → V.rangeAt lb (o + n * 4) [.int .i64 ga, .int .i64 gb, .string gs, .int .i64 gt] ∧ V.rangeAt lb (o + m * 4) [.int .i64 ha, .int .i64 hb, .string hs, .int .i64 ht]) := Lib.hid (fun V hV => ⟨fun j u hj => (World.cell?_of_block (a := ⟨lb, o + n * 4 + j, none⟩) (hV.block lb hlow)).trans (hrn j u hj), fun j u hj => (World.cell?_of_block (a := ⟨lb, o + m * 4 + j, none⟩) (hV.block lb hlow)).trans (hrm j u hj)⟩)
      have HN : Hid (n < l.length ∧ m < l.length ∧ lb < W1.heap.size) := Lib.hid ⟨hn, hm, hlow⟩
      clear hra hrn hrm hlow en em hgn hgm hhb h0 hn hm
      clear hk0 hk1
      go_enter Try.func29, Try.ntmps29
      go_upto_region 1 with (fail)
      rw [← HWS.out.1, HWS.out.2.1]
      rw [← HWS.out.2.1, HWS.out.2.2, HWS.out.2.1]
      obtain ⟨g0, g1, g2, gz⟩ := HC.out W1 (Below.refl _ _)
      go_wp2_with fail
      refine HCP.out.mono ?_
      rintro e w2 ⟨hb2, v2, r2, rfl, hr2, hrow2⟩
      obtain ⟨a2, c2, rfl⟩ := hrow2.slice
      have HB2 := Lib.hid hb2
      have HROW2 := Lib.hid hrow2
      have HR2 : Hid (W1.heap.size ≤ r2) := Lib.hid hr2
      clear hb2 hr2 hrow2 g0 g1 g2 gz
      obtain ⟨g0, g1, g2, gz⟩ := HC.out w2 HB2.out
      obtain ⟨o2, cap2, e2, hcap2, hlow2, hcur2, hra2, hth2, hml2⟩ := HROW2.out.at (by have := HN.out; omega)
      simp only [Value.slice.injEq, true_and] at e2
      obtain ⟨rfl, rfl⟩ := e2
      have HTH : Hid (w2.there r2 o2 (l.length * 4) ∧ r2 < w2.heap.size) := Lib.hid ⟨hth2, hlow2⟩
      clear hcap2 hlow2 hcur2 hra2 hth2 hml2
      go_upto_region 33 with (fail)
      have HV1 : Hid (Below w2.heap.size w2 w2.drew) := Lib.hid (Below.refl w2.heap.size w2).drew
      have hs1 : w2.drew.cell? ⟨bx, 1, none⟩ = some (.int .i64 (n : Int)) ∧ w2.drew.cell? ⟨bx, 2, none⟩ = some (.int .i64 (m : Int)) ∧ w2.drew.rangeAt lb (o + n * 4) [.int .i64 ga, .int .i64 gb, .string gs, .int .i64 gt] ∧ w2.drew.rangeAt lb (o + m * 4) [.int .i64 ha, .int .i64 hb, .string hs, .int .i64 ht] := ⟨(HC.out _ (gNx HB2.out HV1.out)).2.1, (HC.out _ (gNx HB2.out HV1.out)).2.2.1, (HLR.out _ (gNx HB2.out HV1.out)).1, (HLR.out _ (gNx HB2.out HV1.out)).2⟩
      have hth1 : w2.drew.there r2 o2 (l.length * 4) := (World.there_drew w2 _ _ _).2 HTH.out.1
      have hbx : bx ≠ r2 := by have := cell_lt (HC.out W1 (Below.refl _ _)).1; have := HR2.out; simp only at *; omega
      have hlr : lb ≠ r2 := by have := HN.out; have := HR2.out; omega
      refine wp_region_held_drew (S := fun V => V.cell? ⟨bx, 1, none⟩ = some (.int .i64 (n : Int)) ∧ V.cell? ⟨bx, 2, none⟩ = some (.int .i64 (m : Int)) ∧ V.rangeAt lb (o + n * 4) [.int .i64 ga, .int .i64 gb, .string gs, .int .i64 gt] ∧ V.rangeAt lb (o + m * 4) [.int .i64 ha, .int .i64 hb, .string hs, .int .i64 ht]) (by kernel_rfl) hs1 (fun hH => ?_)
      clear hH
      generalize w2.drew = V1 at *
      refine tk 0 (by assumption) rfl (by kernel_rfl) (fun _ _ _ h => h) (fun V hV => by go_simp; try with_reducible rfl) ?_
      try simp only [Act.put, sqA, sqB, sqC, sqD, sqE, sqF]
      refine tk 1 (by assumption) rfl (by kernel_rfl) (fun _ _ _ h => h) (fun V hV => by go_simp; try with_reducible rfl) ?_
      try simp only [Act.put, sqA, sqB, sqC, sqD, sqE, sqF]
      refine tk 2 (by assumption) rfl (by kernel_rfl) (fun _ _ _ h => h) (fun V hV => by obtain ⟨hx0, hx1, hx2, hx3⟩ := hV; go_simp; try with_reducible rfl) ?_
      try simp only [Act.put, sqA, sqB, sqC, sqD, sqE, sqF]
      refine tk 3 (by assumption) rfl (by kernel_rfl) (fun _ _ _ h => h) (fun V hV => by go_simp; try with_reducible rfl) ?_
      try simp only [Act.put, sqA, sqB, sqC, sqD, sqE, sqF]
      refine tk 4 (by assumption) rfl (by kernel_rfl) (fun _ _ _ h => h) (fun V hV => by go_simp; try with_reducible rfl) ?_
      try simp only [Act.put, sqA, sqB, sqC, sqD, sqE, sqF]
      refine tk 5 (by assumption) rfl (by kernel_rfl) (fun _ _ _ h => h) (fun V hV => by obtain ⟨hx0, hx1, hx2, hx3⟩ := hV; go_simp; try with_reducible rfl) ?_
      try simp only [Act.put, sqA, sqB, sqC, sqD, sqE, sqF]
      refine tk 6 (by assumption) rfl (by kernel_rfl) (fun _ _ _ h => h) (fun V hV => by go_simp; try with_reducible rfl) ?_
      try simp only [Act.put, sqA, sqB, sqC, sqD, sqE, sqF]
      refine tk 7 (by assumption) rfl (by kernel_rfl) (fun _ _ _ h => h) (fun V hV => by go_simp; try with_reducible rfl) ?_
      try simp only [Act.put, sqA, sqB, sqC, sqD, sqE, sqF]
      refine tk 8 (by assumption) rfl (by kernel_rfl) (fun _ _ _ h => h) (fun V hV => by obtain ⟨hx0, hx1, hx2, hx3⟩ := hV; go_simp; try with_reducible rfl) ?_
      try simp only [Act.put, sqA, sqB, sqC, sqD, sqE, sqF]
      refine tk 9 (by assumption) rfl (by kernel_rfl) (fun _ _ _ h => h) (fun V hV => by go_simp; try with_reducible rfl) ?_
      try simp only [Act.put, sqA, sqB, sqC, sqD, sqE, sqF]
      refine tk 10 (by assumption) rfl (by kernel_rfl) (fun _ _ _ h => h) (tk_load (S := fun V => V.cell? ⟨bx, 1, none⟩ = some (.int .i64 (n : Int)) ∧ V.cell? ⟨bx, 2, none⟩ = some (.int .i64 (m : Int)) ∧ V.rangeAt lb (o + n * 4) [.int .i64 ga, .int .i64 gb, .string gs, .int .i64 gt] ∧ V.rangeAt lb (o + m * 4) [.int .i64 ha, .int .i64 hb, .string hs, .int .i64 ht]) 35 (.tmp 157) rfl lb (o + m * 4) rfl [.int .i64 ha, .int .i64 hb, .string hs, .int .i64 ht] _ (fun V hV => hV.2.2.2) Try.underlying35 (by rfl) (by kernel_rfl)) ?_
      try simp only [Act.put, sqA, sqB, sqC, sqD, sqE, sqF]
      refine tk 11 (by assumption) rfl (by kernel_rfl) (fun _ _ _ h => h) (fun V hV => by go_simp; try with_reducible rfl) ?_
      try simp only [Act.put, sqA, sqB, sqC, sqD, sqE, sqF]
      refine tk 12 (by assumption) rfl (by kernel_rfl) (fun _ _ _ h => h) (fun V hV => by go_simp; try with_reducible rfl) ?_
      try simp only [Act.put, sqA, sqB, sqC, sqD, sqE, sqF]
      refine tk 13 (by assumption) rfl (by kernel_rfl) (fun _ _ _ h => h) (fun V hV => by obtain ⟨hx0, hx1, hx2, hx3⟩ := hV; go_simp; try with_reducible rfl) ?_
      try simp only [Act.put, sqA, sqB, sqC, sqD, sqE, sqF]
      refine tk 14 (by assumption) rfl (by kernel_rfl) (fun _ _ _ h => h) (fun V hV => by go_simp; try with_reducible rfl) ?_
      try simp only [Act.put, sqA, sqB, sqC, sqD, sqE, sqF]
      refine tk 15 (by assumption) rfl (by kernel_rfl) (fun _ _ _ h => h) (tk_load (S := fun V => V.cell? ⟨bx, 1, none⟩ = some (.int .i64 (n : Int)) ∧ V.cell? ⟨bx, 2, none⟩ = some (.int .i64 (m : Int)) ∧ V.rangeAt lb (o + n * 4) [.int .i64 ga, .int .i64 gb, .string gs, .int .i64 gt] ∧ V.rangeAt lb (o + m * 4) [.int .i64 ha, .int .i64 hb, .string hs, .int .i64 ht]) 35 (.tmp 162) rfl lb (o + n * 4) rfl [.int .i64 ga, .int .i64 gb, .string gs, .int .i64 gt] _ (fun V hV => hV.2.2.1) Try.underlying35 (by rfl) (by kernel_rfl)) ?_
      try simp only [Act.put, sqA, sqB, sqC, sqD, sqE, sqF]
      refine tk 16 (by assumption) rfl (by kernel_rfl) (fun _ _ _ h => h) (fun V hV => by go_simp; try with_reducible rfl) ?_
      try simp only [Act.put, sqA, sqB, sqC, sqD, sqE, sqF]
      refine wpAnyH_ready (rs := [17]) (by kernel_rfl) (by simp) ?_
      refine AllReadyH.cons (o := _) rfl (fun K hK => ?_) AllReadyH.nil
      have hs2 : (V1.setCells r2 (o2 + n * 4) ([.int .i64 ha, .int .i64 hb, .string hs, .int .i64 ht] : List Value).toArray.toList).cell? ⟨bx, 1, none⟩ = some (.int .i64 (n : Int)) ∧ (V1.setCells r2 (o2 + n * 4) ([.int .i64 ha, .int .i64 hb, .string hs, .int .i64 ht] : List Value).toArray.toList).cell? ⟨bx, 2, none⟩ = some (.int .i64 (m : Int)) ∧ (V1.setCells r2 (o2 + n * 4) ([.int .i64 ha, .int .i64 hb, .string hs, .int .i64 ht] : List Value).toArray.toList).rangeAt lb (o + n * 4) [.int .i64 ga, .int .i64 gb, .string gs, .int .i64 gt] ∧ (V1.setCells r2 (o2 + n * 4) ([.int .i64 ha, .int .i64 hb, .string hs, .int .i64 ht] : List Value).toArray.toList).rangeAt lb (o + m * 4) [.int .i64 ha, .int .i64 hb, .string hs, .int .i64 ht] := ⟨(World.cell?_of_block (a := ⟨bx, 1, none⟩) (setCells_other r2 ([.int .i64 ha, .int .i64 hb, .string hs, .int .i64 ht] : List Value).toArray.toList (o2 + n * 4) _ bx hbx)).trans hs1.1, (World.cell?_of_block (a := ⟨bx, 2, none⟩) (setCells_other r2 ([.int .i64 ha, .int .i64 hb, .string hs, .int .i64 ht] : List Value).toArray.toList (o2 + n * 4) _ bx hbx)).trans hs1.2.1, World.rangeAt_setCells_apart hs1.2.2.1 _ _ _ (Or.inl hlr), World.rangeAt_setCells_apart hs1.2.2.2 _ _ _ (Or.inl hlr)⟩
      rw [if_pos (by rfl)]
      refine wp_store_mid 35 (.tmp 164) (.tmp 158) rfl r2 (o2 + n * 4) ([.int .i64 ha, .int .i64 hb, .string hs, .int .i64 ht] : List Value).toArray rfl rfl (there_at hth1 HN.out.1) (by kernel_rfl) (all_oneCell_toArray (cs := [.int .i64 ha, .int .i64 hb, .string hs, .int .i64 ht]) (by intro v hv; simp only [List.mem_cons, List.not_mem_nil, or_false] at hv; rcases hv with rfl | rfl | rfl | rfl <;> rfl)) ?_
      refine hK.out _ _ hs2 (fun hH => ?_)
      clear hK K hH
      try simp only [Act.put, sqA, sqB, sqC, sqD, sqE, sqF]
      refine tk 18 (by assumption) rfl (by kernel_rfl) (fun _ _ _ h => h) (fun V hV => by go_simp; try with_reducible rfl) ?_
      try simp only [Act.put, sqA, sqB, sqC, sqD, sqE, sqF]
      refine wpAnyH_ready (rs := [19]) (by kernel_rfl) (by simp) ?_
      refine AllReadyH.cons (o := _) rfl (fun K hK => ?_) AllReadyH.nil
      have hs3 : ((V1.setCells r2 (o2 + n * 4) ([.int .i64 ha, .int .i64 hb, .string hs, .int .i64 ht] : List Value).toArray.toList).setCells r2 (o2 + m * 4) ([.int .i64 ga, .int .i64 gb, .string gs, .int .i64 gt] : List Value).toArray.toList).cell? ⟨bx, 1, none⟩ = some (.int .i64 (n : Int)) ∧ ((V1.setCells r2 (o2 + n * 4) ([.int .i64 ha, .int .i64 hb, .string hs, .int .i64 ht] : List Value).toArray.toList).setCells r2 (o2 + m * 4) ([.int .i64 ga, .int .i64 gb, .string gs, .int .i64 gt] : List Value).toArray.toList).cell? ⟨bx, 2, none⟩ = some (.int .i64 (m : Int)) ∧ ((V1.setCells r2 (o2 + n * 4) ([.int .i64 ha, .int .i64 hb, .string hs, .int .i64 ht] : List Value).toArray.toList).setCells r2 (o2 + m * 4) ([.int .i64 ga, .int .i64 gb, .string gs, .int .i64 gt] : List Value).toArray.toList).rangeAt lb (o + n * 4) [.int .i64 ga, .int .i64 gb, .string gs, .int .i64 gt] ∧ ((V1.setCells r2 (o2 + n * 4) ([.int .i64 ha, .int .i64 hb, .string hs, .int .i64 ht] : List Value).toArray.toList).setCells r2 (o2 + m * 4) ([.int .i64 ga, .int .i64 gb, .string gs, .int .i64 gt] : List Value).toArray.toList).rangeAt lb (o + m * 4) [.int .i64 ha, .int .i64 hb, .string hs, .int .i64 ht] := ⟨(World.cell?_of_block (a := ⟨bx, 1, none⟩) (setCells_other r2 ([.int .i64 ga, .int .i64 gb, .string gs, .int .i64 gt] : List Value).toArray.toList (o2 + m * 4) _ bx hbx)).trans hs2.1, (World.cell?_of_block (a := ⟨bx, 2, none⟩) (setCells_other r2 ([.int .i64 ga, .int .i64 gb, .string gs, .int .i64 gt] : List Value).toArray.toList (o2 + m * 4) _ bx hbx)).trans hs2.2.1, World.rangeAt_setCells_apart hs2.2.2.1 _ _ _ (Or.inl hlr), World.rangeAt_setCells_apart hs2.2.2.2 _ _ _ (Or.inl hlr)⟩
      rw [if_pos (by rfl)]
      refine wp_store_mid 35 (.tmp 165) (.tmp 163) rfl r2 (o2 + m * 4) ([.int .i64 ga, .int .i64 gb, .string gs, .int .i64 gt] : List Value).toArray rfl rfl (World.there_setCells (there_at hth1 HN.out.2.1) _ _ _) (by kernel_rfl) (all_oneCell_toArray (cs := [.int .i64 ga, .int .i64 gb, .string gs, .int .i64 gt]) (by intro v hv; simp only [List.mem_cons, List.not_mem_nil, or_false] at hv; rcases hv with rfl | rfl | rfl | rfl <;> rfl)) ?_
      refine hK.out _ _ hs3 (fun hH => ?_)
      clear hK K hH
      try simp only [Act.put, sqA, sqB, sqC, sqD, sqE, sqF]
      refine wpAnyH_done (by kernel_rfl) ?_ _
      obtain ⟨V9, hV9⟩ : ∃ V9, V9 = (V1.setCells r2 (o2 + n * 4) ([.int .i64 ha, .int .i64 hb, .string hs, .int .i64 ht] : List Value).toArray.toList).setCells r2 (o2 + m * 4) ([.int .i64 ga, .int .i64 gb, .string gs, .int .i64 gt] : List Value).toArray.toList := ⟨_, rfl⟩
      rw [← hV9]
      have HROW9 : Hid (Rw V9 r2 35 4 (.slice (some ⟨r2, o2, none⟩) ((l.set n ⟨ha, hb, hs, ht⟩).set m ⟨ga, gb, gs, gt⟩).length c2) ((l.set n ⟨ha, hb, hs, ht⟩).set m ⟨ga, gb, gs, gt⟩).length (gmRow ((l.set n ⟨ha, hb, hs, ht⟩).set m ⟨ga, gb, gs, gt⟩))) := Lib.hid (by
        have h1 := rw_put (HROW2.out.below HV1.out) HN.out.1 ⟨ha, hb, hs, ht⟩
        have h2 := rw_put h1 (n := m) (by rw [List.length_set]; exact HN.out.2.1) ⟨ga, gb, gs, gt⟩
        rw [hV9]
        exact h2)
      have HB9 : Hid (Below W1.heap.size W1 V9) := Lib.hid (by rw [hV9]; exact below_set r2 HR2.out _ _ _ (below_set r2 HR2.out _ _ _ (gNx HB2.out HV1.out)))
      clear hs1 hs2 hs3 hbx hlr hth1 hV9
      obtain ⟨g0, g1, g2, gz⟩ := HC.out V9 HB9.out
      obtain ⟨z0, z1, z2, z3, y0, y1, y2, y3⟩ := gz.cells
      have HW := Lib.hid (gz.set 0 0 ⟨#[]⟩ 0)
      have HO := Lib.hid (fun (j : Nat) (hj : j ≠ xb) => gmb_sets (w := V9) (.int .i64 0) (.int .i64 0) (.string ⟨#[]⟩) (.int .i64 0) j hj)
      clear gz g0 g1 g2
      go_wp2_with fail
      refine bodyPost_ret (results_cellM Try.results29 _ _ xb 0 (gmC zG) _ rfl (gm_range HW.out) Try.underlying35 (by rfl) (by kernel_rfl)) rfl ?_
      rw [HZ.out.1, HZ.out.2.1, HZ.out.2.2]
      exact lg_end (lb := lb) HB1.out HB9.out HXL.out.1 HXL.out.2 HO.out ⟨by simp [World.setCell], rfl, rfl, rfl⟩ ⟨some ⟨r2, o2, none⟩, c2, r2, by rw [List.length_set, List.length_set]; rfl, rw_gs HROW9.out, Or.inr HR2.out⟩ (Or.inl HLT.out)
end Go.Proofs.Ytldbmdalmhhpfaa
