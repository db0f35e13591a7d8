/- Channel: the document's Do: delay. -/
import Derived.Test.YtldbmdalmhhpfaaCwW
namespace Go.Proofs.Ytldbmdalmhhpfaa
open Go.RowKit Go.Lib Go.Ow Go.Cw Go.Cq
set_option linter.unusedVariables false
set_option linter.unusedSimpArgs false
set_option maxRecDepth 100000

theorem cell_lt {w : World} {p : Addr} {v : Value} (h : w.cell? p = some v) : p.block < w.heap.size := by
  rcases Nat.lt_or_ge p.block w.heap.size with g | g
  · exact g
  · have : w.heap[p.block]? = none := by simp [g]
    simp [World.cell?, this] at h
set_option maxHeartbeats 16000000 in
theorem rDo_delay (i k : Int) (l : List Gm) (hgd : Cq.Good l) (lb : Nat) (la : Option Addr) (lc : Nat) (w : World) (h : Gs w lb l la) :
    Calls Try.prog 29 #[.slice la l.length lc, .agg #[.int .i64 (4), .int .i64 i, .int .i64 k]] w fun e w' => LG w lb (doL l (4) i k) (doG l (4) i k) (doE l (4) i k) e w' := by
  obtain ⟨W0, hW0⟩ : ∃ W0, W0 = w.alloc (.cells #[.int .i64 (4), .int .i64 i, .int .i64 k] 37) := ⟨_, rfl⟩
  obtain ⟨W1, hW1⟩ : ∃ W1, W1 = W0.alloc (.cells #[.int .i64 0, .int .i64 0, .string ⟨#[]⟩, .int .i64 0] 35) := ⟨_, rfl⟩
  have z0 : W0.heap.size = w.heap.size + 1 := by rw [hW0]; simp
  have z1 : W1.heap.size = w.heap.size + 2 := by rw [hW1]; simp [z0]
  have b0 : Below w.heap.size w W0 := by rw [hW0]; exact gAl _ _
  have b1 : Below W0.heap.size W0 W1 := by rw [hW1]; exact gAl _ _
  have r0 : W1.heap[w.heap.size]? = some (.cells #[.int .i64 (4), .int .i64 i, .int .i64 k] 37 (0, 0)) := (b1.block _ (by omega)).trans (by rw [hW0]; exact heap_alloc_new w _)
  have r1 : GmB W1 (w.heap.size + 1) zG := by rw [← z0, hW1]; exact heap_alloc_new W0 _
  have b01 := gNx b0 b1
  obtain ⟨bx, hbx⟩ : ∃ bx, bx = w.heap.size := ⟨_, rfl⟩
  obtain ⟨xb, hxb⟩ : ∃ xb, xb = w.heap.size + 1 := ⟨_, rfl⟩
  rw [← hbx] at r0
  rw [← hxb] at r1
  have HB1 := Lib.hid b01
  have HGS := Lib.hid (fun V (hV : Below w.heap.size w V) => h.below hV)
  have HXL : Hid (w.heap.size ≤ xb ∧ xb < W1.heap.size) := Lib.hid ⟨by omega, by omega⟩
  have HLB : Hid (lb < w.heap.size ∨ l = []) := Lib.hid (by
    rcases h with h | ⟨_, _, h, _⟩
    · exact Or.inr h
    · exact Or.inl h)
  have HC : Hid (∀ V, Below W1.heap.size W1 V → V.cell? ⟨bx, 0, none⟩ = some (.int .i64 (4)) ∧ V.cell? ⟨bx, 1, none⟩ = some (.int .i64 i) ∧ V.cell? ⟨bx, 2, none⟩ = some (.int .i64 k) ∧ GmB V xb zG) := Lib.hid (fun V hV => by
    obtain ⟨p0, p1, p2⟩ := three_cells ((hV.block bx (by omega)).trans r0)
    exact ⟨p0, p1, p2, (hV.block xb (by omega)).trans r1⟩)
  have HFEW : Hid (l.length ≤ 65536) := Lib.hid hgd.few
  have HCP := Lib.hid (rCopy_any l lb la lc W1 (h.below b01) (by have := hgd.few; omega))
  have HWS : Hid (W1 = (w.alloc (.cells #[.int .i64 (4), .int .i64 i, .int .i64 k] 37)).alloc (.cells #[.int .i64 0, .int .i64 0, .string ⟨#[]⟩, .int .i64 0] 35) ∧ w.heap.size = bx ∧ w.heap.size + 1 = xb) := Lib.hid ⟨by rw [hW1, hW0], hbx.symm, hxb.symm⟩
  have hgdK := Lib.hid hgd
  obtain ⟨q1, hq1⟩ : ∃ q, (decide ((0 : Int) ≤ i)) = q := ⟨_, rfl⟩
  obtain ⟨q2, hq2⟩ : ∃ q, (decide (i < (l.length : Int))) = q := ⟨_, rfl⟩
  clear h hgd b0 b1 b01 r0 r1 hW0 hW1 z0 z1 hbx hxb
  have hhb : hasB l i = (q1 && q2) := by unfold hasB; rw [hq1, hq2]
  cases q1 with
  | false =>
    have HZ : Hid (doE l 4 i k = 4 ∧ doL l 4 i k = l ∧ doG l 4 i k = zG) := Lib.hid (by
      have e : doE l 4 i k = 4 := by simp [doE, hhb]
      exact ⟨e, by unfold doL; rw [e, if_pos (by decide)], by simp [doG]⟩)
    clear hhb
    go_enter Try.func29, Try.ntmps29
    go_upto_region 1 with (fail)
    rw [← HWS.out.1, HWS.out.2.1]
    rw [← HWS.out.2.1, HWS.out.2.2, HWS.out.2.1]
    obtain ⟨g0, g1, g2, gz⟩ := HC.out W1 (Below.refl _ _)
    go_wp2_with fail
    refine HCP.out.mono ?_
    rintro e w2 ⟨hb2, v2, r2, rfl, hr2, hrow2⟩
    obtain ⟨a2, c2, rfl⟩ := hrow2.slice
    have HB2 := Lib.hid hb2
    have HROW2 := Lib.hid hrow2
    clear hb2 hr2 hrow2 g0 g1 g2 gz
    obtain ⟨g0, g1, g2, gz⟩ := HC.out w2 HB2.out
    obtain ⟨z0, z1, z2, z3, y0, y1, y2, y3⟩ := gz.cells
    have HW := Lib.hid (gz.set 0 0 ⟨#[]⟩ 0)
    have HO := Lib.hid (fun (j : Nat) (hj : j ≠ xb) => gmb_sets (w := w2) (.int .i64 0) (.int .i64 0) (.string ⟨#[]⟩) (.int .i64 0) j hj)
    clear gz
    go_wp2_with fail
    refine bodyPost_ret (results_cellM Try.results29 _ _ xb 0 (gmC zG) _ rfl (gm_range HW.out) Try.underlying35 (by rfl) (by kernel_rfl)) rfl ?_
    rw [HZ.out.1, HZ.out.2.1, HZ.out.2.2]
    exact lg_end (lb := lb) HB1.out HB2.out HXL.out.1 HXL.out.2 HO.out ⟨by simp [World.setCell], rfl, rfl, rfl⟩ ⟨la, lc, lb, rfl, HGS.out _ (gNx HB1.out HB2.out), Or.inl rfl⟩ HLB.out

  | true =>
    cases q2 with
    | false =>
      have HZ : Hid (doE l 4 i k = 4 ∧ doL l 4 i k = l ∧ doG l 4 i k = zG) := Lib.hid (by
        have e : doE l 4 i k = 4 := by simp [doE, hhb]
        exact ⟨e, by unfold doL; rw [e, if_pos (by decide)], by simp [doG]⟩)
      clear hhb
      go_enter Try.func29, Try.ntmps29
      go_upto_region 1 with (fail)
      rw [← HWS.out.1, HWS.out.2.1]
      rw [← HWS.out.2.1, HWS.out.2.2, HWS.out.2.1]
      obtain ⟨g0, g1, g2, gz⟩ := HC.out W1 (Below.refl _ _)
      go_wp2_with fail
      refine HCP.out.mono ?_
      rintro e w2 ⟨hb2, v2, r2, rfl, hr2, hrow2⟩
      obtain ⟨a2, c2, rfl⟩ := hrow2.slice
      have HB2 := Lib.hid hb2
      have HROW2 := Lib.hid hrow2
      clear hb2 hr2 hrow2 g0 g1 g2 gz
      obtain ⟨g0, g1, g2, gz⟩ := HC.out w2 HB2.out
      obtain ⟨z0, z1, z2, z3, y0, y1, y2, y3⟩ := gz.cells
      have HW := Lib.hid (gz.set 0 0 ⟨#[]⟩ 0)
      have HO := Lib.hid (fun (j : Nat) (hj : j ≠ xb) => gmb_sets (w := w2) (.int .i64 0) (.int .i64 0) (.string ⟨#[]⟩) (.int .i64 0) j hj)
      clear gz
      go_wp2_with fail
      refine bodyPost_ret (results_cellM Try.results29 _ _ xb 0 (gmC zG) _ rfl (gm_range HW.out) Try.underlying35 (by rfl) (by kernel_rfl)) rfl ?_
      rw [HZ.out.1, HZ.out.2.1, HZ.out.2.2]
      exact lg_end (lb := lb) HB1.out HB2.out HXL.out.1 HXL.out.2 HO.out ⟨by simp [World.setCell], rfl, rfl, rfl⟩ ⟨la, lc, lb, rfl, HGS.out _ (gNx HB1.out HB2.out), Or.inl rfl⟩ HLB.out

    | true =>
      have h0 : (0 : Int) ≤ i := by simpa using hq1
      have hil : i < (l.length : Int) := by simpa using hq2
      obtain ⟨n, rfl⟩ : ∃ n : Nat, i = (n : Int) := ⟨i.toNat, by omega⟩
      have hn : n < l.length := by omega
      have hn0 : (0 : Int) ≤ (n : Int) := by omega
      have hg := gat_nat l hn
      have hw := (mayB_iff.1 (hgdK.out.may _ (List.getElem_mem hn))).2.2.2.2
      have HLT : Hid (lb < w.heap.size) := Lib.hid (by
        rcases HLB.out with h | h
        · exact h
        · subst h; simp at hn)
      obtain ⟨ga, gb, gs, gt, hgm⟩ := gm_parts l[n]
      rw [hgm] at hw hg
      simp only at hw
      obtain ⟨o, rfl, hlow, hra⟩ := (HGS.out W1 HB1.out).at (by omega)
      obtain ⟨-, -, -, k3⟩ := gm_cells hra hn
      rw [hgm] at k3
      simp only at k3
      have HK3 : Hid (∀ V, Below W1.heap.size W1 V → V.cell? ⟨lb, o + n * 4 + 3, none⟩ = some (.int .i64 gt)) := Lib.hid (fun V hV => (World.cell?_of_block (a := ⟨lb, o + n * 4 + 3, none⟩) (hV.block lb hlow)).trans k3)
      have HN : Hid (∃ hn : n < l.length, l[n] = ⟨ga, gb, gs, gt⟩) := Lib.hid ⟨hn, hgm⟩
      have HW0 := Lib.hid hw
      clear hlow hra k3 hgm hn
      by_cases hk0 : k < 0
      · have HZ : Hid (doE l 4 (n : Int) k = 1 ∧ doL l 4 (n : Int) k = l ∧ doG l 4 (n : Int) k = zG) := Lib.hid (by
          have e : doE l 4 (n : Int) k = 1 := by simp only [doE, hhb, hg]; simp; omega
          exact ⟨e, by unfold doL; rw [e, if_pos (by decide)], by simp [doG]⟩)
        clear hhb hg hw h0
        go_enter Try.func29, Try.ntmps29
        go_upto_region 1 with (fail)
        rw [← HWS.out.1, HWS.out.2.1]
        rw [← HWS.out.2.1, HWS.out.2.2, HWS.out.2.1]
        obtain ⟨g0, g1, g2, gz⟩ := HC.out W1 (Below.refl _ _)
        go_wp2_with fail
        refine HCP.out.mono ?_
        rintro e w2 ⟨hb2, v2, r2, rfl, hr2, hrow2⟩
        obtain ⟨a2, c2, rfl⟩ := hrow2.slice
        have HB2 := Lib.hid hb2
        have HROW2 := Lib.hid hrow2
        have HR2 : Hid (W1.heap.size ≤ r2) := Lib.hid hr2
        clear hb2 hr2 hrow2 g0 g1 g2 gz
        obtain ⟨g0, g1, g2, gz⟩ := HC.out w2 HB2.out
        obtain ⟨hn, hgm⟩ := HN.out
        obtain ⟨o2, cap2, e2, hcap2, hlow2, hcur2, hra2, hth2, hml2⟩ := HROW2.out.at (by omega)
        simp only [Value.slice.injEq, true_and] at e2
        obtain ⟨rfl, rfl⟩ := e2
        obtain ⟨-, -, -, m3⟩ := gm_cells hra2 hn
        rw [hgm] at m3
        simp only at m3
        have HSS : Hid (∀ V, Below w2.heap.size w2 V → V.cell? ⟨bx, 1, none⟩ = some (.int .i64 (n : Int)) ∧ V.cell? ⟨bx, 2, none⟩ = some (.int .i64 k) ∧ V.cell? ⟨lb, o + n * 4 + 3, none⟩ = some (.int .i64 gt) ∧ V.cell? ⟨r2, o2 + n * 4 + 3, none⟩ = some (.int .i64 gt)) := Lib.hid (fun V hV => by
          obtain ⟨p0, p1, p2, -⟩ := HC.out V (gNx HB2.out hV)
          exact ⟨p1, p2, HK3.out V (gNx HB2.out hV), (World.cell?_of_block (a := ⟨r2, o2 + n * 4 + 3, none⟩) (hV.block r2 hlow2)).trans m3⟩)
        have HTH : Hid (w2.frozen? ⟨r2, o2 + n * 4 + 3, none⟩ = false ∧ r2 < w2.heap.size) := Lib.hid ⟨by rw [Nat.add_assoc]; exact (hth2 (n * 4 + 3) (by omega)).2, hlow2⟩
        clear m3 hgm hcap2 hlow2 hcur2 hra2 hth2 hml2 hn
        go_upto_region 27 with (fail)
        refine wp_region_held_drew (S := fun V => V.cell? ⟨bx, 1, none⟩ = some (.int .i64 (n : Int)) ∧ V.cell? ⟨bx, 2, none⟩ = some (.int .i64 k) ∧ V.cell? ⟨lb, o + n * 4 + 3, none⟩ = some (.int .i64 gt) ∧ V.cell? ⟨r2, o2 + n * 4 + 3, none⟩ = some (.int .i64 gt)) (by kernel_rfl) (HSS.out _ (Below.drew (Below.refl _ _))) (fun hH => ?_)
        have hs0 := HSS.out _ (Below.drew (Below.refl _ _))
        have HV0 : Hid (Below w2.heap.size w2 w2.drew) := Lib.hid (Below.drew (Below.refl _ _))
        generalize w2.drew = V0 at *
        refine tk 0 (by assumption) rfl (by kernel_rfl) (fun _ _ _ h => h) (fun V hV => by go_simp; try with_reducible rfl) ?_
        try simp only [Act.put, sqA, sqB, sqC, sqD, sqE, sqF]
        refine tk 1 (by assumption) rfl (by kernel_rfl) (fun _ _ _ h => h) (fun V hV => by obtain ⟨hx0, hx1, hx2, hx3⟩ := hV; go_simp; try with_reducible rfl) ?_
        try simp only [Act.put, sqA, sqB, sqC, sqD, sqE, sqF]
        refine tk 2 (by assumption) rfl (by kernel_rfl) (fun _ _ _ h => h) (fun V hV => by go_simp; try with_reducible rfl) ?_
        try simp only [Act.put, sqA, sqB, sqC, sqD, sqE, sqF]
        refine tk 3 (by assumption) rfl (by kernel_rfl) (fun _ _ _ h => h) (fun V hV => by go_simp; try with_reducible rfl) ?_
        try simp only [Act.put, sqA, sqB, sqC, sqD, sqE, sqF]
        refine wpAnyH_take (i := 4) (oi := _) (v := undef) rfl (by kernel_rfl) (by kernel_rfl) (by kernel_rfl) (fun _ _ _ h => h) (Or.inr ⟨by kernel_rfl, rfl⟩) (by assumption) ?_
        try simp only [Act.put, sqA, sqB, sqC, sqD, sqE, sqF]
        refine wpAnyH_take (i := 5) (oi := _) (v := undef) rfl (by kernel_rfl) (by kernel_rfl) (by kernel_rfl) (fun _ _ _ h => h) (Or.inr ⟨by kernel_rfl, rfl⟩) (by assumption) ?_
        try simp only [Act.put, sqA, sqB, sqC, sqD, sqE, sqF]
        refine wpAnyH_take (i := 6) (oi := _) (v := undef) rfl (by kernel_rfl) (by kernel_rfl) (by kernel_rfl) (fun _ _ _ h => h) (Or.inr ⟨by kernel_rfl, rfl⟩) (by assumption) ?_
        try simp only [Act.put, sqA, sqB, sqC, sqD, sqE, sqF]
        refine wpAnyH_take (i := 7) (oi := _) (v := undef) rfl (by kernel_rfl) (by kernel_rfl) (by kernel_rfl) (fun _ _ _ h => h) (Or.inr ⟨by kernel_rfl, rfl⟩) (by assumption) ?_
        try simp only [Act.put, sqA, sqB, sqC, sqD, sqE, sqF]
        refine wpAnyH_take (i := 8) (oi := _) (v := undef) rfl (by kernel_rfl) (by kernel_rfl) (by kernel_rfl) (fun _ _ _ h => h) (Or.inr ⟨by kernel_rfl, rfl⟩) (by assumption) ?_
        try simp only [Act.put, sqA, sqB, sqC, sqD, sqE, sqF]
        refine wpAnyH_take (i := 9) (oi := _) (v := undef) rfl (by kernel_rfl) (by kernel_rfl) (by kernel_rfl) (fun _ _ _ h => h) (Or.inr ⟨by kernel_rfl, rfl⟩) (by assumption) ?_
        try simp only [Act.put, sqA, sqB, sqC, sqD, sqE, sqF]
        refine wpAnyH_take (i := 10) (oi := _) (v := undef) rfl (by kernel_rfl) (by kernel_rfl) (by kernel_rfl) (fun _ _ _ h => h) (Or.inr ⟨by kernel_rfl, rfl⟩) (by assumption) ?_
        try simp only [Act.put, sqA, sqB, sqC, sqD, sqE, sqF]
        refine wpAnyH_take (i := 11) (oi := _) (v := undef) rfl (by kernel_rfl) (by kernel_rfl) (by kernel_rfl) (fun _ _ _ h => h) (Or.inr ⟨by kernel_rfl, rfl⟩) (by assumption) ?_
        try simp only [Act.put, sqA, sqB, sqC, sqD, sqE, sqF]
        refine wpAnyH_take (i := 12) (oi := _) (v := undef) rfl (by kernel_rfl) (by kernel_rfl) (by kernel_rfl) (fun _ _ _ h => h) (Or.inr ⟨by kernel_rfl, rfl⟩) (by assumption) ?_
        try simp only [Act.put, sqA, sqB, sqC, sqD, sqE, sqF]
        refine wpAnyH_take (i := 13) (oi := _) (v := undef) rfl (by kernel_rfl) (by kernel_rfl) (by kernel_rfl) (fun _ _ _ h => h) (Or.inr ⟨by kernel_rfl, rfl⟩) (by assumption) ?_
        try simp only [Act.put, sqA, sqB, sqC, sqD, sqE, sqF]
        refine tk 14 (by assumption) rfl (by kernel_rfl) (fun _ _ _ h => h) (fun V hV => by go_simp; try with_reducible rfl) ?_
        try simp only [Act.put, sqA, sqB, sqC, sqD, sqE, sqF]
        refine wpAnyH_done (by kernel_rfl) ?_ _
        clear hs0 hH
        obtain ⟨g0, g1, g2, gz⟩ := HC.out V0 (gNx HB2.out HV0.out)
        obtain ⟨z0, z1, z2, z3, y0, y1, y2, y3⟩ := gz.cells
        have HW := Lib.hid (gz.set 0 0 ⟨#[]⟩ 0)
        have HO := Lib.hid (fun (j : Nat) (hj : j ≠ xb) => gmb_sets (w := V0) (.int .i64 0) (.int .i64 0) (.string ⟨#[]⟩) (.int .i64 0) j hj)
        clear gz g0 g1 g2
        go_wp2_with fail
        refine bodyPost_ret (results_cellM Try.results29 _ _ xb 0 (gmC zG) _ rfl (gm_range HW.out) Try.underlying35 (by rfl) (by kernel_rfl)) rfl ?_
        rw [HZ.out.1, HZ.out.2.1, HZ.out.2.2]
        exact lg_end (lb := lb) HB1.out (gNx HB2.out HV0.out) HXL.out.1 HXL.out.2 HO.out ⟨by simp [World.setCell], rfl, rfl, rfl⟩ ⟨some ⟨lb, o, none⟩, lc, lb, rfl, HGS.out _ (gNx HB1.out (gNx HB2.out HV0.out)), Or.inl rfl⟩ (Or.inl HLT.out)

      by_cases hk1 : 65536 - gt < k
      · have hkb : decide (k < 0) = false := by simpa using hk0
        have hkc : (k < 0) = False := by simp; omega
        have hsw : IntKind.i64.wrap (65536 - gt) = 65536 - gt := by rw [IntKind.wrap_i64]; omega
        have HZ : Hid (doE l 4 (n : Int) k = 1 ∧ doL l 4 (n : Int) k = l ∧ doG l 4 (n : Int) k = zG) := Lib.hid (by
          have e : doE l 4 (n : Int) k = 1 := by simp only [doE, hhb, hg]; simp; omega
          exact ⟨e, by unfold doL; rw [e, if_pos (by decide)], by simp [doG]⟩)
        clear hhb hg hw h0 hk0
        go_enter Try.func29, Try.ntmps29
        go_upto_region 1 with (fail)
        rw [← HWS.out.1, HWS.out.2.1]
        rw [← HWS.out.2.1, HWS.out.2.2, HWS.out.2.1]
        obtain ⟨g0, g1, g2, gz⟩ := HC.out W1 (Below.refl _ _)
        go_wp2_with fail
        refine HCP.out.mono ?_
        rintro e w2 ⟨hb2, v2, r2, rfl, hr2, hrow2⟩
        obtain ⟨a2, c2, rfl⟩ := hrow2.slice
        have HB2 := Lib.hid hb2
        have HROW2 := Lib.hid hrow2
        have HR2 : Hid (W1.heap.size ≤ r2) := Lib.hid hr2
        clear hb2 hr2 hrow2 g0 g1 g2 gz
        obtain ⟨g0, g1, g2, gz⟩ := HC.out w2 HB2.out
        obtain ⟨hn, hgm⟩ := HN.out
        obtain ⟨o2, cap2, e2, hcap2, hlow2, hcur2, hra2, hth2, hml2⟩ := HROW2.out.at (by omega)
        simp only [Value.slice.injEq, true_and] at e2
        obtain ⟨rfl, rfl⟩ := e2
        obtain ⟨-, -, -, m3⟩ := gm_cells hra2 hn
        rw [hgm] at m3
        simp only at m3
        have HSS : Hid (∀ V, Below w2.heap.size w2 V → V.cell? ⟨bx, 1, none⟩ = some (.int .i64 (n : Int)) ∧ V.cell? ⟨bx, 2, none⟩ = some (.int .i64 k) ∧ V.cell? ⟨lb, o + n * 4 + 3, none⟩ = some (.int .i64 gt) ∧ V.cell? ⟨r2, o2 + n * 4 + 3, none⟩ = some (.int .i64 gt)) := Lib.hid (fun V hV => by
          obtain ⟨p0, p1, p2, -⟩ := HC.out V (gNx HB2.out hV)
          exact ⟨p1, p2, HK3.out V (gNx HB2.out hV), (World.cell?_of_block (a := ⟨r2, o2 + n * 4 + 3, none⟩) (hV.block r2 hlow2)).trans m3⟩)
        have HTH : Hid (w2.frozen? ⟨r2, o2 + n * 4 + 3, none⟩ = false ∧ r2 < w2.heap.size) := Lib.hid ⟨by rw [Nat.add_assoc]; exact (hth2 (n * 4 + 3) (by omega)).2, hlow2⟩
        clear m3 hgm hcap2 hlow2 hcur2 hra2 hth2 hml2 hn
        go_upto_region 27 with (fail)
        refine wp_region_held_drew (S := fun V => V.cell? ⟨bx, 1, none⟩ = some (.int .i64 (n : Int)) ∧ V.cell? ⟨bx, 2, none⟩ = some (.int .i64 k) ∧ V.cell? ⟨lb, o + n * 4 + 3, none⟩ = some (.int .i64 gt) ∧ V.cell? ⟨r2, o2 + n * 4 + 3, none⟩ = some (.int .i64 gt)) (by kernel_rfl) (HSS.out _ (Below.drew (Below.refl _ _))) (fun hH => ?_)
        have hs0 := HSS.out _ (Below.drew (Below.refl _ _))
        have HV0 : Hid (Below w2.heap.size w2 w2.drew) := Lib.hid (Below.drew (Below.refl _ _))
        generalize w2.drew = V0 at *
        refine tk 0 (by assumption) rfl (by kernel_rfl) (fun _ _ _ h => h) (fun V hV => by go_simp; try with_reducible rfl) ?_
        try simp only [Act.put, sqA, sqB, sqC, sqD, sqE, sqF]
        refine tk 1 (by assumption) rfl (by kernel_rfl) (fun _ _ _ h => h) (fun V hV => by obtain ⟨hx0, hx1, hx2, hx3⟩ := hV; go_simp; try with_reducible rfl) ?_
        try simp only [Act.put, sqA, sqB, sqC, sqD, sqE, sqF]
        refine tk 2 (by assumption) rfl (by kernel_rfl) (fun _ _ _ h => h) (fun V hV => by go_simp; try with_reducible rfl) ?_
        try simp only [Act.put, sqA, sqB, sqC, sqD, sqE, sqF]
        refine tk 3 (by assumption) rfl (by kernel_rfl) (fun _ _ _ h => h) (fun V hV => by go_simp; try with_reducible rfl) ?_
        try simp only [Act.put, sqA, sqB, sqC, sqD, sqE, sqF]
        refine tk 4 (by assumption) rfl (by kernel_rfl) (fun _ _ _ h => h) (fun V hV => by go_simp; try with_reducible rfl) ?_
        try simp only [Act.put, sqA, sqB, sqC, sqD, sqE, sqF]
        refine tk 5 (by assumption) rfl (by kernel_rfl) (fun _ _ _ h => h) (fun V hV => by obtain ⟨hx0, hx1, hx2, hx3⟩ := hV; go_simp; try with_reducible rfl) ?_
        try simp only [Act.put, sqA, sqB, sqC, sqD, sqE, sqF]
        refine tk 6 (by assumption) rfl (by kernel_rfl) (fun _ _ _ h => h) (fun V hV => by go_simp; try with_reducible rfl) ?_
        try simp only [Act.put, sqA, sqB, sqC, sqD, sqE, sqF]
        refine tk 7 (by assumption) rfl (by kernel_rfl) (fun _ _ _ h => h) (fun V hV => by go_simp; try with_reducible rfl) ?_
        try simp only [Act.put, sqA, sqB, sqC, sqD, sqE, sqF]
        refine tk 8 (by assumption) rfl (by kernel_rfl) (fun _ _ _ h => h) (fun V hV => by obtain ⟨hx0, hx1, hx2, hx3⟩ := hV; go_simp; try with_reducible rfl) ?_
        try simp only [Act.put, sqA, sqB, sqC, sqD, sqE, sqF]
        refine tk 9 (by assumption) rfl (by kernel_rfl) (fun _ _ _ h => h) (fun V hV => by go_simp; try with_reducible rfl) ?_
        try simp only [Act.put, sqA, sqB, sqC, sqD, sqE, sqF]
        refine tk 10 (by assumption) rfl (by kernel_rfl) (fun _ _ _ h => h) (fun V hV => by go_simp; try with_reducible rfl) ?_
        try simp only [Act.put, sqA, sqB, sqC, sqD, sqE, sqF]
        refine tk 11 (by assumption) rfl (by kernel_rfl) (fun _ _ _ h => h) (fun V hV => by obtain ⟨hx0, hx1, hx2, hx3⟩ := hV; go_simp; try with_reducible rfl) ?_
        try simp only [Act.put, sqA, sqB, sqC, sqD, sqE, sqF]
        refine tk 12 (by assumption) rfl (by kernel_rfl) (fun _ _ _ h => h) (fun V hV => by go_simp; try with_reducible rfl) ?_
        try simp only [Act.put, sqA, sqB, sqC, sqD, sqE, sqF]
        refine tk 13 (by assumption) rfl (by kernel_rfl) (fun _ _ _ h => h) (fun V hV => by go_simp; try with_reducible rfl) ?_
        try simp only [Act.put, sqA, sqB, sqC, sqD, sqE, sqF]
        refine tk 14 (by assumption) rfl (by kernel_rfl) (fun _ _ _ h => h) (fun V hV => by go_simp; try with_reducible rfl) ?_
        try simp only [Act.put, sqA, sqB, sqC, sqD, sqE, sqF]
        refine wpAnyH_done (by kernel_rfl) ?_ _
        clear hs0 hH
        obtain ⟨g0, g1, g2, gz⟩ := HC.out V0 (gNx HB2.out HV0.out)
        obtain ⟨z0, z1, z2, z3, y0, y1, y2, y3⟩ := gz.cells
        have HW := Lib.hid (gz.set 0 0 ⟨#[]⟩ 0)
        have HO := Lib.hid (fun (j : Nat) (hj : j ≠ xb) => gmb_sets (w := V0) (.int .i64 0) (.int .i64 0) (.string ⟨#[]⟩) (.int .i64 0) j hj)
        clear gz g0 g1 g2
        go_wp2_with fail
        refine bodyPost_ret (results_cellM Try.results29 _ _ xb 0 (gmC zG) _ rfl (gm_range HW.out) Try.underlying35 (by rfl) (by kernel_rfl)) rfl ?_
        rw [HZ.out.1, HZ.out.2.1, HZ.out.2.2]
        exact lg_end (lb := lb) HB1.out (gNx HB2.out HV0.out) HXL.out.1 HXL.out.2 HO.out ⟨by simp [World.setCell], rfl, rfl, rfl⟩ ⟨some ⟨lb, o, none⟩, lc, lb, rfl, HGS.out _ (gNx HB1.out (gNx HB2.out HV0.out)), Or.inl rfl⟩ (Or.inl HLT.out)

      · have hkb : decide (k < 0) = false := by simpa using hk0
        have hkc : (k < 0) = False := by simp; omega
        have hsw : IntKind.i64.wrap (65536 - gt) = 65536 - gt := by rw [IntKind.wrap_i64]; omega
        have hsx : IntKind.i64.wrap (gt + k) = gt + k := by rw [IntKind.wrap_i64]; omega
        have hkd : decide (65536 - gt < k) = false := by simpa using hk1
        have HZ : Hid (doE l 4 (n : Int) k = 0 ∧ doL l 4 (n : Int) k = l.set n ⟨ga, gb, gs, gt + k⟩ ∧ doG l 4 (n : Int) k = zG) := Lib.hid (by
          have e : doE l 4 (n : Int) k = 0 := by simp only [doE, hhb, hg]; simp; omega
          refine ⟨e, ?_, by simp [doG]⟩
          unfold doL
          rw [e, hg]
          simp)
        clear hhb hg hw h0 hk0 hk1
        go_enter Try.func29, Try.ntmps29
        go_upto_region 1 with (fail)
        rw [← HWS.out.1, HWS.out.2.1]
        rw [← HWS.out.2.1, HWS.out.2.2, HWS.out.2.1]
        obtain ⟨g0, g1, g2, gz⟩ := HC.out W1 (Below.refl _ _)
        go_wp2_with fail
        refine HCP.out.mono ?_
        rintro e w2 ⟨hb2, v2, r2, rfl, hr2, hrow2⟩
        obtain ⟨a2, c2, rfl⟩ := hrow2.slice
        have HB2 := Lib.hid hb2
        have HROW2 := Lib.hid hrow2
        have HR2 : Hid (W1.heap.size ≤ r2) := Lib.hid hr2
        clear hb2 hr2 hrow2 g0 g1 g2 gz
        obtain ⟨g0, g1, g2, gz⟩ := HC.out w2 HB2.out
        obtain ⟨hn, hgm⟩ := HN.out
        obtain ⟨o2, cap2, e2, hcap2, hlow2, hcur2, hra2, hth2, hml2⟩ := HROW2.out.at (by omega)
        simp only [Value.slice.injEq, true_and] at e2
        obtain ⟨rfl, rfl⟩ := e2
        obtain ⟨-, -, -, m3⟩ := gm_cells hra2 hn
        rw [hgm] at m3
        simp only at m3
        have HSS : Hid (∀ V, Below w2.heap.size w2 V → V.cell? ⟨bx, 1, none⟩ = some (.int .i64 (n : Int)) ∧ V.cell? ⟨bx, 2, none⟩ = some (.int .i64 k) ∧ V.cell? ⟨lb, o + n * 4 + 3, none⟩ = some (.int .i64 gt) ∧ V.cell? ⟨r2, o2 + n * 4 + 3, none⟩ = some (.int .i64 gt)) := Lib.hid (fun V hV => by
          obtain ⟨p0, p1, p2, -⟩ := HC.out V (gNx HB2.out hV)
          exact ⟨p1, p2, HK3.out V (gNx HB2.out hV), (World.cell?_of_block (a := ⟨r2, o2 + n * 4 + 3, none⟩) (hV.block r2 hlow2)).trans m3⟩)
        have HTH : Hid (w2.frozen? ⟨r2, o2 + n * 4 + 3, none⟩ = false ∧ r2 < w2.heap.size) := Lib.hid ⟨by rw [Nat.add_assoc]; exact (hth2 (n * 4 + 3) (by omega)).2, hlow2⟩
        clear m3 hgm hcap2 hlow2 hcur2 hra2 hth2 hml2 hn
        go_upto_region 27 with (fail)
        refine wp_region_held_drew (S := fun V => V.cell? ⟨bx, 1, none⟩ = some (.int .i64 (n : Int)) ∧ V.cell? ⟨bx, 2, none⟩ = some (.int .i64 k) ∧ V.cell? ⟨lb, o + n * 4 + 3, none⟩ = some (.int .i64 gt) ∧ V.cell? ⟨r2, o2 + n * 4 + 3, none⟩ = some (.int .i64 gt)) (by kernel_rfl) (HSS.out _ (Below.drew (Below.refl _ _))) (fun hH => ?_)
        have hs0 := HSS.out _ (Below.drew (Below.refl _ _))
        have HV0 : Hid (Below w2.heap.size w2 w2.drew) := Lib.hid (Below.drew (Below.refl _ _))
        generalize w2.drew = V0 at *
        refine tk 0 (by assumption) rfl (by kernel_rfl) (fun _ _ _ h => h) (fun V hV => by go_simp; try with_reducible rfl) ?_
        try simp only [Act.put, sqA, sqB, sqC, sqD, sqE, sqF]
        refine tk 1 (by assumption) rfl (by kernel_rfl) (fun _ _ _ h => h) (fun V hV => by obtain ⟨hx0, hx1, hx2, hx3⟩ := hV; go_simp; try with_reducible rfl) ?_
        try simp only [Act.put, sqA, sqB, sqC, sqD, sqE, sqF]
        refine tk 2 (by assumption) rfl (by kernel_rfl) (fun _ _ _ h => h) (fun V hV => by go_simp; try with_reducible rfl) ?_
        try simp only [Act.put, sqA, sqB, sqC, sqD, sqE, sqF]
        refine tk 3 (by assumption) rfl (by kernel_rfl) (fun _ _ _ h => h) (fun V hV => by go_simp; try with_reducible rfl) ?_
        try simp only [Act.put, sqA, sqB, sqC, sqD, sqE, sqF]
        refine tk 4 (by assumption) rfl (by kernel_rfl) (fun _ _ _ h => h) (fun V hV => by go_simp; try with_reducible rfl) ?_
        try simp only [Act.put, sqA, sqB, sqC, sqD, sqE, sqF]
        refine tk 5 (by assumption) rfl (by kernel_rfl) (fun _ _ _ h => h) (fun V hV => by obtain ⟨hx0, hx1, hx2, hx3⟩ := hV; go_simp; try with_reducible rfl) ?_
        try simp only [Act.put, sqA, sqB, sqC, sqD, sqE, sqF]
        refine tk 6 (by assumption) rfl (by kernel_rfl) (fun _ _ _ h => h) (fun V hV => by go_simp; try with_reducible rfl) ?_
        try simp only [Act.put, sqA, sqB, sqC, sqD, sqE, sqF]
        refine tk 7 (by assumption) rfl (by kernel_rfl) (fun _ _ _ h => h) (fun V hV => by go_simp; try with_reducible rfl) ?_
        try simp only [Act.put, sqA, sqB, sqC, sqD, sqE, sqF]
        refine tk 8 (by assumption) rfl (by kernel_rfl) (fun _ _ _ h => h) (fun V hV => by obtain ⟨hx0, hx1, hx2, hx3⟩ := hV; go_simp; try with_reducible rfl) ?_
        try simp only [Act.put, sqA, sqB, sqC, sqD, sqE, sqF]
        refine tk 9 (by assumption) rfl (by kernel_rfl) (fun _ _ _ h => h) (fun V hV => by go_simp; try with_reducible rfl) ?_
        try simp only [Act.put, sqA, sqB, sqC, sqD, sqE, sqF]
        refine tk 10 (by assumption) rfl (by kernel_rfl) (fun _ _ _ h => h) (fun V hV => by go_simp; try with_reducible rfl) ?_
        try simp only [Act.put, sqA, sqB, sqC, sqD, sqE, sqF]
        refine tk 11 (by assumption) rfl (by kernel_rfl) (fun _ _ _ h => h) (fun V hV => by obtain ⟨hx0, hx1, hx2, hx3⟩ := hV; go_simp; try with_reducible rfl) ?_
        try simp only [Act.put, sqA, sqB, sqC, sqD, sqE, sqF]
        refine tk 12 (by assumption) rfl (by kernel_rfl) (fun _ _ _ h => h) (fun V hV => by go_simp; try with_reducible rfl) ?_
        try simp only [Act.put, sqA, sqB, sqC, sqD, sqE, sqF]
        refine tk 13 (by assumption) rfl (by kernel_rfl) (fun _ _ _ h => h) (fun V hV => by go_simp; try with_reducible rfl) ?_
        try simp only [Act.put, sqA, sqB, sqC, sqD, sqE, sqF]
        refine tk 14 (by assumption) rfl (by kernel_rfl) (fun _ _ _ h => h) (fun V hV => by go_simp; try with_reducible rfl) ?_
        try simp only [Act.put, sqA, sqB, sqC, sqD, sqE, sqF]
        refine wpAnyH_done (by kernel_rfl) ?_ _
        clear hs0 hH
        go_upto_region 29 with (fail)
        refine wp_region_held_drew (S := fun V => V.cell? ⟨bx, 1, none⟩ = some (.int .i64 (n : Int)) ∧ V.cell? ⟨bx, 2, none⟩ = some (.int .i64 k)) (by kernel_rfl) ⟨(HSS.out V0.drew HV0.out.drew).1, (HSS.out V0.drew HV0.out.drew).2.1⟩ (fun hH => ?_)
        clear hH
        have HV1 : Hid (Below w2.heap.size w2 V0.drew) := Lib.hid HV0.out.drew
        generalize V0.drew = V1 at *
        have hs1 : V1.cell? ⟨bx, 1, none⟩ = some (.int .i64 (n : Int)) ∧ V1.cell? ⟨bx, 2, none⟩ = some (.int .i64 k) := ⟨(HSS.out V1 HV1.out).1, (HSS.out V1 HV1.out).2.1⟩
        have hc8 := (HSS.out V1 HV1.out).2.2.2
        have hf8 : V1.frozen? ⟨r2, o2 + n * 4 + 3, none⟩ = false := (HV1.out.frozen (p := ⟨r2, o2 + n * 4 + 3, none⟩) HTH.out.2).trans HTH.out.1
        have hbx : bx ≠ r2 := by have := cell_lt (HC.out W1 (Below.refl _ _)).1; have := HR2.out; simp only at *; omega
        refine tk 0 (by assumption) rfl (by kernel_rfl) (fun _ _ _ h => h) (fun V hV => by go_simp; try with_reducible rfl) ?_
        try simp only [Act.put, sqA, sqB, sqC, sqD, sqE, sqF]
        refine tk 1 (by assumption) rfl (by kernel_rfl) (fun _ _ _ h => h) (fun V hV => by go_simp; try with_reducible rfl) ?_
        try simp only [Act.put, sqA, sqB, sqC, sqD, sqE, sqF]
        refine tk 2 (by assumption) rfl (by kernel_rfl) (fun _ _ _ h => h) (fun V hV => by obtain ⟨hx0, hx1⟩ := hV; go_simp; try with_reducible rfl) ?_
        try simp only [Act.put, sqA, sqB, sqC, sqD, sqE, sqF]
        refine tk 3 (by assumption) rfl (by kernel_rfl) (fun _ _ _ h => h) (fun V hV => by go_simp; try with_reducible rfl) ?_
        try simp only [Act.put, sqA, sqB, sqC, sqD, sqE, sqF]
        refine tk 4 (by assumption) rfl (by kernel_rfl) (fun _ _ _ h => h) (fun V hV => by go_simp; try with_reducible rfl) ?_
        try simp only [Act.put, sqA, sqB, sqC, sqD, sqE, sqF]
        refine tk 5 (by assumption) rfl (by kernel_rfl) (fun _ _ _ h => h) (fun V hV => by obtain ⟨hx0, hx1⟩ := hV; go_simp; try with_reducible rfl) ?_
        try simp only [Act.put, sqA, sqB, sqC, sqD, sqE, sqF]
        refine tk 6 (by assumption) rfl (by kernel_rfl) (fun _ _ _ h => h) (fun V hV => by go_simp; try with_reducible rfl) ?_
        try simp only [Act.put, sqA, sqB, sqC, sqD, sqE, sqF]
        refine tk 7 (by assumption) rfl (by kernel_rfl) (fun _ _ _ h => h) (fun V hV => by go_simp; try with_reducible rfl) ?_
        try simp only [Act.put, sqA, sqB, sqC, sqD, sqE, sqF]
        refine tk 9 (by assumption) rfl (by kernel_rfl) (fun _ _ _ h => h) (fun V hV => by go_simp; try with_reducible rfl) ?_
        try simp only [Act.put, sqA, sqB, sqC, sqD, sqE, sqF]
        refine tk 10 (by assumption) rfl (by kernel_rfl) (fun _ _ _ h => h) (fun V hV => by obtain ⟨hx0, hx1⟩ := hV; go_simp; try with_reducible rfl) ?_
        try simp only [Act.put, sqA, sqB, sqC, sqD, sqE, sqF]
        refine wpAnyH_ready (rs := [8]) (by kernel_rfl) (by simp) ?_
        refine AllReadyH.cons (o := _) rfl (fun K hK => ?_) AllReadyH.nil
        go_simp
        refine hK.out _ _ hs1 (fun hH => ?_)
        clear hK K hH
        try simp only [Act.put, sqA, sqB, sqC, sqD, sqE, sqF]
        refine tk 11 (by assumption) rfl (by kernel_rfl) (fun _ _ _ h => h) (fun V hV => by go_simp; try with_reducible rfl) ?_
        try simp only [Act.put, sqA, sqB, sqC, sqD, sqE, sqF]
        refine tk 12 (by assumption) rfl (by kernel_rfl) (fun _ _ _ h => h) (fun V hV => by go_simp; try with_reducible rfl) ?_
        try simp only [Act.put, sqA, sqB, sqC, sqD, sqE, sqF]
        refine tk 13 (by assumption) rfl (by kernel_rfl) (fun _ _ _ h => h) (fun V hV => by go_simp; try with_reducible rfl) ?_
        try simp only [Act.put, sqA, sqB, sqC, sqD, sqE, sqF]
        refine wpAnyH_ready (rs := [14]) (by kernel_rfl) (by simp) ?_
        refine AllReadyH.cons (o := _) rfl (fun K hK => ?_) AllReadyH.nil
        go_simp
        have hs2 : (V1.setCell ⟨r2, o2 + n * 4 + 3, none⟩ (.int .i64 (gt + k))).cell? ⟨bx, 1, none⟩ = some (.int .i64 (n : Int)) ∧ (V1.setCell ⟨r2, o2 + n * 4 + 3, none⟩ (.int .i64 (gt + k))).cell? ⟨bx, 2, none⟩ = some (.int .i64 k) := ⟨by simp [go_sem, hs1.1, hbx], by simp [go_sem, hs1.2, hbx]⟩
        refine hK.out _ _ hs2 (fun hH => ?_)
        clear hK K hH
        try simp only [Act.put, sqA, sqB, sqC, sqD, sqE, sqF]
        refine wpAnyH_done (by kernel_rfl) ?_ _
        obtain ⟨V9, hV9⟩ : ∃ V9, V9 = V1.setCell ⟨r2, o2 + n * 4 + 3, none⟩ (.int .i64 (gt + k)) := ⟨_, rfl⟩
        rw [← hV9]
        have HROW9 : Hid (Rw V9 r2 35 4 (.slice (some ⟨r2, o2, none⟩) (l.set n ⟨ga, gb, gs, gt + k⟩).length c2) (l.set n ⟨ga, gb, gs, gt + k⟩).length (gmRow (l.set n ⟨ga, gb, gs, gt + k⟩))) := Lib.hid (by
          obtain ⟨hn, hgm⟩ := HN.out
          have h1 := (HROW2.out.below HV1.out).set (by omega) (n * 4 + 3) (.int .i64 (gt + k)) (by omega)
          have h2 := row_wait l n hn (gt + k)
          rw [hgm] at h2
          rw [List.length_set, h2, hV9, Nat.add_assoc]
          exact h1)
        have HB9 : Hid (Below W1.heap.size W1 V9) := Lib.hid (by rw [hV9]; exact (gNx HB2.out HV1.out).setCell HR2.out _)
        clear hs1 hs2 hc8 hf8 hbx hV9
        obtain ⟨g0, g1, g2, gz⟩ := HC.out V9 HB9.out
        obtain ⟨z0, z1, z2, z3, y0, y1, y2, y3⟩ := gz.cells
        have HW := Lib.hid (gz.set 0 0 ⟨#[]⟩ 0)
        have HO := Lib.hid (fun (j : Nat) (hj : j ≠ xb) => gmb_sets (w := V9) (.int .i64 0) (.int .i64 0) (.string ⟨#[]⟩) (.int .i64 0) j hj)
        clear gz g0 g1 g2
        go_wp2_with fail
        refine bodyPost_ret (results_cellM Try.results29 _ _ xb 0 (gmC zG) _ rfl (gm_range HW.out) Try.underlying35 (by rfl) (by kernel_rfl)) rfl ?_
        rw [HZ.out.1, HZ.out.2.1, HZ.out.2.2]
        exact lg_end (lb := lb) HB1.out HB9.out HXL.out.1 HXL.out.2 HO.out ⟨by simp [World.setCell], rfl, rfl, rfl⟩ ⟨some ⟨r2, o2, none⟩, c2, r2, by rw [List.length_set]; rfl, rw_gs HROW9.out, Or.inr HR2.out⟩ (Or.inl HLT.out)

end Go.Proofs.Ytldbmdalmhhpfaa
