/- Channel: the document's Put, Take. -/
import Derived.Test.YtldbmdalmhhpfaaCwS
namespace Go.Proofs.Ytldbmdalmhhpfaa
open Go.RowKit Go.Lib Go.Ow Go.Cw Go.Cq
set_option linter.unusedVariables false
set_option linter.unusedSimpArgs false
set_option maxRecDepth 100000

/-- A list and a number are told. -/
def LE (w : World) (lb : Nat) (l : List Gm) (E : Int) (e : Ending) (w' : World) : Prop := Below w.heap.size w w' ∧ ∃ a c b, e = .returned (.tuple #[.slice a l.length c, .int .i64 E]) ∧ Gs w' b l a ∧ (b = lb ∨ w.heap.size ≤ b)
set_option maxHeartbeats 8000000 in
theorem rPut_any (a b : Int) (s : ByteArray) (t : Int) (l : List Gm) (hgd : Cq.Good l) (lb : Nat) (la : Option Addr) (lc : Nat) (w : World) (h : Gs w lb l la) :
    Calls Try.prog 27 #[.slice la l.length lc, .agg #[.int .i64 a, .int .i64 b, .string s, .int .i64 t]] w fun e w' => LE w lb (putL l ⟨a, b, s, t⟩) (putE l ⟨a, b, s, t⟩) e w' := by
  obtain ⟨W0, hW0⟩ : ∃ W0, W0 = w.alloc (.cells #[.int .i64 a, .int .i64 b, .string s, .int .i64 t] 35) := ⟨_, rfl⟩
  have b0 : Below w.heap.size w W0 := by rw [hW0]; exact gAl _ _
  have r0 : W0.heap[w.heap.size]? = some (.cells #[.int .i64 a, .int .i64 b, .string s, .int .i64 t] 35 (0, 0)) := by rw [hW0]; exact heap_alloc_new w _
  obtain ⟨bx, hbx⟩ : ∃ bx, bx = w.heap.size := ⟨_, rfl⟩
  have s0 : bx < W0.heap.size := by rw [hW0, hbx]; simp
  rw [← hbx] at r0
  have HM := Lib.hid (rMay_any a b s t W0)
  have HB0 := Lib.hid b0
  have HGS := Lib.hid (fun V (hV : Below w.heap.size w V) => h.below hV)
  have HS0 : Hid (∀ V, Below W0.heap.size W0 V → V.cell? ⟨bx, 0, none⟩ = some (.int .i64 a) ∧ V.cell? ⟨bx, 1, none⟩ = some (.int .i64 b) ∧ V.cell? ⟨bx, 2, none⟩ = some (.string s) ∧ V.cell? ⟨bx, 3, none⟩ = some (.int .i64 t)) := Lib.hid (fun V hV => four_cells ((hV.block bx s0).trans r0))
  have HWS : Hid (W0 = w.alloc (.cells #[.int .i64 a, .int .i64 b, .string s, .int .i64 t] 35) ∧ w.heap.size = bx) := Lib.hid ⟨hW0, hbx.symm⟩
  have HGD := Lib.hid hgd
  obtain ⟨g0, g1, g2, g3⟩ := HS0.out W0 (Below.refl _ _)
  clear h b0 r0 s0 hW0 hbx hgd
  by_cases hm : mayB ⟨a, b, s, t⟩ = true
  case neg =>
    have HZ : Hid (putE l ⟨a, b, s, t⟩ = 1 ∧ putL l ⟨a, b, s, t⟩ = l) := Lib.hid (by
      have e : putE l ⟨a, b, s, t⟩ = 1 := by unfold putE; rw [if_neg hm]
      exact ⟨e, by unfold putL; rw [e, if_neg (by decide)]⟩)
    have hmf : mayB ⟨a, b, s, t⟩ = false := by simpa using hm
    rw [hmf] at HM
    clear hm hmf
    go_enter Try.func27, Try.ntmps27
    go_upto_region 1 with (fail)
    rw [← HWS.out.1, HWS.out.2]
    go_wp2_with fail
    refine HM.out.mono ?_
    rintro e w2 ⟨rfl, hb2⟩
    have HB2 := Lib.hid (gNx HB0.out hb2)
    clear hb2
    go_wp2_with fail
    refine bodyPost_ret (v := .tuple #[.slice la l.length lc, .int .i64 1]) (by simp [results, Try.results27, go_sem]) rfl ?_
    exact ⟨HB2.out, la, lc, lb, by rw [HZ.out.1, HZ.out.2], by rw [HZ.out.2]; exact HGS.out _ HB2.out, Or.inl rfl⟩
  by_cases hl : 65536 ≤ l.length
  · have hli : (65536 : Int) ≤ (l.length : Int) := by omega
    have HZ : Hid (putE l ⟨a, b, s, t⟩ = 2 ∧ putL l ⟨a, b, s, t⟩ = l) := Lib.hid (by
      have e : putE l ⟨a, b, s, t⟩ = 2 := by unfold putE; rw [if_pos hm, if_pos hl]
      exact ⟨e, by unfold putL; rw [e, if_neg (by decide)]⟩)
    rw [hm] at HM
    clear hm hl
    go_enter Try.func27, Try.ntmps27
    go_upto_region 1 with (fail)
    rw [← HWS.out.1, HWS.out.2]
    go_wp2_with fail
    refine HM.out.mono ?_
    rintro e w2 ⟨rfl, hb2⟩
    have HB2 := Lib.hid (gNx HB0.out hb2)
    clear hb2
    go_wp2_with fail
    refine bodyPost_ret (v := .tuple #[.slice la l.length lc, .int .i64 2]) (by simp [results, Try.results27, go_sem]) rfl ?_
    exact ⟨HB2.out, la, lc, lb, by rw [HZ.out.1, HZ.out.2], by rw [HZ.out.2]; exact HGS.out _ HB2.out, Or.inl rfl⟩
  · have HLI : Hid (¬ (65536 : Int) ≤ (l.length : Int)) := Lib.hid (by omega)
    have HZ : Hid (putE l ⟨a, b, s, t⟩ = 0 ∧ putL l ⟨a, b, s, t⟩ = l ++ [⟨a, b, s, t⟩]) := Lib.hid (by
      have e : putE l ⟨a, b, s, t⟩ = 0 := by unfold putE; rw [if_pos hm, if_neg hl]
      exact ⟨e, by unfold putL; rw [if_pos e]⟩)
    have HLT : Hid (l.length < 65536) := Lib.hid (by omega)
    rw [hm] at HM
    clear hm hl
    go_enter Try.func27, Try.ntmps27
    go_upto_region 1 with (fail)
    rw [← HWS.out.1, HWS.out.2]
    go_wp2_with fail
    refine HM.out.mono ?_
    rintro e W1 ⟨rfl, hb2⟩
    have HB1 := Lib.hid (gNx HB0.out hb2)
    have HSS : Hid (∀ V, Below W1.heap.size W1 V → V.cell? ⟨bx, 0, none⟩ = some (.int .i64 a) ∧ V.cell? ⟨bx, 1, none⟩ = some (.int .i64 b) ∧ V.cell? ⟨bx, 2, none⟩ = some (.string s) ∧ V.cell? ⟨bx, 3, none⟩ = some (.int .i64 t)) := Lib.hid (fun V hV => HS0.out V (gNx hb2 hV))
    have HCP := Lib.hid (fun V (hV : Below W1.heap.size W1 V) => rCopy_any l lb la lc V (HGS.out V (gNx HB1.out hV)) (by have := HLT.out; omega))
    clear hb2 g0 g1 g2 g3
    have hli := HLI.out
    have hli2 : (65536 ≤ (l.length : Int)) = False := by simp; omega
    clear HM HWS HS0 HGD HB0 HLI
    go_upto_region 5 with (fail)
    refine wp_region_held_drew (S := fun V => V.cell? ⟨bx, 0, none⟩ = some (.int .i64 a) ∧ V.cell? ⟨bx, 1, none⟩ = some (.int .i64 b) ∧ V.cell? ⟨bx, 2, none⟩ = some (.string s) ∧ V.cell? ⟨bx, 3, none⟩ = some (.int .i64 t)) (by kernel_rfl) (HSS.out _ (Below.drew (Below.refl _ _))) (fun hH => ?_)
    have hs0 := HSS.out _ (Below.drew (Below.refl _ _))
    have HV0 : Hid (Below W1.heap.size W1 W1.drew) := Lib.hid (Below.drew (Below.refl _ _))
    generalize W1.drew = V0 at *
    refine tk 0 (by assumption) rfl (by kernel_rfl) (fun _ _ _ h => h) (fun V hV => by go_simp; try with_reducible rfl) ?_
    try simp only [Act.put, sqA, sqB, sqC, sqD, sqE, sqF]
    refine tk 2 (by assumption) rfl (by kernel_rfl) (fun _ _ _ h => h) (fun V hV => by obtain ⟨hx0, hx1, hx2, hx3⟩ := hV; go_simp; try with_reducible rfl) ?_
    try simp only [Act.put, sqA, sqB, sqC, sqD, sqE, sqF]
    refine wpAnyH_ready (rs := [1, 3]) (by kernel_rfl) (by simp) ?_
    refine AllReadyH.cons (o := _) rfl (fun K hK => ?_) (AllReadyH.cons (o := _) rfl (fun K hK => ?_) (AllReadyH.nil))
    · go_simp
      refine (HCP.out V0 HV0.out).mono ?_
      rintro e V1 ⟨hbv, v1, r1, rfl, hr1, hrow1⟩
      obtain ⟨a1, c1, rfl⟩ := hrow1.slice
      have HV1 := Lib.hid (gNx HV0.out hbv)
      have HBV := Lib.hid hbv
      have HR1 : Hid (W1.heap.size ≤ r1) := Lib.hid (Nat.le_trans (HV0.out).size hr1)
      have HROW := Lib.hid hrow1
      clear hbv hr1 hrow1
      go_wp2_with fail
      refine hK.out _ _ (HSS.out _ HV1.out) (fun hH => ?_)
      clear hK K
      try simp only [Act.put, sqA, sqB, sqC, sqD, sqE, sqF]
      refine wpAnyH_ready (rs := [3]) (by kernel_rfl) (by simp) ?_
      refine AllReadyH.cons (o := _) rfl (fun K hK => ?_) AllReadyH.nil
      go_simp
      refine hK.out _ _ (HSS.out _ (gNx HV1.out (gAl _ _))) (fun hH => ?_)
      clear hK K
      obtain ⟨W8, hW8⟩ : ∃ W8, W8 = V1.alloc (.cells #[.int .i64 a, .int .i64 b, .string s, .int .i64 t] 35) := ⟨_, rfl⟩
      obtain ⟨a9, c9, W9, r9, hrun, hrow9, hr9, hb9⟩ := gm_app (k := l.length) a b s t HROW.out (by have := HLT.out; omega) HR1.out HV1.out HV1.out.size W8 hW8
      rw [hW8] at hrun
      have VB : Nat := 0
      have HRUN := Lib.hid hrun
      have HR9 : Hid (W1.heap.size ≤ r9) := Lib.hid (by first | exact hr9 | (have := HR1.out; have := HV1.out.size; omega))
      have HROW9 := Lib.hid hrow9
      have HB9 := Lib.hid hb9
      clear hrun hrow9 hb9
      try simp only [Act.put, sqA, sqB, sqC, sqD, sqE, sqF]
      refine wpAnyH_ready (rs := [4]) (by kernel_rfl) (by simp) ?_
      refine AllReadyH.cons (o := _) rfl (fun K hK => ?_) AllReadyH.nil
      refine step_append_r rfl _ _ 22 22 rfl (.slice a1 l.length c1) (.slice (some ⟨V1.heap.size, 0, none⟩) 1 1) (by simp [Act.eval, Act.put]) (by simp [Act.eval, Act.put]) (HRUN.out _) ?_
      refine hK.out _ _ (HSS.out _ HB9.out) (fun hH => ?_)
      clear hK K
      try simp only [Act.put, sqA, sqB, sqC, sqD, sqE, sqF]
      refine tk 5 (by assumption) rfl (by kernel_rfl) (fun _ _ _ h => h) (fun V hV => by go_simp; try with_reducible rfl) ?_
      try simp only [Act.put, sqA, sqB, sqC, sqD, sqE, sqF]
      refine tk 6 (by assumption) rfl (by kernel_rfl) (fun _ _ _ h => h) (fun V hV => by go_simp; try with_reducible rfl) ?_
      try simp only [Act.put, sqA, sqB, sqC, sqD, sqE, sqF]
      refine wpAnyH_done (by kernel_rfl) ?_ _
      clear hH hs0
      go_wp2_with fail
      refine bodyPost_ret (v := .tuple #[.slice a9 (l ++ [(⟨a, b, s, t⟩ : Gm)]).length c9, .int .i64 0]) (by simp [results, Try.results27, go_sem]) rfl ?_
      exact ⟨gNx HB1.out HB9.out, a9, c9, r9, by rw [HZ.out.1, HZ.out.2], by rw [HZ.out.2]; exact rw_gs HROW9.out, Or.inr (Nat.le_trans HB1.out.size HR9.out)⟩
    · go_simp
      refine hK.out _ _ (HSS.out _ (gNx HV0.out (gAl _ _))) (fun hH => ?_)
      clear hK K
      obtain ⟨W8, hW8⟩ : ∃ W8, W8 = V0.alloc (.cells #[.int .i64 a, .int .i64 b, .string s, .int .i64 t] 35) := ⟨_, rfl⟩
      have b8 : Below V0.heap.size V0 W8 := by rw [hW8]; exact gAl _ _
      have r8 : W8.heap[V0.heap.size]? = some (.cells (gmC ⟨a, b, s, t⟩).toArray 35 (0, 0)) := by rw [hW8]; exact heap_alloc_new V0 _
      have HV8 := Lib.hid (gNx HV0.out b8)
      have s8 : V0.heap.size < W8.heap.size := by rw [hW8]; simp
      have HR8 := Lib.hid (And.intro r8 s8)
      rw [← hW8]
      clear b8 r8 s8 hW8
      try simp only [Act.put, sqA, sqB, sqC, sqD, sqE, sqF]
      refine wpAnyH_ready (rs := [1]) (by kernel_rfl) (by simp) ?_
      refine AllReadyH.cons (o := _) rfl (fun K hK => ?_) AllReadyH.nil
      go_simp
      refine (HCP.out W8 HV8.out).mono ?_
      rintro e V1 ⟨hbv, v1, r1, rfl, hr1, hrow1⟩
      obtain ⟨a1, c1, rfl⟩ := hrow1.slice
      have HV1 := Lib.hid (gNx HV8.out hbv)
      have HBV := Lib.hid hbv
      have HR1 : Hid (W1.heap.size ≤ r1) := Lib.hid (Nat.le_trans (HV8.out).size hr1)
      have HROW := Lib.hid hrow1
      clear hbv hr1 hrow1
      go_wp2_with fail
      refine hK.out _ _ (HSS.out _ HV1.out) (fun hH => ?_)
      clear hK K
      try simp only [Act.put, sqA, sqB, sqC, sqD, sqE, sqF]
      have r8 := (HBV.out.block _ HR8.out.2).trans HR8.out.1
      obtain ⟨v9, W9, r9, hrun, hrow9, hr9, hxr, -⟩ := rw_app (P := Try.prog) (vb := V0.heap.size) (vs := gmC ⟨a, b, s, t⟩) Try.underlying22 gmInfo rfl HROW.out r8 rfl (gmC_one _) (by have := HLT.out; omega) (by have := HLT.out; omega) r1
      have e1 : (l ++ [(⟨a, b, s, t⟩ : Gm)]).length = l.length + 1 := by simp
      have e2 : gmRow (l ++ [⟨a, b, s, t⟩]) = gmRow l ++ gmC ⟨a, b, s, t⟩ := by rw [gmRow_app, gmRow_one1]
      rw [← e1, ← e2] at hrow9
      obtain ⟨a9, c9, rfl⟩ := hrow9.slice
      have hb9 : Below W1.heap.size W1 W9 := HV1.out.trans (hxr.below HR1.out HR1.out HV1.out.size)
      have HRUN := Lib.hid hrun
      have HR9 : Hid (W1.heap.size ≤ r9) := Lib.hid (by first | exact hr9 | (have := HR1.out; have := HV1.out.size; omega))
      have HROW9 := Lib.hid hrow9
      have HB9 := Lib.hid hb9
      clear hrun hrow9 hb9
      try simp only [Act.put, sqA, sqB, sqC, sqD, sqE, sqF]
      refine wpAnyH_ready (rs := [4]) (by kernel_rfl) (by simp) ?_
      refine AllReadyH.cons (o := _) rfl (fun K hK => ?_) AllReadyH.nil
      refine step_append_r rfl _ _ 22 22 rfl (.slice a1 l.length c1) (.slice (some ⟨V0.heap.size, 0, none⟩) 1 1) (by simp [Act.eval, Act.put]) (by simp [Act.eval, Act.put]) (HRUN.out _) ?_
      refine hK.out _ _ (HSS.out _ HB9.out) (fun hH => ?_)
      clear hK K
      try simp only [Act.put, sqA, sqB, sqC, sqD, sqE, sqF]
      refine tk 5 (by assumption) rfl (by kernel_rfl) (fun _ _ _ h => h) (fun V hV => by go_simp; try with_reducible rfl) ?_
      try simp only [Act.put, sqA, sqB, sqC, sqD, sqE, sqF]
      refine tk 6 (by assumption) rfl (by kernel_rfl) (fun _ _ _ h => h) (fun V hV => by go_simp; try with_reducible rfl) ?_
      try simp only [Act.put, sqA, sqB, sqC, sqD, sqE, sqF]
      refine wpAnyH_done (by kernel_rfl) ?_ _
      clear hH hs0
      go_wp2_with fail
      refine bodyPost_ret (v := .tuple #[.slice a9 (l ++ [(⟨a, b, s, t⟩ : Gm)]).length c9, .int .i64 0]) (by simp [results, Try.results27, go_sem]) rfl ?_
      exact ⟨gNx HB1.out HB9.out, a9, c9, r9, by rw [HZ.out.1, HZ.out.2], by rw [HZ.out.2]; exact rw_gs HROW9.out, Or.inr (Nat.le_trans HB1.out.size HR9.out)⟩
end Go.Proofs.Ytldbmdalmhhpfaa
