/- Channel: the document's Take. -/
import Derived.Test.YtldbmdalmhhpfaaCwT
namespace Go.Proofs.Ytldbmdalmhhpfaa
open Go.RowKit Go.Lib Go.Ow Go.Cw Go.Cq
set_option linter.unusedVariables false
set_option linter.unusedSimpArgs false
set_option maxRecDepth 100000

theorem results_cellM {fn : Func} {t u v : Tmp} {ty : TypeId} (h : fn.results = #[.tmp u, .cell t ty, .tmp v]) (tmps : Array Value) (w : World) (b o : Nat) (cs : List Value) (d : TypeDesc) (hp : tmps.getD t undef = .pointer (some ⟨b, o, none⟩)) (hc : w.rangeAt b o cs)
    (hu : Try.prog.underlying ty = some d) (hd : d.isRow = true) (hi : (Try.prog.info? ty).map (·.size) = some cs.length) : (results fn tmps).run Try.prog w = .ok (.tuple #[tmps.getD u undef, .agg cs.toArray, tmps.getD v undef]) w := by
  have e := run_loadVar_mid (P := Try.prog) w b o ty cs d hc hu hd hi
  have hp' : tmps[t]?.getD undef = .pointer (some ⟨b, o, none⟩) := by simpa using hp
  simp [results, h, hp', asAddr, e, Sem.run_bind, Sem.run_pure]
/-- A list, a datagram and a number are told. -/
def LG (w : World) (lb : Nat) (l : List Gm) (g : Gm) (E : Int) (e : Ending) (w' : World) : Prop := Below w.heap.size w w' ∧ ∃ a c b, e = .returned (.tuple #[.slice a l.length c, .agg (gmC g).toArray, .int .i64 E]) ∧ Gs w' b l a ∧ (b = lb ∨ w.heap.size ≤ b)
set_option maxHeartbeats 8000000 in
theorem rTake_any (i : Int) (l : List Gm) (hgd : Cq.Good l) (lb : Nat) (la : Option Addr) (lc : Nat) (w : World) (h : Gs w lb l la) :
    Calls Try.prog 28 #[.slice la l.length lc, .int .i64 i] w fun e w' => LG w lb (takeL l i) (takeG l i) (takeE l i) e w' := by
  obtain ⟨W1, hW1⟩ : ∃ W1, W1 = w.alloc (.cells #[.int .i64 0, .int .i64 0, .string ⟨#[]⟩, .int .i64 0] 35) := ⟨_, rfl⟩
  have b1 : Below w.heap.size w W1 := by rw [hW1]; exact gAl _ _
  have r1 : GmB W1 w.heap.size zG := by rw [hW1]; exact heap_alloc_new w _
  obtain ⟨xb, hxb⟩ : ∃ xb, xb = w.heap.size := ⟨_, rfl⟩
  have s1 : xb < W1.heap.size := by rw [hW1, hxb]; simp
  rw [← hxb] at r1
  have HB1 := Lib.hid b1
  have HGS := Lib.hid (fun V (hV : Below w.heap.size w V) => h.below hV)
  have HWS : Hid (W1 = w.alloc (.cells #[.int .i64 0, .int .i64 0, .string ⟨#[]⟩, .int .i64 0] 35) ∧ w.heap.size = xb) := Lib.hid ⟨hW1, hxb.symm⟩
  have HXB : Hid (∀ V, Below W1.heap.size W1 V → GmB V xb zG) := Lib.hid (fun V hV => (hV.block xb s1).trans r1)
  have HXL : Hid (w.heap.size ≤ xb ∧ xb < W1.heap.size) := Lib.hid ⟨by omega, s1⟩
  obtain ⟨z0, z1, z2, z3, y0, y1, y2, y3⟩ := r1.cells
  have HNO : Hid (GmB ((((W1.setCell ⟨xb, 0, none⟩ (.int .i64 0)).setCell ⟨xb, 1, none⟩ (.int .i64 0)).setCell ⟨xb, 2, none⟩ (.string ⟨#[]⟩)).setCell ⟨xb, 3, none⟩ (.int .i64 0)) xb zG ∧ Below w.heap.size w ((((W1.setCell ⟨xb, 0, none⟩ (.int .i64 0)).setCell ⟨xb, 1, none⟩ (.int .i64 0)).setCell ⟨xb, 2, none⟩ (.string ⟨#[]⟩)).setCell ⟨xb, 3, none⟩ (.int .i64 0))) := Lib.hid ⟨r1.set 0 0 ⟨#[]⟩ 0, ⟨b1.os, b1.tape, b1.output, by simpa [World.setCell] using b1.size, fun j hj => (gmb_sets _ _ _ _ j (by omega)).trans (b1.block j hj)⟩⟩
  have HGD := Lib.hid hgd
  clear h b1 r1 s1 hW1 hxb hgd
  by_cases hi0 : i < 0
  · have hb : hasB l i = false := by unfold hasB; simp; omega
    have HZ : Hid (takeE l i = 4 ∧ takeL l i = l ∧ takeG l i = zG) := Lib.hid (by simp [takeE, takeL, takeG, hb])
    go_enter Try.func28, Try.ntmps28
    go_upto_region 1 with (fail)
    rw [← HWS.out.1, HWS.out.2]
    clear hb
    go_wp2_with fail
    refine bodyPost_ret (results_cellM Try.results28 _ _ xb 0 (gmC zG) _ rfl (gm_range HNO.out.1) Try.underlying35 (by rfl) (by kernel_rfl)) rfl ?_
    exact ⟨HNO.out.2, la, lc, lb, by rw [HZ.out.1, HZ.out.2.1, HZ.out.2.2]; rfl, by rw [HZ.out.2.1]; exact HGS.out _ HNO.out.2, Or.inl rfl⟩
  by_cases hil : (l.length : Int) ≤ i
  · have hb : hasB l i = false := by unfold hasB; simp; omega
    have HZ : Hid (takeE l i = 4 ∧ takeL l i = l ∧ takeG l i = zG) := Lib.hid (by simp [takeE, takeL, takeG, hb])
    go_enter Try.func28, Try.ntmps28
    go_upto_region 1 with (fail)
    rw [← HWS.out.1, HWS.out.2]
    clear hb
    go_wp2_with fail
    refine bodyPost_ret (results_cellM Try.results28 _ _ xb 0 (gmC zG) _ rfl (gm_range HNO.out.1) Try.underlying35 (by rfl) (by kernel_rfl)) rfl ?_
    exact ⟨HNO.out.2, la, lc, lb, by rw [HZ.out.1, HZ.out.2.1, HZ.out.2.2]; rfl, by rw [HZ.out.2.1]; exact HGS.out _ HNO.out.2, Or.inl rfl⟩
  obtain ⟨n, rfl⟩ : ∃ n : Nat, i = (n : Int) := ⟨i.toNat, by omega⟩
  have hn : n < l.length := by omega
  have hb : hasB l (n : Int) = true := by unfold hasB; simp; omega
  have hg := gat_nat l hn
  have hw0 := (mayB_iff.1 (HGD.out.may _ (List.getElem_mem hn))).2.2.2.2.1
  obtain ⟨o, rfl, hlow, hra⟩ := (HGS.out W1 HB1.out).at (by omega)
  obtain ⟨k0, k1, k2, k3⟩ := gm_cells hra hn
  obtain ⟨ga, gb, gs, gt, hgm⟩ := gm_parts l[n]
  rw [hgm] at k0 k1 k2 k3 hg hw0
  simp only at k0 k1 k2 k3 hw0
  have hni : (n : Int) < (l.length : Int) := by omega
  have hn0 : (0 : Int) ≤ (n : Int) := by omega
  have HLB : Hid (lb < w.heap.size) := Lib.hid (by
    rcases HGS.out w (Below.refl _ _) with h | ⟨_, _, h, _⟩
    · rw [h] at hn; simp at hn
    · exact h)
  have HNE : Hid (lb ≠ xb) := Lib.hid (by have := HLB.out; have := HXL.out; omega)
  have HSS : Hid (∀ V, Below W1.heap.size W1 V → V.cell? ⟨lb, o + n * 4, none⟩ = some (.int .i64 ga) ∧ V.cell? ⟨lb, o + n * 4 + 1, none⟩ = some (.int .i64 gb) ∧ V.cell? ⟨lb, o + n * 4 + 2, none⟩ = some (.string gs) ∧ V.cell? ⟨lb, o + n * 4 + 3, none⟩ = some (.int .i64 gt)) := Lib.hid (fun V hV => by
    have e := hV.block lb hlow
    exact ⟨(World.cell?_of_block e).trans k0, (World.cell?_of_block e).trans k1, (World.cell?_of_block e).trans k2, (World.cell?_of_block e).trans k3⟩)
  clear hi0 hil
  by_cases ht : 0 < gt
  · have hb0 : True := trivial
    have HZ : Hid (takeE l (n : Int) = 1 ∧ takeL l (n : Int) = l ∧ takeG l (n : Int) = zG) := Lib.hid (by
        have e : takeE l (n : Int) = 1 := by unfold takeE; rw [if_pos hb, hg, if_neg (by simp only; omega)]
        exact ⟨e, by unfold takeL; rw [e, if_neg (by decide)], by unfold takeG; rw [e, if_neg (by decide)]⟩)
    go_enter Try.func28, Try.ntmps28
    go_upto_region 1 with (fail)
    rw [← HWS.out.1, HWS.out.2]
    clear hb0 hb hn hg hgm hlow hra hw0
    go_wp2_with fail
    refine bodyPost_ret (results_cellM Try.results28 _ _ xb 0 (gmC zG) _ rfl (gm_range HNO.out.1) Try.underlying35 (by rfl) (by kernel_rfl)) rfl ?_
    exact ⟨HNO.out.2, some ⟨lb, o, none⟩, lc, lb, by rw [HZ.out.1, HZ.out.2.1, HZ.out.2.2]; rfl, by rw [HZ.out.2.1]; exact HGS.out _ HNO.out.2, Or.inl rfl⟩
  · have hgt : gt = 0 := by omega
    have HZ : Hid (takeE l (n : Int) = 0 ∧ takeL l (n : Int) = l.eraseIdx n ∧ takeG l (n : Int) = ⟨ga, gb, gs, gt⟩) := Lib.hid (by
      have e : takeE l (n : Int) = 0 := by unfold takeE; rw [if_pos hb, hg, if_pos hgt]
      exact ⟨e, by unfold takeL; rw [if_pos e]; rfl, by unfold takeG; rw [if_pos e, hg]⟩)
    have HWO := Lib.hid (fun V (hV : Below W1.heap.size W1 V) => rWithout_any l n lb (some ⟨lb, o, none⟩) lc V (HGS.out V (gNx HB1.out hV)) (by have := HGD.out.few; omega))
    clear hb hn hg hgm hlow hra hw0 hgt
    go_enter Try.func28, Try.ntmps28
    go_upto_region 1 with (fail)
    rw [← HWS.out.1, HWS.out.2]
    go_upto_region 5 with (fail)
    clear k0 k1 k2 k3 z0 z1 z2 z3 y0 y1 y2 y3
    refine wp_region_held_drew (S := fun V => V.cell? ⟨lb, o + n * 4, none⟩ = some (.int .i64 ga) ∧ V.cell? ⟨lb, o + n * 4 + 1, none⟩ = some (.int .i64 gb) ∧ V.cell? ⟨lb, o + n * 4 + 2, none⟩ = some (.string gs) ∧ V.cell? ⟨lb, o + n * 4 + 3, none⟩ = some (.int .i64 gt)) (by kernel_rfl) (HSS.out _ (Below.drew (Below.refl _ _))) (fun hH => ?_)
    have hs0 := HSS.out _ (Below.drew (Below.refl _ _))
    have HV0 : Hid (Below W1.heap.size W1 W1.drew) := Lib.hid (Below.drew (Below.refl _ _))
    generalize W1.drew = V0 at *
    refine tk 0 (by assumption) rfl (by kernel_rfl) (fun _ _ _ h => h) (fun V hV => by go_simp; try with_reducible rfl) ?_
    try simp only [Act.put, sqA, sqB, sqC, sqD, sqE, sqF]
    refine tk 1 (by assumption) rfl (by kernel_rfl) (fun _ _ _ h => h) (fun V hV => by go_simp; try with_reducible rfl) ?_
    try simp only [Act.put, sqA, sqB, sqC, sqD, sqE, sqF]
    refine tk 3 (by assumption) rfl (by kernel_rfl) (fun _ _ _ h => h) (fun V hV => by go_simp; try with_reducible rfl) ?_
    try simp only [Act.put, sqA, sqB, sqC, sqD, sqE, sqF]
    refine tk 4 (by assumption) rfl (by kernel_rfl) (fun _ _ _ h => h) (fun V hV => by go_simp; try with_reducible rfl) ?_
    try simp only [Act.put, sqA, sqB, sqC, sqD, sqE, sqF]
    refine tk 5 (by assumption) rfl (by kernel_rfl) (fun _ _ _ h => h) (fun V hV => by go_simp; try with_reducible rfl) ?_
    try simp only [Act.put, sqA, sqB, sqC, sqD, sqE, sqF]
    refine tk 6 (by assumption) rfl (by kernel_rfl) (fun _ _ _ h => h) (fun V hV => by obtain ⟨hx0, hx1, hx2, hx3⟩ := hV; go_simp; try with_reducible rfl) ?_
    try simp only [Act.put, sqA, sqB, sqC, sqD, sqE, sqF]
    refine wpAnyH_ready (rs := [2]) (by kernel_rfl) (by simp) ?_
    refine AllReadyH.cons (o := _) rfl (fun K hK => ?_) AllReadyH.nil
    go_simp
    refine (HWO.out V0 HV0.out).mono ?_
    rintro e V1 ⟨hb1, v1, r1, rfl, hr1, hrow1⟩
    obtain ⟨a1, c1, rfl⟩ := hrow1.slice
    have HV1 := Lib.hid (gNx HV0.out hb1)
    have HROW := Lib.hid hrow1
    have HR1 : Hid (W1.heap.size ≤ r1) := Lib.hid (Nat.le_trans HV0.out.size hr1)
    clear hb1 hr1 hrow1
    go_wp2_with fail
    refine hK.out _ _ (HSS.out _ HV1.out) (fun hH => ?_)
    clear hK K
    try simp only [Act.put, sqA, sqB, sqC, sqD, sqE, sqF]
    refine tk 7 (by assumption) rfl (by kernel_rfl) (fun _ _ _ h => h) (fun V hV => by go_simp; try with_reducible rfl) ?_
    try simp only [Act.put, sqA, sqB, sqC, sqD, sqE, sqF]
    refine wpAnyH_ready (rs := [8]) (by kernel_rfl) (by simp) ?_
    refine AllReadyH.cons (o := _) rfl (fun K hK => ?_) AllReadyH.nil
    obtain ⟨z0, z1, z2, z3, y0, y1, y2, y3⟩ := (HXB.out V1 HV1.out).cells
    have HW := Lib.hid ((HXB.out V1 HV1.out).set ga gb gs gt)
    have HO : Hid (∀ j, j ≠ xb → ((((V1.setCell ⟨xb, 0, none⟩ (.int .i64 ga)).setCell ⟨xb, 1, none⟩ (.int .i64 gb)).setCell ⟨xb, 2, none⟩ (.string gs)).setCell ⟨xb, 3, none⟩ (.int .i64 gt)).heap[j]? = V1.heap[j]?) := Lib.hid (fun j hj => gmb_sets _ _ _ _ j hj)
    go_simp
    refine hK.out _ _ (by
      obtain ⟨p0, p1, p2, p3⟩ := HSS.out _ HV1.out
      have e := HO.out lb HNE.out
      exact ⟨(World.cell?_of_block e).trans p0, (World.cell?_of_block e).trans p1, (World.cell?_of_block e).trans p2, (World.cell?_of_block e).trans p3⟩) (fun hH => ?_)
    clear hK K z0 z1 z2 z3 y0 y1 y2 y3
    try simp only [Act.put, sqA, sqB, sqC, sqD, sqE, sqF]
    refine tk 9 (by assumption) rfl (by kernel_rfl) (fun _ _ _ h => h) (fun V hV => by go_simp; try with_reducible rfl) ?_
    try simp only [Act.put, sqA, sqB, sqC, sqD, sqE, sqF]
    refine wpAnyH_done (by kernel_rfl) ?_ _
    clear hs0 hH
    go_wp2_with fail
    refine bodyPost_ret (results_cellM Try.results28 _ _ xb 0 (gmC ⟨ga, gb, gs, gt⟩) _ rfl (gm_range HW.out) Try.underlying35 (by rfl) (by kernel_rfl)) rfl ?_
    refine ⟨?_, a1, c1, r1, by rw [HZ.out.1, HZ.out.2.1, HZ.out.2.2]; rfl, ?_, Or.inr (Nat.le_trans HB1.out.size HR1.out)⟩
    · have hb := HB1.out.trans (HV1.out.mono HB1.out.size)
      exact ⟨hb.os, hb.tape, hb.output, by simpa [World.setCell] using hb.size, fun j hj => (HO.out j (by have := HXL.out; omega)).trans (hb.block j hj)⟩
    · rw [HZ.out.2.1]
      exact (rw_gs HROW.out).keep (by simp [World.setCell]) (HO.out r1 (by have := HXL.out; have := HR1.out; omega))
end Go.Proofs.Ytldbmdalmhhpfaa
