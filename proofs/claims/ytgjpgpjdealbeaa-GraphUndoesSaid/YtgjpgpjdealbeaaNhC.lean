/- Graphs: the document's Live. -/
import Derived.Test.YtgjpgpjdealbeaaNhB
namespace Go.Proofs.Ytgjpgpjdealbeaa
open Go.RowKit Go.Lib Go.Fq Go.Iq Go.Nq Go.Ow
set_option linter.unusedVariables false
set_option linter.unusedSimpArgs false
set_option maxRecDepth 100000

set_option maxHeartbeats 8000000 in
theorem rLive_any (G : Gr) (na : Option Addr) (nc : Nat) (la : Option Addr) (lc : Nat) (w : World) (hin : GrIn w G na la) :
    Calls Try.prog 20 #[.agg #[.slice na G.nodes.length nc, .slice la G.links.length lc]] w fun e w' => LiveEnds w (liveA G) (checkG G) e w' := by
  have hst := g_storeL
  obtain ⟨W1, hW1⟩ : ∃ W1, W1 = w.alloc (.cells #[.slice na G.nodes.length nc, .slice la G.links.length lc] 25) := ⟨_, rfl⟩
  obtain ⟨W2, hW2⟩ : ∃ W2, W2 = W1.alloc (.cells #[.slice none 0 0, .slice none 0 0] 25) := ⟨_, rfl⟩
  have b1 : Below w.heap.size w W1 := by rw [hW1]; exact gAl _ _
  have b2 : Below W1.heap.size W1 W2 := by rw [hW2]; exact gAl _ _
  have s1 : W1.heap.size = w.heap.size + 1 := by rw [hW1]; simp
  have s2 : W2.heap.size = W1.heap.size + 1 := by rw [hW2]; simp
  have r1 : W1.heap[w.heap.size]? = some (.cells #[.slice na G.nodes.length nc, .slice la G.links.length lc] 25 (0, 0)) := by rw [hW1]; exact heap_alloc_new w _
  have r2 : W2.heap[W1.heap.size]? = some (.cells #[.slice none 0 0, .slice none 0 0] 25 (0, 0)) := by rw [hW2]; exact heap_alloc_new W1 _
  have hb2 : Below w.heap.size w W2 := gNx b1 b2
  have q1 : W2.heap[w.heap.size]? = some (.cells #[.slice na G.nodes.length nc, .slice la G.links.length lc] 25 (0, 0)) := (b2.block _ (by omega)).trans r1
  obtain ⟨br, hbr⟩ : ∃ br, br = W1.heap.size := ⟨_, rfl⟩
  have HBR : Hid (br < W2.heap.size ∧ w.heap.size ≤ br ∧ br ≠ w.heap.size ∧ w.heap.size ≤ W2.heap.size) := Lib.hid (by omega)
  have HKG : Hid (∀ V, Below W2.heap.size W2 V → V.cell? ⟨w.heap.size, 0, none⟩ = some (.slice na G.nodes.length nc) ∧ V.cell? ⟨w.heap.size, 1, none⟩ = some (.slice la G.links.length lc)) := Lib.hid (fun V hV => by
    have := (hV.block w.heap.size (by omega)).trans q1
    exact ⟨by rw [cell_of_row V _ 0 _ _ (0, 0) this]; rfl, by rw [cell_of_row V _ 1 _ _ (0, 0) this]; rfl⟩)
  have HRS : Hid (∀ V, Below W2.heap.size W2 V → V.heap[br]? = some (.cells #[.slice none 0 0, .slice none 0 0] 25 (0, 0))) := Lib.hid (fun V hV => by rw [hbr]; exact (hV.block _ (by omega)).trans r2)
  have HWB : Hid (∀ V, Below W2.heap.size W2 V → Below w.heap.size w V) := Lib.hid (fun V hV => gNx hb2 hV)
  have HN : Hid (∀ V, Below W2.heap.size W2 V → NodesIn V V.heap.size G.nodes na) := Lib.hid (fun V hV => hin.nodes.kept (fun i hi => (gNx hb2 hV).block i hi) (gNx hb2 hV).size)
  have HL : Hid (∀ V, Below W2.heap.size W2 V → LinksIn V V.heap.size G.links la) := Lib.hid (fun V hV => hin.links.kept (fun i hi => (gNx hb2 hV).block i hi) (gNx hb2 hV).size)
  have HG2 : Hid (∀ V, Below W2.heap.size W2 V → GrIn V G na la) := Lib.hid (fun V hV => hin.below (gNx hb2 hV))
  have HQ := Lib.hid hin.wts
  have HSZ : Hid (G.nodes.length * 16 ≤ 140737488351232 ∧ G.links.length * 32 ≤ 140737488351232) := Lib.hid ⟨hin.n1, hin.l1⟩
  clear hin b1 b2 r1 r2 q1 hb2

  by_cases hz : checkG G = 0
  case neg =>
    have HA := Lib.hid (liveA_no hz)
    obtain ⟨ce, hce⟩ : ∃ ce, ce = checkG G := ⟨_, rfl⟩
    rw [← hce] at hz ⊢
    rw [HA.out]
    have HCE := Lib.hid hce
    have hz2 : (ce != 0) = true := by simpa using hz
    clear hz hce HA
    go_enter Try.func20, Try.ntmps20
    go_upto_region 1 with (fail)
    rw [← hW1, ← hW2, ← s1, ← hbr]
    obtain ⟨g0, g1⟩ := HKG.out W2 (Below.refl _ _)
    clear hW1 hW2 s1 s2 hbr
    go_wp2_with fail
    refine (rCheck_any G na la nc lc W2 (HG2.out W2 (Below.refl _ _)).nodes (HG2.out W2 (Below.refl _ _)).links HQ.out (by have := HSZ.out; omega) (by have := HSZ.out; omega)).mono ?_
    rintro e V1 ⟨rfl, hb⟩
    have B1 := Lib.hid hb
    have hres := HRS.out V1 hb
    have x0 : V1.cell? ⟨br, 0, none⟩ = some (.slice none 0 0) := by rw [cell_of_row V1 _ 0 _ _ (0, 0) hres]; rfl
    have x1 : V1.cell? ⟨br, 1, none⟩ = some (.slice none 0 0) := by rw [cell_of_row V1 _ 1 _ _ (0, 0) hres]; rfl
    have x2 := frozen_of_row V1 br 0 _ _ hres
    have x3 := frozen_of_row V1 br 1 _ _ hres
    have HRES := Lib.hid hres
    clear hb hres g0 g1
    rw [← HCE.out]
    clear HCE
    go_wp2_with fail
    have hq1 := heap_setCell_same V1 br 0 _ _ (.slice none 0 0) HRES.out
    have hq2 := heap_setCell_same _ br 1 _ _ (.slice none 0 0) hq1
    refine bodyPost_ret (results_cell2 Try.results20 _ _ br 0 [.slice none 0 0, .slice none 0 0] _ rfl ?_ Try.underlying25 (by rfl) (by kernel_rfl)) rfl ?_
    · intro j v hj
      match j with
      | 0 => simp at hj; subst hj; rw [cell_of_row _ _ _ _ _ (0, 0) hq2]; rfl
      | 1 => simp at hj; subst hj; rw [cell_of_row _ _ _ _ _ (0, 0) hq2]; rfl
      | j + 2 => simp at hj
    · exact ⟨_, _, rfl, ((grv_0 _ _).set HRES.out).set hq1, ((HWB.out V1 B1.out).setCell HBR.out.2.1 _).setCell HBR.out.2.1 _⟩
  case pos =>
    have HA := Lib.hid (liveA_ok hz)
    have hnp := (check_zero.1 hz).2.2.1
    have HNP := Lib.hid hnp
    rw [HA.out, hz]
    have HCK := Lib.hid hz
    clear HA hz hnp
    have HBG0 : Hid (w.heap.size < W2.heap.size) := Lib.hid (by omega)
    go_enter Try.func20, Try.ntmps20
    go_upto_region 1 with (fail)
    rw [← hW1, ← hW2, ← s1, ← hbr]
    obtain ⟨g0, g1⟩ := HKG.out W2 (Below.refl _ _)
    clear hW1 hW2 s1 s2 hbr
    go_wp2_with fail
    refine (rCheck_any G na la nc lc W2 (HG2.out W2 (Below.refl _ _)).nodes (HG2.out W2 (Below.refl _ _)).links HQ.out (by have := HSZ.out; omega) (by have := HSZ.out; omega)).mono ?_
    rintro e V1 ⟨rfl, hb⟩
    rw [HCK.out]
    have B1 := Lib.hid hb
    clear hb g0 g1
    go_upto_region 5 with (fail)
    obtain ⟨W3, hW3⟩ : ∃ W3, W3 = V1.alloc (.cells #[.slice none 0 0, .slice none 0 0] 25) := ⟨_, rfl⟩
    rw [← hW3]
    obtain ⟨bo, hbo⟩ : ∃ bo, bo = V1.heap.size := ⟨_, rfl⟩
    rw [← hbo]
    have b3 : Below W2.heap.size W2 W3 := by rw [hW3]; exact gNx B1.out (gAl _ _)
    have hga0 : GrAt W3 bo bo (.slice none 0 0) (.slice none 0 0) gr0 := ⟨Nat.le_refl _, by rw [hW3, hbo]; exact heap_alloc_new V1 _, (grv_0 _ _).nodes, (grv_0 _ _).links, (grv_0 W3 0).wts⟩
    have HGA0 := Lib.hid hga0
    have HB3 := Lib.hid b3
    have HBO : Hid (W2.heap.size ≤ bo) := Lib.hid (by rw [hbo]; exact B1.out.size)
    have HBG : Hid (w.heap.size < bo) := Lib.hid (Nat.lt_of_lt_of_le HBG0.out HBO.out)
    clear hW3 hbo b3 hga0 B1
    obtain ⟨g0, g1⟩ := HKG.out W3 HB3.out
    go_wp2_with fail
    clear g0 g1
    go_loopw [6] (fun v wr => ∃ (k : Nat) (vn : Value), v = .int .i64 (k : Int) ∧ k ≤ G.nodes.length ∧ GrAt wr bo bo vn (.slice none 0 0) ⟨(G.nodes.take k).filter (fun n : Nd => n.up), []⟩ ∧ Below W2.heap.size W2 wr) (fun v _ => G.nodes.length - (RowKit.intOf v).toNat)
    case atStart => exact ⟨0, _, rfl, by omega, HGA0.out, HB3.out⟩
    case round =>
      obtain ⟨k, vn, rfl, hk, hga, hbel⟩ := hrel
      by_cases hlt : k < G.nodes.length
      · 
        have hlti : (k : Int) < (G.nodes.length : Int) := by omega
        have hk0 : (0 : Int) ≤ (k : Int) := by omega
        have hkw : IntKind.i64.wrap ((k : Int) + 1) = (k : Int) + 1 := by rw [IntKind.wrap_i64]; have := HSZ.out; omega
        obtain ⟨b, o, rfl, hb, hc⟩ := (HN.out wr hbel).at k hlt
        obtain ⟨c0, c1, c2⟩ := hc k hlt
        have HFI := Lib.hid (filter_go (fun n : Nd => n.up) G.nodes k hlt)
        have HFIT : Hid ((((G.nodes.take k).filter (fun n : Nd => n.up)).length + 1) * 16 ≤ 140737488355328) := Lib.hid (by have := filter_le (fun n : Nd => n.up) G.nodes k; have := HSZ.out; omega)
        have HGAW : Hid (∀ V, Below wr.heap.size wr V → GrAt V bo bo vn (.slice none 0 0) ⟨(G.nodes.take k).filter (fun n : Nd => n.up), []⟩) := Lib.hid (fun V hV => hga.below hV)
        have HBW : Hid (∀ V, Below wr.heap.size wr V → Below W2.heap.size W2 V) := Lib.hid (fun V hV => gNx hbel hV)
        
        have HBL : Hid (b < wr.heap.size ∧ b < bo) := Lib.hid ⟨hb, by
          obtain ⟨b', o', he, hb', -⟩ := (HN.out W2 (Below.refl _ _)).at k hlt
          cases he
          exact Nat.lt_of_lt_of_le hb' HBO.out⟩
        have HCK := Lib.hid (hc k hlt)
        obtain ⟨g0, g1⟩ := HKG.out wr hbel
        clear hc hga hbel hb
        generalize G.nodes[k] = nd at *
        generalize (G.nodes.take k).filter (fun n : Nd => n.up) = GL at *
        obtain ⟨id, up, mark⟩ := nd
        simp only at c0 c1 c2
        cases up with
        | false =>
          have HX := Lib.hid (HFI.out.trans (if_neg Bool.false_ne_true))
          clear HFI
          go_wp2_with fail
          refine ⟨⟨k + 1, vn, by simp, by omega, by rw [HX.out]; exact HGAW.out _ (Below.refl _ _), HBW.out _ (Below.refl _ _)⟩, ?_⟩
          simp [RowKit.intOf]; omega
        | true =>
          have HX := Lib.hid (HFI.out.trans (if_pos rfl))
          clear HFI
          go_upto_region 9 with (fail)
          clear c0 c1 c2 g0 g1
          have HSS : Hid (∀ V, Below wr.heap.size wr V → V.cell? ⟨w.heap.size, 0, none⟩ = some (.slice (some ⟨b, o, none⟩) G.nodes.length nc) ∧ NdAt V b (o + k * 3) ⟨id, true, mark⟩) := Lib.hid (fun V hV => ⟨(HKG.out V (HBW.out V hV)).1, HCK.out.kept (hV.block b HBL.out.1)⟩)
          have HSW : Hid (∀ V V', Below wr.heap.size wr V → Below bo V V' → V'.cell? ⟨w.heap.size, 0, none⟩ = some (.slice (some ⟨b, o, none⟩) G.nodes.length nc) ∧ NdAt V' b (o + k * 3) ⟨id, true, mark⟩) := Lib.hid (fun V V' hV hw => by
            obtain ⟨e1, e2⟩ := HSS.out V hV
            exact ⟨(hw.cell (p := ⟨w.heap.size, 0, none⟩) HBG.out).trans e1, e2.kept (hw.block b HBL.out.2)⟩)
          have HSX : Hid (∀ (V : World) (u : Value), (V.cell? ⟨w.heap.size, 0, none⟩ = some (.slice (some ⟨b, o, none⟩) G.nodes.length nc) ∧ NdAt V b (o + k * 3) ⟨id, true, mark⟩) → ((V.setCell ⟨bo, 0, none⟩ u).cell? ⟨w.heap.size, 0, none⟩ = some (.slice (some ⟨b, o, none⟩) G.nodes.length nc) ∧ NdAt (V.setCell ⟨bo, 0, none⟩ u) b (o + k * 3) ⟨id, true, mark⟩)) := Lib.hid (fun V u h => ⟨by rw [World.cell?_setCell_other _ _ _ _ (by intro e; simp only [Addr.mk.injEq] at e; have := HBG.out; omega)]; exact h.1, h.2.kept (Below.heap_setCell _ _ _ _ (by have := HBL.out.2; show b ≠ bo; omega))⟩)
          refine wp_region_held_drew (S := fun V => V.cell? ⟨w.heap.size, 0, none⟩ = some (.slice (some ⟨b, o, none⟩) G.nodes.length nc) ∧ NdAt V b (o + k * 3) ⟨id, true, mark⟩) (by kernel_rfl) (HSS.out wr.drew (Below.drew (Below.refl _ _))) (fun hH => ?_)
          have B0 : Hid (Below wr.heap.size wr wr.drew) := Lib.hid (Below.drew (Below.refl _ _))
          generalize wr.drew = V0 at *
          have HLD := Lib.hid (HGAW.out V0 B0.out).cells.1
          refine tk 0 (by assumption) rfl (by kernel_rfl) (fun _ _ _ h => h) (fun V hV => by go_simp; try with_reducible rfl) ?_
          try simp only [Act.put, List.setIfInBounds_toArray, List.set_cons_zero, List.set_cons_succ, List.getElem_toArray, List.getElem_cons_succ, List.getElem_cons_zero]
          refine tk 2 (by assumption) rfl (by kernel_rfl) (fun _ _ _ h => h) (fun V hV => by go_simp; try with_reducible rfl) ?_
          try simp only [Act.put, List.setIfInBounds_toArray, List.set_cons_zero, List.set_cons_succ, List.getElem_toArray, List.getElem_cons_succ, List.getElem_cons_zero]
          refine tk 3 (by assumption) rfl (by kernel_rfl) (fun _ _ _ h => h) (fun V hV => by obtain ⟨x0, x1⟩ := hV; obtain ⟨c0, c1, c2⟩ := x1; go_simp; try with_reducible rfl) ?_
          try simp only [Act.put, List.setIfInBounds_toArray, List.set_cons_zero, List.set_cons_succ, List.getElem_toArray, List.getElem_cons_succ, List.getElem_cons_zero]
          refine tk 4 (by assumption) rfl (by kernel_rfl) (fun _ _ _ h => h) (fun V hV => by go_simp; try with_reducible rfl) ?_
          try simp only [Act.put, List.setIfInBounds_toArray, List.set_cons_zero, List.set_cons_succ, List.getElem_toArray, List.getElem_cons_succ, List.getElem_cons_zero]
          refine tk 5 (by assumption) rfl (by kernel_rfl) (fun _ _ _ h => h) (fun V hV => by go_simp; try with_reducible rfl) ?_
          try simp only [Act.put, List.setIfInBounds_toArray, List.set_cons_zero, List.set_cons_succ, List.getElem_toArray, List.getElem_cons_succ, List.getElem_cons_zero]
          refine tk 6 (by assumption) rfl (by kernel_rfl) (fun _ _ _ h => h) (fun V hV => by obtain ⟨x0, x1⟩ := hV; obtain ⟨c0, c1, c2⟩ := x1; go_simp; try with_reducible rfl) ?_
          try simp only [Act.put, List.setIfInBounds_toArray, List.set_cons_zero, List.set_cons_succ, List.getElem_toArray, List.getElem_cons_succ, List.getElem_cons_zero]
          refine wpAnyH_ready (rs := [1, 7]) (by kernel_rfl) (by simp) ?_
          refine AllReadyH.cons (o := _) rfl (fun K hK => ?_) (AllReadyH.cons (o := _) rfl (fun K hK => ?_) (AllReadyH.nil))
          · have hx := HLD.out
            go_simp
            refine hK.out _ _ hH (fun hH => ?_)
            clear hK K
            try simp only [Act.put, List.setIfInBounds_toArray, List.set_cons_zero, List.set_cons_succ, List.getElem_toArray, List.getElem_cons_succ, List.getElem_cons_zero]
            refine wpAnyH_ready (rs := [7]) (by kernel_rfl) (by simp) ?_
            refine AllReadyH.cons (o := _) rfl (fun K hK => ?_) AllReadyH.nil
            go_simp
            obtain ⟨V9, hV9⟩ : ∃ V9, V9 = V0.alloc (.cells #[.int .i64 id, .bool true, .bool mark] 52) := ⟨_, rfl⟩
            rw [← hV9]
            have B9 : Hid (Below wr.heap.size wr V9) := Lib.hid (by rw [hV9]; exact gNx B0.out (gAl _ _))
            have HV9 : Hid (V9.heap[V0.heap.size]? = some (.cells (ndC ⟨id, true, mark⟩).toArray 52 (0, 0))) := Lib.hid (by rw [hV9]; exact heap_alloc_new V0 _)
            clear hV9
            have HS9 := Lib.hid (HSS.out V9 B9.out)
            have HLD := Lib.hid (HGAW.out V9 B9.out).cells.1
            refine hK.out _ _ HS9.out (fun hH => ?_)
            clear hK K
            try simp only [Act.put, List.setIfInBounds_toArray, List.set_cons_zero, List.set_cons_succ, List.getElem_toArray, List.getElem_cons_succ, List.getElem_cons_zero]
            refine wpAnyH_ready (rs := [8]) (by kernel_rfl) (by simp) ?_
            refine AllReadyH.cons (o := _) rfl (fun K hK => ?_) AllReadyH.nil
            obtain ⟨a2, c9, V6, hrun, hg6, hga6, hb6⟩ := (HGAW.out V9 B9.out).addN ⟨id, true, mark⟩ HV9.out HFIT.out
            refine step_append_r rfl _ _ 22 22 rfl vn (.slice (some ⟨V0.heap.size, 0, none⟩) 1 1) (by simp [Act.eval, Act.put]) (by simp [Act.eval, Act.put]) (hrun _) ?_
            clear hrun
            have HG6 := Lib.hid hga6
            have HB6 := Lib.hid hb6
            have HX6 := Lib.hid hg6
            clear hga6 hb6 hg6
            have HS6 := Lib.hid (HSW.out V9 V6 B9.out HB6.out)
            refine hK.out _ _ HS6.out (fun hH => ?_)
            clear hK K
            try simp only [Act.put, List.setIfInBounds_toArray, List.set_cons_zero, List.set_cons_succ, List.getElem_toArray, List.getElem_cons_succ, List.getElem_cons_zero]
            refine tk 9 (by assumption) rfl (by kernel_rfl) (fun _ _ _ h => h) (fun V hV => by go_simp; try with_reducible rfl) ?_
            try simp only [Act.put, List.setIfInBounds_toArray, List.set_cons_zero, List.set_cons_succ, List.getElem_toArray, List.getElem_cons_succ, List.getElem_cons_zero]
            refine wpAnyH_ready (rs := [10]) (by kernel_rfl) (by simp) ?_
            refine AllReadyH.cons (o := _) rfl (fun K hK => ?_) AllReadyH.nil
            have d0 : V6.cell? ⟨bo, 0, none⟩ = some vn := by rw [cell_of_row V6 _ 0 _ _ (0, 0) HX6.out]; rfl
            have d1 : V6.frozen? ⟨bo, 0, none⟩ = false := frozen_of_row V6 _ _ _ _ HX6.out
            go_simp
            refine hK.out _ _ (HSX.out _ _ HS6.out) (fun hH => ?_)
            clear hK K
            try simp only [Act.put, List.setIfInBounds_toArray, List.set_cons_zero, List.set_cons_succ, List.getElem_toArray, List.getElem_cons_succ, List.getElem_cons_zero]
            refine wpAnyH_done (by kernel_rfl) ?_ _
            go_wp2_with fail
            refine ⟨⟨k + 1, _, by simp, by omega, by rw [HX.out]; exact HG6.out, ((HBW.out _ B9.out).trans (HB6.out.mono HBO.out)).setCell HBO.out _⟩, ?_⟩
            simp [RowKit.intOf]; omega
          · go_simp
            obtain ⟨V9, hV9⟩ : ∃ V9, V9 = V0.alloc (.cells #[.int .i64 id, .bool true, .bool mark] 52) := ⟨_, rfl⟩
            rw [← hV9]
            have B9 : Hid (Below wr.heap.size wr V9) := Lib.hid (by rw [hV9]; exact gNx B0.out (gAl _ _))
            have HV9 : Hid (V9.heap[V0.heap.size]? = some (.cells (ndC ⟨id, true, mark⟩).toArray 52 (0, 0))) := Lib.hid (by rw [hV9]; exact heap_alloc_new V0 _)
            clear hV9
            have HS9 := Lib.hid (HSS.out V9 B9.out)
            have HLD := Lib.hid (HGAW.out V9 B9.out).cells.1
            refine hK.out _ _ HS9.out (fun hH => ?_)
            clear hK K
            try simp only [Act.put, List.setIfInBounds_toArray, List.set_cons_zero, List.set_cons_succ, List.getElem_toArray, List.getElem_cons_succ, List.getElem_cons_zero]
            refine wpAnyH_ready (rs := [1]) (by kernel_rfl) (by simp) ?_
            refine AllReadyH.cons (o := _) rfl (fun K hK => ?_) AllReadyH.nil
            have hx := HLD.out
            go_simp
            refine hK.out _ _ hH (fun hH => ?_)
            clear hK K
            try simp only [Act.put, List.setIfInBounds_toArray, List.set_cons_zero, List.set_cons_succ, List.getElem_toArray, List.getElem_cons_succ, List.getElem_cons_zero]
            refine wpAnyH_ready (rs := [8]) (by kernel_rfl) (by simp) ?_
            refine AllReadyH.cons (o := _) rfl (fun K hK => ?_) AllReadyH.nil
            obtain ⟨a2, c9, V6, hrun, hg6, hga6, hb6⟩ := (HGAW.out V9 B9.out).addN ⟨id, true, mark⟩ HV9.out HFIT.out
            refine step_append_r rfl _ _ 22 22 rfl vn (.slice (some ⟨V0.heap.size, 0, none⟩) 1 1) (by simp [Act.eval, Act.put]) (by simp [Act.eval, Act.put]) (hrun _) ?_
            clear hrun
            have HG6 := Lib.hid hga6
            have HB6 := Lib.hid hb6
            have HX6 := Lib.hid hg6
            clear hga6 hb6 hg6
            have HS6 := Lib.hid (HSW.out V9 V6 B9.out HB6.out)
            refine hK.out _ _ HS6.out (fun hH => ?_)
            clear hK K
            try simp only [Act.put, List.setIfInBounds_toArray, List.set_cons_zero, List.set_cons_succ, List.getElem_toArray, List.getElem_cons_succ, List.getElem_cons_zero]
            refine tk 9 (by assumption) rfl (by kernel_rfl) (fun _ _ _ h => h) (fun V hV => by go_simp; try with_reducible rfl) ?_
            try simp only [Act.put, List.setIfInBounds_toArray, List.set_cons_zero, List.set_cons_succ, List.getElem_toArray, List.getElem_cons_succ, List.getElem_cons_zero]
            refine wpAnyH_ready (rs := [10]) (by kernel_rfl) (by simp) ?_
            refine AllReadyH.cons (o := _) rfl (fun K hK => ?_) AllReadyH.nil
            have d0 : V6.cell? ⟨bo, 0, none⟩ = some vn := by rw [cell_of_row V6 _ 0 _ _ (0, 0) HX6.out]; rfl
            have d1 : V6.frozen? ⟨bo, 0, none⟩ = false := frozen_of_row V6 _ _ _ _ HX6.out
            go_simp
            refine hK.out _ _ (HSX.out _ _ HS6.out) (fun hH => ?_)
            clear hK K
            try simp only [Act.put, List.setIfInBounds_toArray, List.set_cons_zero, List.set_cons_succ, List.getElem_toArray, List.getElem_cons_succ, List.getElem_cons_zero]
            refine wpAnyH_done (by kernel_rfl) ?_ _
            go_wp2_with fail
            refine ⟨⟨k + 1, _, by simp, by omega, by rw [HX.out]; exact HG6.out, ((HBW.out _ B9.out).trans (HB6.out.mono HBO.out)).setCell HBO.out _⟩, ?_⟩
            simp [RowKit.intOf]; omega
      · have hnk : ¬ (k : Int) < (G.nodes.length : Int) := by omega
        have htk : G.nodes.take k = G.nodes := List.take_of_length_le (by omega)
        rw [htk] at hga
        have HGA1 : Hid (GrAt wr bo bo vn (.slice none 0 0) ⟨G.nodes.filter (fun n : Nd => n.up), []⟩) := Lib.hid hga
        have HBE1 := Lib.hid hbel
        obtain ⟨g0, g1⟩ := HKG.out wr hbel
        clear hlt htk hga hbel
        go_wp2_with fail
        clear g0 g1
        go_loopw [7] (fun v wr => ∃ (k : Nat) (vl : Value), v = .int .i64 (k : Int) ∧ k ≤ G.links.length ∧ GrAt wr bo bo vn vl ⟨G.nodes.filter (fun n : Nd => n.up), (G.links.take k).filter (liveL G.nodes)⟩ ∧ Below W2.heap.size W2 wr) (fun v _ => G.links.length - (RowKit.intOf v).toNat)
        case atStart => exact ⟨0, _, rfl, by omega, HGA1.out, HBE1.out⟩
        case round =>
          clear hk
          obtain ⟨k, vl, rfl, hk, hga, hbel⟩ := hrel
          by_cases hlt : k < G.links.length
          · 
            have hlti : (k : Int) < (G.links.length : Int) := by omega
            have hk0 : (0 : Int) ≤ (k : Int) := by omega
            have hkw : IntKind.i64.wrap ((k : Int) + 1) = (k : Int) + 1 := by rw [IntKind.wrap_i64]; have := HSZ.out; omega
            obtain ⟨b, o, rfl, hb, hc⟩ := (HL.out wr hbel).at k hlt
            obtain ⟨c0, c1, c2, c3⟩ := hc k hlt
            have HFI := Lib.hid (filter_go (liveL G.nodes) G.links k hlt)
            have HFIT : Hid ((((G.links.take k).filter (liveL G.nodes)).length + 1) * 32 ≤ 140737488355328) := Lib.hid (by have := filter_le (liveL G.nodes) G.links k; have := HSZ.out; omega)
            have HGAW : Hid (∀ V, Below wr.heap.size wr V → GrAt V bo bo vn vl ⟨G.nodes.filter (fun n : Nd => n.up), (G.links.take k).filter (liveL G.nodes)⟩) := Lib.hid (fun V hV => hga.below hV)
            have HBW : Hid (∀ V, Below wr.heap.size wr V → Below W2.heap.size W2 V) := Lib.hid (fun V hV => gNx hbel hV)
            have HWY := Lib.hid (HQ.out _ (List.getElem_mem hlt))
            have HBL : Hid (b < wr.heap.size ∧ b < bo) := Lib.hid ⟨hb, by
              obtain ⟨b', o', he, hb', -⟩ := (HL.out W2 (Below.refl _ _)).at k hlt
              cases he
              exact Nat.lt_of_lt_of_le hb' HBO.out⟩
            have HCK := Lib.hid (hc k hlt)
            obtain ⟨g0, g1⟩ := HKG.out wr hbel
            clear hc hga hbel hb
            generalize G.links[k] = y at *
            generalize (G.links.take k).filter (liveL G.nodes) = GL at *
            go_upto_region 13 with (fail)
            clear c0 c1 c2 c3 g0 g1
            refine wp_region_held_drew (S := fun V => Below wr.heap.size wr V) (by kernel_rfl) (Below.drew (Below.refl _ _)) (fun hH => ?_)
            have B0 : Hid (Below wr.heap.size wr wr.drew) := Lib.hid (Below.drew (Below.refl _ _))
            generalize wr.drew = V0 at *
            refine tk 0 (by assumption) rfl (by kernel_rfl) (fun _ _ _ h => h) (fun V hV => by obtain ⟨g0, g1⟩ := HKG.out V (HBW.out V hV); obtain ⟨c0, c1, c2, c3⟩ := HCK.out.kept (hV.block b HBL.out.1); go_simp; try with_reducible rfl) ?_
            try simp only [Act.put, List.setIfInBounds_toArray, List.set_cons_zero, List.set_cons_succ, List.getElem_toArray, List.getElem_cons_succ, List.getElem_cons_zero]
            refine tk 1 (by assumption) rfl (by kernel_rfl) (fun _ _ _ h => h) (fun V hV => by go_simp; try with_reducible rfl) ?_
            try simp only [Act.put, List.setIfInBounds_toArray, List.set_cons_zero, List.set_cons_succ, List.getElem_toArray, List.getElem_cons_succ, List.getElem_cons_zero]
            refine tk 2 (by assumption) rfl (by kernel_rfl) (fun _ _ _ h => h) (fun V hV => by obtain ⟨g0, g1⟩ := HKG.out V (HBW.out V hV); obtain ⟨c0, c1, c2, c3⟩ := HCK.out.kept (hV.block b HBL.out.1); go_simp; try with_reducible rfl) ?_
            try simp only [Act.put, List.setIfInBounds_toArray, List.set_cons_zero, List.set_cons_succ, List.getElem_toArray, List.getElem_cons_succ, List.getElem_cons_zero]
            refine tk 3 (by assumption) rfl (by kernel_rfl) (fun _ _ _ h => h) (fun V hV => by go_simp; try with_reducible rfl) ?_
            try simp only [Act.put, List.setIfInBounds_toArray, List.set_cons_zero, List.set_cons_succ, List.getElem_toArray, List.getElem_cons_succ, List.getElem_cons_zero]
            refine tk 4 (by assumption) rfl (by kernel_rfl) (fun _ _ _ h => h) (fun V hV => by go_simp; try with_reducible rfl) ?_
            try simp only [Act.put, List.setIfInBounds_toArray, List.set_cons_zero, List.set_cons_succ, List.getElem_toArray, List.getElem_cons_succ, List.getElem_cons_zero]
            refine tk 5 (by assumption) rfl (by kernel_rfl) (fun _ _ _ h => h) (fun V hV => by obtain ⟨g0, g1⟩ := HKG.out V (HBW.out V hV); obtain ⟨c0, c1, c2, c3⟩ := HCK.out.kept (hV.block b HBL.out.1); go_simp; try with_reducible rfl) ?_
            try simp only [Act.put, List.setIfInBounds_toArray, List.set_cons_zero, List.set_cons_succ, List.getElem_toArray, List.getElem_cons_succ, List.getElem_cons_zero]
            refine wpAnyH_ready (rs := [6]) (by kernel_rfl) (by simp) ?_
            refine AllReadyH.cons (o := _) rfl (fun K hK => ?_) AllReadyH.nil
            go_simp
            refine (rIsLive_any G.nodes na nc (some ⟨b, o, none⟩) G.links.length lc y V0 (HN.out V0 (HBW.out V0 B0.out)) HNP.out (by have := HSZ.out; omega)).mono ?_
            rintro e V5 ⟨rfl, hb⟩
            have B5 := Lib.hid (gNx B0.out hb)
            clear hb
            go_wp2_with fail
            refine hK.out _ _ B5.out (fun hH => ?_)
            clear hK K
            try simp only [Act.put, List.setIfInBounds_toArray, List.set_cons_zero, List.set_cons_succ, List.getElem_toArray, List.getElem_cons_succ, List.getElem_cons_zero]
            refine wpAnyH_done (by kernel_rfl) ?_ _
            cases hv : liveL G.nodes y with
            | false =>
              have HX := Lib.hid (HFI.out.trans (if_neg (by rw [hv]; decide)))
              clear HFI hv
              go_wp2_with fail
              refine ⟨⟨k + 1, vl, by simp, by omega, by rw [HX.out]; exact HGAW.out _ B5.out, HBW.out _ B5.out⟩, ?_⟩
              simp [RowKit.intOf]; omega
            | true =>
              have HX := Lib.hid (HFI.out.trans (if_pos hv))
              clear HFI hv
              go_upto_region 14 with (fail)
              have HSS : Hid (∀ V, Below wr.heap.size wr V → V.cell? ⟨w.heap.size, 1, none⟩ = some (.slice (some ⟨b, o, none⟩) G.links.length lc) ∧ LkAt V b (o + k * 4) y) := Lib.hid (fun V hV => ⟨(HKG.out V (HBW.out V hV)).2, HCK.out.kept (hV.block b HBL.out.1)⟩)
              have HSW : Hid (∀ V V', Below wr.heap.size wr V → Below bo V V' → V'.cell? ⟨w.heap.size, 1, none⟩ = some (.slice (some ⟨b, o, none⟩) G.links.length lc) ∧ LkAt V' b (o + k * 4) y) := Lib.hid (fun V V' hV hw => by
                obtain ⟨e1, e2⟩ := HSS.out V hV
                exact ⟨(hw.cell (p := ⟨w.heap.size, 1, none⟩) HBG.out).trans e1, e2.kept (hw.block b HBL.out.2)⟩)
              have HSX : Hid (∀ (V : World) (u : Value), (V.cell? ⟨w.heap.size, 1, none⟩ = some (.slice (some ⟨b, o, none⟩) G.links.length lc) ∧ LkAt V b (o + k * 4) y) → ((V.setCell ⟨bo, 1, none⟩ u).cell? ⟨w.heap.size, 1, none⟩ = some (.slice (some ⟨b, o, none⟩) G.links.length lc) ∧ LkAt (V.setCell ⟨bo, 1, none⟩ u) b (o + k * 4) y)) := Lib.hid (fun V u h => ⟨by rw [World.cell?_setCell_other _ _ _ _ (by intro e; simp only [Addr.mk.injEq] at e; have := HBG.out; omega)]; exact h.1, h.2.kept (Below.heap_setCell _ _ _ _ (by have := HBL.out.2; show b ≠ bo; omega))⟩)
              refine wp_region_held_drew (S := fun V => V.cell? ⟨w.heap.size, 1, none⟩ = some (.slice (some ⟨b, o, none⟩) G.links.length lc) ∧ LkAt V b (o + k * 4) y) (by kernel_rfl) (HSS.out V5.drew (Below.drew B5.out)) (fun hH => ?_)
              have B0 : Hid (Below wr.heap.size wr V5.drew) := Lib.hid (Below.drew B5.out)
              generalize V5.drew = V0 at *
              have HLD := Lib.hid (HGAW.out V0 B0.out).cells.2.1
              refine tk 0 (by assumption) rfl (by kernel_rfl) (fun _ _ _ h => h) (fun V hV => by go_simp; try with_reducible rfl) ?_
              try simp only [Act.put, List.setIfInBounds_toArray, List.set_cons_zero, List.set_cons_succ, List.getElem_toArray, List.getElem_cons_succ, List.getElem_cons_zero]
              refine tk 2 (by assumption) rfl (by kernel_rfl) (fun _ _ _ h => h) (fun V hV => by go_simp; try with_reducible rfl) ?_
              try simp only [Act.put, List.setIfInBounds_toArray, List.set_cons_zero, List.set_cons_succ, List.getElem_toArray, List.getElem_cons_succ, List.getElem_cons_zero]
              refine tk 3 (by assumption) rfl (by kernel_rfl) (fun _ _ _ h => h) (fun V hV => by obtain ⟨x0, x1⟩ := hV; obtain ⟨c0, c1, c2, c3⟩ := x1; go_simp; try with_reducible rfl) ?_
              try simp only [Act.put, List.setIfInBounds_toArray, List.set_cons_zero, List.set_cons_succ, List.getElem_toArray, List.getElem_cons_succ, List.getElem_cons_zero]
              refine tk 4 (by assumption) rfl (by kernel_rfl) (fun _ _ _ h => h) (fun V hV => by go_simp; try with_reducible rfl) ?_
              try simp only [Act.put, List.setIfInBounds_toArray, List.set_cons_zero, List.set_cons_succ, List.getElem_toArray, List.getElem_cons_succ, List.getElem_cons_zero]
              refine tk 5 (by assumption) rfl (by kernel_rfl) (fun _ _ _ h => h) (fun V hV => by go_simp; try with_reducible rfl) ?_
              try simp only [Act.put, List.setIfInBounds_toArray, List.set_cons_zero, List.set_cons_succ, List.getElem_toArray, List.getElem_cons_succ, List.getElem_cons_zero]
              refine tk 6 (by assumption) rfl (by kernel_rfl) (fun _ _ _ h => h) (fun V hV => by obtain ⟨x0, x1⟩ := hV; obtain ⟨c0, c1, c2, c3⟩ := x1; go_simp; try with_reducible rfl) ?_
              try simp only [Act.put, List.setIfInBounds_toArray, List.set_cons_zero, List.set_cons_succ, List.getElem_toArray, List.getElem_cons_succ, List.getElem_cons_zero]
              refine wpAnyH_ready (rs := [1, 7]) (by kernel_rfl) (by simp) ?_
              refine AllReadyH.cons (o := _) rfl (fun K hK => ?_) (AllReadyH.cons (o := _) rfl (fun K hK => ?_) (AllReadyH.nil))
              · have hx := HLD.out
                go_simp
                refine hK.out _ _ hH (fun hH => ?_)
                clear hK K
                try simp only [Act.put, List.setIfInBounds_toArray, List.set_cons_zero, List.set_cons_succ, List.getElem_toArray, List.getElem_cons_succ, List.getElem_cons_zero]
                refine wpAnyH_ready (rs := [7]) (by kernel_rfl) (by simp) ?_
                refine AllReadyH.cons (o := _) rfl (fun K hK => ?_) AllReadyH.nil
                go_simp
                obtain ⟨V9, hV9⟩ : ∃ V9, V9 = V0.alloc (.cells #[.int .i64 y.a, .int .i64 y.b, .float .f64 y.w, .bool y.up] 54) := ⟨_, rfl⟩
                rw [← hV9]
                have B9 : Hid (Below wr.heap.size wr V9) := Lib.hid (by rw [hV9]; exact gNx B0.out (gAl _ _))
                have HV9 : Hid (V9.heap[V0.heap.size]? = some (.cells (lkC y).toArray 54 (0, 0))) := Lib.hid (by rw [hV9]; exact heap_alloc_new V0 _)
                clear hV9
                have HS9 := Lib.hid (HSS.out V9 B9.out)
                have HLD := Lib.hid (HGAW.out V9 B9.out).cells.2.1
                refine hK.out _ _ HS9.out (fun hH => ?_)
                clear hK K
                try simp only [Act.put, List.setIfInBounds_toArray, List.set_cons_zero, List.set_cons_succ, List.getElem_toArray, List.getElem_cons_succ, List.getElem_cons_zero]
                refine wpAnyH_ready (rs := [8]) (by kernel_rfl) (by simp) ?_
                refine AllReadyH.cons (o := _) rfl (fun K hK => ?_) AllReadyH.nil
                obtain ⟨a2, c9, V6, hrun, hg6, hga6, hb6⟩ := (HGAW.out V9 B9.out).addL y HV9.out HFIT.out HWY.out
                refine step_append_r rfl _ _ 23 23 rfl vl (.slice (some ⟨V0.heap.size, 0, none⟩) 1 1) (by simp [Act.eval, Act.put]) (by simp [Act.eval, Act.put]) (hrun _) ?_
                clear hrun
                have HG6 := Lib.hid hga6
                have HB6 := Lib.hid hb6
                have HX6 := Lib.hid hg6
                clear hga6 hb6 hg6
                have HS6 := Lib.hid (HSW.out V9 V6 B9.out HB6.out)
                refine hK.out _ _ HS6.out (fun hH => ?_)
                clear hK K
                try simp only [Act.put, List.setIfInBounds_toArray, List.set_cons_zero, List.set_cons_succ, List.getElem_toArray, List.getElem_cons_succ, List.getElem_cons_zero]
                refine tk 9 (by assumption) rfl (by kernel_rfl) (fun _ _ _ h => h) (fun V hV => by go_simp; try with_reducible rfl) ?_
                try simp only [Act.put, List.setIfInBounds_toArray, List.set_cons_zero, List.set_cons_succ, List.getElem_toArray, List.getElem_cons_succ, List.getElem_cons_zero]
                refine wpAnyH_ready (rs := [10]) (by kernel_rfl) (by simp) ?_
                refine AllReadyH.cons (o := _) rfl (fun K hK => ?_) AllReadyH.nil
                have d0 : V6.cell? ⟨bo, 1, none⟩ = some vl := by rw [cell_of_row V6 _ 1 _ _ (0, 0) HX6.out]; rfl
                have d1 : V6.frozen? ⟨bo, 1, none⟩ = false := frozen_of_row V6 _ _ _ _ HX6.out
                go_simp
                refine hK.out _ _ (HSX.out _ _ HS6.out) (fun hH => ?_)
                clear hK K
                try simp only [Act.put, List.setIfInBounds_toArray, List.set_cons_zero, List.set_cons_succ, List.getElem_toArray, List.getElem_cons_succ, List.getElem_cons_zero]
                refine wpAnyH_done (by kernel_rfl) ?_ _
                go_wp2_with fail
                refine ⟨⟨k + 1, _, by simp, by omega, by rw [HX.out]; exact HG6.out, ((HBW.out _ B9.out).trans (HB6.out.mono HBO.out)).setCell HBO.out _⟩, ?_⟩
                simp [RowKit.intOf]; omega
              · go_simp
                obtain ⟨V9, hV9⟩ : ∃ V9, V9 = V0.alloc (.cells #[.int .i64 y.a, .int .i64 y.b, .float .f64 y.w, .bool y.up] 54) := ⟨_, rfl⟩
                rw [← hV9]
                have B9 : Hid (Below wr.heap.size wr V9) := Lib.hid (by rw [hV9]; exact gNx B0.out (gAl _ _))
                have HV9 : Hid (V9.heap[V0.heap.size]? = some (.cells (lkC y).toArray 54 (0, 0))) := Lib.hid (by rw [hV9]; exact heap_alloc_new V0 _)
                clear hV9
                have HS9 := Lib.hid (HSS.out V9 B9.out)
                have HLD := Lib.hid (HGAW.out V9 B9.out).cells.2.1
                refine hK.out _ _ HS9.out (fun hH => ?_)
                clear hK K
                try simp only [Act.put, List.setIfInBounds_toArray, List.set_cons_zero, List.set_cons_succ, List.getElem_toArray, List.getElem_cons_succ, List.getElem_cons_zero]
                refine wpAnyH_ready (rs := [1]) (by kernel_rfl) (by simp) ?_
                refine AllReadyH.cons (o := _) rfl (fun K hK => ?_) AllReadyH.nil
                have hx := HLD.out
                go_simp
                refine hK.out _ _ hH (fun hH => ?_)
                clear hK K
                try simp only [Act.put, List.setIfInBounds_toArray, List.set_cons_zero, List.set_cons_succ, List.getElem_toArray, List.getElem_cons_succ, List.getElem_cons_zero]
                refine wpAnyH_ready (rs := [8]) (by kernel_rfl) (by simp) ?_
                refine AllReadyH.cons (o := _) rfl (fun K hK => ?_) AllReadyH.nil
                obtain ⟨a2, c9, V6, hrun, hg6, hga6, hb6⟩ := (HGAW.out V9 B9.out).addL y HV9.out HFIT.out HWY.out
                refine step_append_r rfl _ _ 23 23 rfl vl (.slice (some ⟨V0.heap.size, 0, none⟩) 1 1) (by simp [Act.eval, Act.put]) (by simp [Act.eval, Act.put]) (hrun _) ?_
                clear hrun
                have HG6 := Lib.hid hga6
                have HB6 := Lib.hid hb6
                have HX6 := Lib.hid hg6
                clear hga6 hb6 hg6
                have HS6 := Lib.hid (HSW.out V9 V6 B9.out HB6.out)
                refine hK.out _ _ HS6.out (fun hH => ?_)
                clear hK K
                try simp only [Act.put, List.setIfInBounds_toArray, List.set_cons_zero, List.set_cons_succ, List.getElem_toArray, List.getElem_cons_succ, List.getElem_cons_zero]
                refine tk 9 (by assumption) rfl (by kernel_rfl) (fun _ _ _ h => h) (fun V hV => by go_simp; try with_reducible rfl) ?_
                try simp only [Act.put, List.setIfInBounds_toArray, List.set_cons_zero, List.set_cons_succ, List.getElem_toArray, List.getElem_cons_succ, List.getElem_cons_zero]
                refine wpAnyH_ready (rs := [10]) (by kernel_rfl) (by simp) ?_
                refine AllReadyH.cons (o := _) rfl (fun K hK => ?_) AllReadyH.nil
                have d0 : V6.cell? ⟨bo, 1, none⟩ = some vl := by rw [cell_of_row V6 _ 1 _ _ (0, 0) HX6.out]; rfl
                have d1 : V6.frozen? ⟨bo, 1, none⟩ = false := frozen_of_row V6 _ _ _ _ HX6.out
                go_simp
                refine hK.out _ _ (HSX.out _ _ HS6.out) (fun hH => ?_)
                clear hK K
                try simp only [Act.put, List.setIfInBounds_toArray, List.set_cons_zero, List.set_cons_succ, List.getElem_toArray, List.getElem_cons_succ, List.getElem_cons_zero]
                refine wpAnyH_done (by kernel_rfl) ?_ _
                go_wp2_with fail
                refine ⟨⟨k + 1, _, by simp, by omega, by rw [HX.out]; exact HG6.out, ((HBW.out _ B9.out).trans (HB6.out.mono HBO.out)).setCell HBO.out _⟩, ?_⟩
                simp [RowKit.intOf]; omega
          · have hnk : ¬ (k : Int) < (G.links.length : Int) := by omega
            have htk : G.links.take k = G.links := List.take_of_length_le (by omega)
            rw [htk] at hga
            have hga2 : GrAt wr bo bo vn vl (liveG G) := hga
            have HGA2 := Lib.hid hga2
            obtain ⟨d0, d1, -, -⟩ := hga2.cells
            obtain ⟨an, cn, rfl⟩ := hga2.nodes.slice
            obtain ⟨al, cl, rfl⟩ := hga2.links.slice
            have hres := HRS.out wr hbel
            have x0 : wr.cell? ⟨br, 0, none⟩ = some (.slice none 0 0) := by rw [cell_of_row wr _ 0 _ _ (0, 0) hres]; rfl
            have x1 : wr.cell? ⟨br, 1, none⟩ = some (.slice none 0 0) := by rw [cell_of_row wr _ 1 _ _ (0, 0) hres]; rfl
            have x2 := frozen_of_row wr br 0 _ _ hres
            have x3 := frozen_of_row wr br 1 _ _ hres
            have HRES := Lib.hid hres
            have HBE2 := Lib.hid hbel
            have HBO2 : Hid (w.heap.size ≤ bo) := Lib.hid (Nat.le_trans HBR.out.2.2.2 HBO.out)
            obtain ⟨g0, g1⟩ := HKG.out wr hbel
            clear hlt htk hga hga2 hbel hres
            go_wp2_with fail
            have hq1 := heap_setCell_same wr br 0 _ _ (.slice an (liveG G).nodes.length cn) HRES.out
            have hq2 := heap_setCell_same _ br 1 _ _ (.slice al (liveG G).links.length cl) hq1
            refine bodyPost_ret (results_cell2 Try.results20 _ _ br 0 [.slice an (liveG G).nodes.length cn, .slice al (liveG G).links.length cl] _ rfl ?_ Try.underlying25 (by rfl) (by kernel_rfl)) rfl ?_
            · intro j v hj
              match j with
              | 0 => simp at hj; subst hj; rw [cell_of_row _ _ _ _ _ (0, 0) hq2]; rfl
              | 1 => simp at hj; subst hj; rw [cell_of_row _ _ _ _ _ (0, 0) hq2]; rfl
              | j + 2 => simp at hj
            · exact ⟨_, _, rfl, ((HGA2.out.v.mono HBO2.out).set HRES.out).set hq1, ((HWB.out wr HBE2.out).setCell HBR.out.2.1 _).setCell HBR.out.2.1 _⟩
end Go.Proofs.Ytgjpgpjdealbeaa
