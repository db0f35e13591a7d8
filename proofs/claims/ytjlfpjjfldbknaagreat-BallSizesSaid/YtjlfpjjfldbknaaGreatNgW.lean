/- Graphs: the document's Copy. -/
import Derived.Test.YtjlfpjjfldbknaaGreatOwB
namespace Go.Proofs.YtjlfpjjfldbknaaGreat
open Go.RowKit Go.Lib Go.Fq Go.Iq Go.Nq Go.Ow
set_option linter.unusedVariables false
set_option linter.unusedSimpArgs false
set_option maxRecDepth 100000

theorem ndRow_snoc (l : List Nd) (x : Nd) : ndRow (l ++ [x]) = ndRow l ++ ndC x := by simp [ndRow]
theorem lkRow_snoc (l : List Lk) (x : Lk) : lkRow (l ++ [x]) = lkRow l ++ lkC x := by simp [lkRow]
set_option maxHeartbeats 8000000 in
theorem rCopy_any (G : Gr) (na la : Option Addr) (nc lc : Nat) (w : World) (hN : NodesIn w w.heap.size G.nodes na) (hL : LinksIn w w.heap.size G.links la) (hq : ∀ y ∈ G.links, y.w < 2 ^ 64) (hn1 : G.nodes.length * 16 ≤ 140737488355328) (hl1 : G.links.length * 32 ≤ 140737488355328) :
    Calls Tryz.prog 8 #[.agg #[.slice na G.nodes.length nc, .slice la G.links.length lc]] w fun e w' => ∃ vn vl, e = .returned (.agg #[vn, vl]) ∧ GrV w' w.heap.size vn vl G ∧ Below w.heap.size w w' := by
  have hst := g_storeL
  obtain ⟨W1, hW1⟩ : ∃ W1, W1 = w.alloc (.cells #[.slice na G.nodes.length nc, .slice la G.links.length lc] 25) := ⟨_, rfl⟩
  obtain ⟨W2, hW2⟩ : ∃ W2, W2 = W1.alloc (.cells #[.slice none 0 0, .slice none 0 0] 25) := ⟨_, rfl⟩
  obtain ⟨W3, hW3⟩ : ∃ W3, W3 = W2.alloc (.cells #[.slice none 0 0, .slice none 0 0] 25) := ⟨_, rfl⟩
  have b1 : Below w.heap.size w W1 := by rw [hW1]; exact gAl _ _
  have b2 : Below W1.heap.size W1 W2 := by rw [hW2]; exact gAl _ _
  have b3 : Below W2.heap.size W2 W3 := by rw [hW3]; exact gAl _ _
  have s1 : W1.heap.size = w.heap.size + 1 := by rw [hW1]; simp
  have s2 : W2.heap.size = W1.heap.size + 1 := by rw [hW2]; simp
  have r1 : W1.heap[w.heap.size]? = some (.cells #[.slice na G.nodes.length nc, .slice la G.links.length lc] 25 (0, 0)) := by rw [hW1]; exact heap_alloc_new w _
  have r2 : W2.heap[W1.heap.size]? = some (.cells #[.slice none 0 0, .slice none 0 0] 25 (0, 0)) := by rw [hW2]; exact heap_alloc_new W1 _
  have r3 : W3.heap[W2.heap.size]? = some (.cells #[.slice none 0 0, .slice none 0 0] 25 (0, 0)) := by rw [hW3]; exact heap_alloc_new W2 _
  have hb3 : Below w.heap.size w W3 := (b1.trans (b2.mono (by omega))).trans (b3.mono (by omega))
  have q1 : W3.heap[w.heap.size]? = some (.cells #[.slice na G.nodes.length nc, .slice la G.links.length lc] 25 (0, 0)) := (b3.block _ (by omega)).trans ((b2.block _ (by omega)).trans r1)
  have q2 : W3.heap[W1.heap.size]? = some (.cells #[.slice none 0 0, .slice none 0 0] 25 (0, 0)) := (b3.block _ (by omega)).trans r2
  obtain ⟨bo, hbo⟩ : ∃ bo, bo = W2.heap.size := ⟨_, rfl⟩
  obtain ⟨br, hbr⟩ : ∃ br, br = W1.heap.size := ⟨_, rfl⟩
  rw [← hbo] at r3
  have HBG : Hid (w.heap.size < bo ∧ w.heap.size ≤ bo) := Lib.hid (by omega)
  have HBR : Hid (br < bo ∧ w.heap.size ≤ br ∧ br ≠ w.heap.size) := Lib.hid (by omega)
  have HQ1 := Lib.hid q1
  have HQ2 : Hid (W3.heap[br]? = some (.cells #[.slice none 0 0, .slice none 0 0] 25 (0, 0))) := Lib.hid (by rw [hbr]; exact q2)
  have hga0 : GrAt W3 bo bo (.slice none 0 0) (.slice none 0 0) gr0 := ⟨Nat.le_refl _, r3, (grv_0 _ _).nodes, (grv_0 _ _).links, (grv_0 W3 0).wts⟩
  have HGA0 := Lib.hid hga0
  have HB3 := Lib.hid hb3
  have HKG : Hid (∀ V, Below bo W3 V → V.cell? ⟨w.heap.size, 0, none⟩ = some (.slice na G.nodes.length nc) ∧ V.cell? ⟨w.heap.size, 1, none⟩ = some (.slice la G.links.length lc)) := Lib.hid (fun V hV => by
    have := (hV.block w.heap.size (by omega)).trans q1
    exact ⟨by rw [cell_of_row V _ 0 _ _ (0, 0) this]; rfl, by rw [cell_of_row V _ 1 _ _ (0, 0) this]; rfl⟩)
  have HN := Lib.hid hN
  have HL := Lib.hid hL
  have HQ := Lib.hid hq
  have HSZ : Hid (G.nodes.length * 16 ≤ 140737488355328 ∧ G.links.length * 32 ≤ 140737488355328) := Lib.hid ⟨hn1, hl1⟩
  clear hN hL hq hn1 hl1 b1 b2 b3 r1 r2 r3 q1 q2 hga0
  go_enter Tryz.func8, Tryz.ntmps8
  go_upto_region 1 with (fail)
  rw [← hW1, ← hW2, ← s1, ← hbr]
  clear hW1 hW2 s1 s2 hbr
  go_upto_region 2 with (fail)
  rw [← hW3, ← hbo]
  clear hW3 hbo
  go_wp2_with fail
  go_loopw [4] (fun v wr => ∃ (k : Nat) (vn : Value), v = .int .i64 (k : Int) ∧ k ≤ G.nodes.length ∧ GrAt wr bo bo vn (.slice none 0 0) ⟨G.nodes.take k, []⟩ ∧ Below bo W3 wr) (fun v _ => G.nodes.length - (RowKit.intOf v).toNat)
  case atStart => exact ⟨0, _, rfl, by omega, HGA0.out, Below.refl _ _⟩
  case round =>
    obtain ⟨k, vn, rfl, hk, hga, hbel⟩ := hrel
    have HLT : Hid (bo ≤ wr.heap.size) := Lib.hid (Nat.le_of_lt hga.lt)
    have hb3 := HB3.out
    obtain ⟨g0, g1⟩ := HKG.out wr hbel
    by_cases hlt : k < G.nodes.length
    · have hlti : (k : Int) < (G.nodes.length : Int) := by omega
      have hk0 : (0 : Int) ≤ (k : Int) := by omega
      have hkw : IntKind.i64.wrap ((k : Int) + 1) = (k : Int) + 1 := by rw [IntKind.wrap_i64]; have := HSZ.out; omega
      obtain ⟨b, o, rfl, hb, hc⟩ := HN.out.at k hlt
      have hck := hc k hlt
      have HSS : Hid (∀ V, Below wr.heap.size wr V → V.cell? ⟨w.heap.size, 0, none⟩ = some (.slice (some ⟨b, o, none⟩) G.nodes.length nc) ∧ NdAt V b (o + k * 3) G.nodes[k]) := Lib.hid (fun V hV => ⟨(HKG.out V (hbel.trans (hV.mono HLT.out))).1, hck.kept (((hb3.trans (hbel.mono HBG.out.2)).trans (hV.mono (Nat.le_trans HBG.out.2 HLT.out))).block b hb)⟩)
      have HGA : Hid (∀ V, Below wr.heap.size wr V → GrAt V bo bo vn (.slice none 0 0) ⟨G.nodes.take k, []⟩) := Lib.hid (fun V hV => hga.below hV)
      have HBO : Hid (∀ V, Below wr.heap.size wr V → bo ≤ V.heap.size) := Lib.hid (fun V hV => Nat.le_of_lt (hga.below hV).lt)
      have hkl : (G.nodes.take k).length = k := by rw [List.length_take]; omega
      have htk : G.nodes.take (k + 1) = G.nodes.take k ++ [G.nodes[k]] := by rw [List.take_add_one, List.getElem?_eq_getElem hlt]; rfl
      have HFIT : Hid ((k + 1) * 16 ≤ 140737488355328 ∧ k < 4611686018427387904) := Lib.hid (by have := HSZ.out; omega)
      have HON : Hid (∀ V, GrAt V bo bo vn (.slice none 0 0) ⟨G.nodes.take k, []⟩ → Own V bo 60 3 vn k (ndRow (G.nodes.take k))) := Lib.hid (fun V h => by
        have h1 : Own V bo 60 3 vn (G.nodes.take k).length (ndRow (G.nodes.take k)) := h.nodes
        rw [hkl] at h1
        exact h1)
      have hkl1 : (G.nodes.take (k + 1)).length = k + 1 := by rw [List.length_take]; omega
      have HOX : Hid (∀ (V : World) v', Own V bo 60 3 v' (k + 1) (ndRow (G.nodes.take k) ++ ndC G.nodes[k]) → Own V bo 60 3 v' (G.nodes.take (k + 1)).length (ndRow (G.nodes.take (k + 1)))) := Lib.hid (fun V v' h => by rw [hkl1, htk, ndRow_snoc]; exact h)
      have HSW : Hid (∀ V V', Below wr.heap.size wr V → Wr bo 60 V V' → V'.cell? ⟨w.heap.size, 0, none⟩ = some (.slice (some ⟨b, o, none⟩) G.nodes.length nc) ∧ NdAt V' b (o + k * 3) G.nodes[k]) := Lib.hid (fun V V' hV hw => by
        obtain ⟨e1, e2⟩ := HSS.out V hV
        have hlo := hw.below (HBO.out V hV)
        exact ⟨(hlo.cell (p := ⟨w.heap.size, 0, none⟩) HBG.out.1).trans e1, e2.kept (hlo.block b (by have := HBG.out.1; omega))⟩)
      have HSX : Hid (∀ (V : World) (u : Value), (V.cell? ⟨w.heap.size, 0, none⟩ = some (.slice (some ⟨b, o, none⟩) G.nodes.length nc) ∧ NdAt V b (o + k * 3) G.nodes[k]) → ((V.setCell ⟨bo, 0, none⟩ u).cell? ⟨w.heap.size, 0, none⟩ = some (.slice (some ⟨b, o, none⟩) G.nodes.length nc) ∧ NdAt (V.setCell ⟨bo, 0, none⟩ u) b (o + k * 3) G.nodes[k])) := Lib.hid (fun V u h => ⟨by rw [World.cell?_setCell_other _ _ _ _ (by intro e; simp only [Addr.mk.injEq] at e; have := HBG.out.1; omega)]; exact h.1, h.2.kept (Below.heap_setCell _ _ _ _ (by have := HBG.out.1; show b ≠ bo; omega))⟩)
      have HNEW : Hid (∀ (V : World) v', GrAt V bo bo v' (.slice none 0 0) { (⟨G.nodes.take k, []⟩ : Gr) with nodes := G.nodes.take (k + 1) } → GrAt V bo bo v' (.slice none 0 0) ⟨G.nodes.take (k + 1), []⟩) := Lib.hid (fun V v' h => h)
      have HBB : Hid (∀ V V', Below wr.heap.size wr V → Wr bo 60 V V' → ∀ {o2 : Nat} {u : Value}, Below bo W3 (V'.setCell ⟨bo, o2, none⟩ u)) := Lib.hid (fun V V' hV hw o2 u => ((hbel.trans (hV.mono HLT.out)).trans (hw.below (HBO.out V hV))).setCell (Nat.le_refl _) _)
      clear hc hck hga hbel hkl hkl1 htk hb
      generalize G.nodes[k] = nd at *
      go_upto_region 5 with (fail)
      clear g0 g1
      refine wp_region_held_drew (S := fun V => V.cell? ⟨w.heap.size, 0, none⟩ = some (.slice (some ⟨b, o, none⟩) G.nodes.length nc) ∧ NdAt V b (o + k * 3) nd) (by kernel_rfl) (HSS.out wr.drew (Below.drew (Below.refl _ _))) (fun hH => ?_)
      have B0 : Hid (Below wr.heap.size wr wr.drew) := Lib.hid (Below.drew (Below.refl _ _))
      generalize wr.drew = V0 at *
      have HLD := Lib.hid (HGA.out V0 B0.out).cells.1
      refine tk 0 (by assumption) rfl (by kernel_rfl) (fun _ _ _ h => h) (fun V hV => by go_simp; try with_reducible rfl) ?_
      try simp only [Act.put, sqA, sqB, sqC, sqD, sqE, sqF]
      refine tk 2 (by assumption) rfl (by kernel_rfl) (fun _ _ _ h => h) (fun V hV => by go_simp; try with_reducible rfl) ?_
      try simp only [Act.put, sqA, sqB, sqC, sqD, sqE, sqF]
      refine tk 3 (by assumption) rfl (by kernel_rfl) (fun _ _ _ h => h) (fun V hV => by obtain ⟨x0, x1⟩ := hV; obtain ⟨c0, c1, c2⟩ := x1; go_simp; try with_reducible rfl) ?_
      try simp only [Act.put, sqA, sqB, sqC, sqD, sqE, sqF]
      refine tk 4 (by assumption) rfl (by kernel_rfl) (fun _ _ _ h => h) (fun V hV => by go_simp; try with_reducible rfl) ?_
      try simp only [Act.put, sqA, sqB, sqC, sqD, sqE, sqF]
      refine tk 5 (by assumption) rfl (by kernel_rfl) (fun _ _ _ h => h) (fun V hV => by go_simp; try with_reducible rfl) ?_
      try simp only [Act.put, sqA, sqB, sqC, sqD, sqE, sqF]
      refine tk 6 (by assumption) rfl (by kernel_rfl) (fun _ _ _ h => h) (fun V hV => by obtain ⟨x0, x1⟩ := hV; obtain ⟨c0, c1, c2⟩ := x1; go_simp; try with_reducible rfl) ?_
      try simp only [Act.put, sqA, sqB, sqC, sqD, sqE, sqF]
      refine wpAnyH_ready (rs := [1, 7]) (by kernel_rfl) (by simp) ?_
      refine AllReadyH.cons (o := _) rfl (fun K hK => ?_) (AllReadyH.cons (o := _) rfl (fun K hK => ?_) (AllReadyH.nil))
      · have hx := HLD.out
        go_simp
        refine hK.out _ _ hH (fun hH => ?_)
        clear hK K
        try simp only [Act.put, sqA, sqB, sqC, sqD, sqE, sqF]
        refine wpAnyH_ready (rs := [7]) (by kernel_rfl) (by simp) ?_
        refine AllReadyH.cons (o := _) rfl (fun K hK => ?_) AllReadyH.nil
        go_simp
        obtain ⟨V9, hV9⟩ : ∃ V9, V9 = V0.alloc (.cells #[.int .i64 nd.id, .bool nd.up, .bool nd.mark] 60) := ⟨_, rfl⟩
        rw [← hV9]
        have B9 : Hid (Below V0.heap.size V0 V9) := Lib.hid (by rw [hV9]; exact gAl _ _)
        have HV9 : Hid (V9.heap[V0.heap.size]? = some (.cells (ndC nd).toArray 60 (0, 0))) := Lib.hid (by rw [hV9]; exact heap_alloc_new V0 _)
        clear hV9
        have HG9 := Lib.hid (HGA.out V9 (gNx B0.out B9.out))
        have HS9 := Lib.hid (HSS.out V9 ((gNx B0.out B9.out)))
        have HLD := Lib.hid HG9.out.cells.1
        refine hK.out _ _ HS9.out (fun hH => ?_)
        clear hK K
        try simp only [Act.put, sqA, sqB, sqC, sqD, sqE, sqF]
        refine wpAnyH_ready (rs := [8]) (by kernel_rfl) (by simp) ?_
        refine AllReadyH.cons (o := _) rfl (fun K hK => ?_) AllReadyH.nil
        obtain ⟨v2, V10, hrun, ho, hw⟩ := own_append (P := Tryz.prog) Tryz.underlying22 ndInfo rfl (HON.out V9 HG9.out) (HBO.out V9 (gNx B0.out B9.out)) HV9.out rfl (ndC_one _) HFIT.out.1 HFIT.out.2
        refine step_append_r rfl _ _ 22 22 rfl vn (.slice (some ⟨V0.heap.size, 0, none⟩) 1 1) (by simp [Act.eval, Act.put]) (by simp [Act.eval, Act.put]) (hrun _) ?_
        clear hrun
        obtain ⟨va, vc, rfl⟩ := ho.slice
        have HO := Lib.hid ho
        have HW := Lib.hid hw
        have HGX := Lib.hid (hw.kept HG9.out.gb (by decide))
        clear ho hw
        have HS10 := Lib.hid (HSW.out V9 V10 (gNx B0.out B9.out) HW.out)
        refine hK.out _ _ HS10.out (fun hH => ?_)
        clear hK K
        try simp only [Act.put, sqA, sqB, sqC, sqD, sqE, sqF]
        refine tk 9 (by assumption) rfl (by kernel_rfl) (fun _ _ _ h => h) (fun V hV => by go_simp; try with_reducible rfl) ?_
        try simp only [Act.put, sqA, sqB, sqC, sqD, sqE, sqF]
        refine wpAnyH_ready (rs := [10]) (by kernel_rfl) (by simp) ?_
        refine AllReadyH.cons (o := _) rfl (fun K hK => ?_) AllReadyH.nil
        have d0 : V10.cell? ⟨bo, 0, none⟩ = some vn := by rw [cell_of_row V10 _ 0 _ _ (0, 0) HGX.out]; rfl
        have d1 : V10.frozen? ⟨bo, 0, none⟩ = false := frozen_of_row V10 _ _ _ _ HGX.out
        go_simp
        refine hK.out _ _ (HSX.out _ _ HS10.out) (fun hH => ?_)
        clear hK K
        try simp only [Act.put, sqA, sqB, sqC, sqD, sqE, sqF]
        refine wpAnyH_done (by kernel_rfl) ?_ _
        go_wp2_with fail
        refine ⟨⟨k + 1, _, by simp, by omega, HNEW.out _ _ (HG9.out.putN HW.out (HOX.out _ _ HO.out)), HBB.out _ _ (gNx B0.out B9.out) HW.out⟩, ?_⟩
        simp [RowKit.intOf]; omega
      · go_simp
        obtain ⟨V9, hV9⟩ : ∃ V9, V9 = V0.alloc (.cells #[.int .i64 nd.id, .bool nd.up, .bool nd.mark] 60) := ⟨_, rfl⟩
        rw [← hV9]
        have B9 : Hid (Below V0.heap.size V0 V9) := Lib.hid (by rw [hV9]; exact gAl _ _)
        have HV9 : Hid (V9.heap[V0.heap.size]? = some (.cells (ndC nd).toArray 60 (0, 0))) := Lib.hid (by rw [hV9]; exact heap_alloc_new V0 _)
        clear hV9
        have HG9 := Lib.hid (HGA.out V9 (gNx B0.out B9.out))
        have HS9 := Lib.hid (HSS.out V9 ((gNx B0.out B9.out)))
        have HLD := Lib.hid HG9.out.cells.1
        refine hK.out _ _ HS9.out (fun hH => ?_)
        clear hK K
        try simp only [Act.put, sqA, sqB, sqC, sqD, sqE, sqF]
        refine wpAnyH_ready (rs := [1]) (by kernel_rfl) (by simp) ?_
        refine AllReadyH.cons (o := _) rfl (fun K hK => ?_) AllReadyH.nil
        have hx := HLD.out
        go_simp
        refine hK.out _ _ hH (fun hH => ?_)
        clear hK K
        try simp only [Act.put, sqA, sqB, sqC, sqD, sqE, sqF]
        refine wpAnyH_ready (rs := [8]) (by kernel_rfl) (by simp) ?_
        refine AllReadyH.cons (o := _) rfl (fun K hK => ?_) AllReadyH.nil
        obtain ⟨v2, V10, hrun, ho, hw⟩ := own_append (P := Tryz.prog) Tryz.underlying22 ndInfo rfl (HON.out V9 HG9.out) (HBO.out V9 (gNx B0.out B9.out)) HV9.out rfl (ndC_one _) HFIT.out.1 HFIT.out.2
        refine step_append_r rfl _ _ 22 22 rfl vn (.slice (some ⟨V0.heap.size, 0, none⟩) 1 1) (by simp [Act.eval, Act.put]) (by simp [Act.eval, Act.put]) (hrun _) ?_
        clear hrun
        obtain ⟨va, vc, rfl⟩ := ho.slice
        have HO := Lib.hid ho
        have HW := Lib.hid hw
        have HGX := Lib.hid (hw.kept HG9.out.gb (by decide))
        clear ho hw
        have HS10 := Lib.hid (HSW.out V9 V10 (gNx B0.out B9.out) HW.out)
        refine hK.out _ _ HS10.out (fun hH => ?_)
        clear hK K
        try simp only [Act.put, sqA, sqB, sqC, sqD, sqE, sqF]
        refine tk 9 (by assumption) rfl (by kernel_rfl) (fun _ _ _ h => h) (fun V hV => by go_simp; try with_reducible rfl) ?_
        try simp only [Act.put, sqA, sqB, sqC, sqD, sqE, sqF]
        refine wpAnyH_ready (rs := [10]) (by kernel_rfl) (by simp) ?_
        refine AllReadyH.cons (o := _) rfl (fun K hK => ?_) AllReadyH.nil
        have d0 : V10.cell? ⟨bo, 0, none⟩ = some vn := by rw [cell_of_row V10 _ 0 _ _ (0, 0) HGX.out]; rfl
        have d1 : V10.frozen? ⟨bo, 0, none⟩ = false := frozen_of_row V10 _ _ _ _ HGX.out
        go_simp
        refine hK.out _ _ (HSX.out _ _ HS10.out) (fun hH => ?_)
        clear hK K
        try simp only [Act.put, sqA, sqB, sqC, sqD, sqE, sqF]
        refine wpAnyH_done (by kernel_rfl) ?_ _
        go_wp2_with fail
        refine ⟨⟨k + 1, _, by simp, by omega, HNEW.out _ _ (HG9.out.putN HW.out (HOX.out _ _ HO.out)), HBB.out _ _ (gNx B0.out B9.out) HW.out⟩, ?_⟩
        simp [RowKit.intOf]; omega
    · have hnk : ¬ (k : Int) < (G.nodes.length : Int) := by omega
      have htk : G.nodes.take k = G.nodes := List.take_of_length_le (by omega)
      rw [htk] at hga
      have HGA1 : Hid (GrAt wr bo bo vn (.slice none 0 0) ⟨G.nodes, []⟩) := Lib.hid hga
      have HBE1 := Lib.hid hbel
      clear hlt htk hga hbel hb3
      go_wp2_with fail
      clear g0 g1
      go_loopw [5] (fun v wr => ∃ (k : Nat) (vl : Value), v = .int .i64 (k : Int) ∧ k ≤ G.links.length ∧ GrAt wr bo bo vn vl ⟨G.nodes, G.links.take k⟩ ∧ Below bo W3 wr) (fun v _ => G.links.length - (RowKit.intOf v).toNat)
      case atStart => exact ⟨0, _, rfl, by omega, HGA1.out, HBE1.out⟩
      case round =>
        obtain ⟨k, vl, rfl, hk, hga, hbel⟩ := hrel
        have HLT : Hid (bo ≤ wr.heap.size) := Lib.hid (Nat.le_of_lt hga.lt)
        have hb3 := HB3.out
        obtain ⟨g0, g1⟩ := HKG.out wr hbel
        by_cases hlt : k < G.links.length
        · have hlti : (k : Int) < (G.links.length : Int) := by omega
          have hk0 : (0 : Int) ≤ (k : Int) := by omega
          have hkw : IntKind.i64.wrap ((k : Int) + 1) = (k : Int) + 1 := by rw [IntKind.wrap_i64]; have := HSZ.out; omega
          obtain ⟨b, o, rfl, hb, hc⟩ := HL.out.at k hlt
          have hck := hc k hlt
          have HSS : Hid (∀ V, Below wr.heap.size wr V → V.cell? ⟨w.heap.size, 1, none⟩ = some (.slice (some ⟨b, o, none⟩) G.links.length lc) ∧ LkAt V b (o + k * 4) G.links[k]) := Lib.hid (fun V hV => ⟨(HKG.out V (hbel.trans (hV.mono HLT.out))).2, hck.kept (((hb3.trans (hbel.mono HBG.out.2)).trans (hV.mono (Nat.le_trans HBG.out.2 HLT.out))).block b hb)⟩)
          have HGA : Hid (∀ V, Below wr.heap.size wr V → GrAt V bo bo vn vl ⟨G.nodes, G.links.take k⟩) := Lib.hid (fun V hV => hga.below hV)
          have HBO : Hid (∀ V, Below wr.heap.size wr V → bo ≤ V.heap.size) := Lib.hid (fun V hV => Nat.le_of_lt (hga.below hV).lt)
          have hkl : (G.links.take k).length = k := by rw [List.length_take]; omega
          have htk : G.links.take (k + 1) = G.links.take k ++ [G.links[k]] := by rw [List.take_add_one, List.getElem?_eq_getElem hlt]; rfl
          have HFIT : Hid ((k + 1) * 32 ≤ 140737488355328 ∧ k < 4611686018427387904) := Lib.hid (by have := HSZ.out; omega)
          have HON : Hid (∀ V, GrAt V bo bo vn vl ⟨G.nodes, G.links.take k⟩ → Own V bo 62 4 vl k (lkRow (G.links.take k))) := Lib.hid (fun V h => by
            have h1 : Own V bo 62 4 vl (G.links.take k).length (lkRow (G.links.take k)) := h.links
            rw [hkl] at h1
            exact h1)
          have hkl1 : (G.links.take (k + 1)).length = k + 1 := by rw [List.length_take]; omega
          have HOX : Hid (∀ (V : World) v', Own V bo 62 4 v' (k + 1) (lkRow (G.links.take k) ++ lkC G.links[k]) → Own V bo 62 4 v' (G.links.take (k + 1)).length (lkRow (G.links.take (k + 1)))) := Lib.hid (fun V v' h => by rw [hkl1, htk, lkRow_snoc]; exact h)
          have HSW : Hid (∀ V V', Below wr.heap.size wr V → Wr bo 62 V V' → V'.cell? ⟨w.heap.size, 1, none⟩ = some (.slice (some ⟨b, o, none⟩) G.links.length lc) ∧ LkAt V' b (o + k * 4) G.links[k]) := Lib.hid (fun V V' hV hw => by
            obtain ⟨e1, e2⟩ := HSS.out V hV
            have hlo := hw.below (HBO.out V hV)
            exact ⟨(hlo.cell (p := ⟨w.heap.size, 1, none⟩) HBG.out.1).trans e1, e2.kept (hlo.block b (by have := HBG.out.1; omega))⟩)
          have HSX : Hid (∀ (V : World) (u : Value), (V.cell? ⟨w.heap.size, 1, none⟩ = some (.slice (some ⟨b, o, none⟩) G.links.length lc) ∧ LkAt V b (o + k * 4) G.links[k]) → ((V.setCell ⟨bo, 1, none⟩ u).cell? ⟨w.heap.size, 1, none⟩ = some (.slice (some ⟨b, o, none⟩) G.links.length lc) ∧ LkAt (V.setCell ⟨bo, 1, none⟩ u) b (o + k * 4) G.links[k])) := Lib.hid (fun V u h => ⟨by rw [World.cell?_setCell_other _ _ _ _ (by intro e; simp only [Addr.mk.injEq] at e; have := HBG.out.1; omega)]; exact h.1, h.2.kept (Below.heap_setCell _ _ _ _ (by have := HBG.out.1; show b ≠ bo; omega))⟩)
          have HNEW : Hid (∀ (V : World) v', GrAt V bo bo vn v' { (⟨G.nodes, G.links.take k⟩ : Gr) with links := G.links.take (k + 1) } → GrAt V bo bo vn v' ⟨G.nodes, G.links.take (k + 1)⟩) := Lib.hid (fun V v' h => h)
          have HBB : Hid (∀ V V', Below wr.heap.size wr V → Wr bo 62 V V' → ∀ {o2 : Nat} {u : Value}, Below bo W3 (V'.setCell ⟨bo, o2, none⟩ u)) := Lib.hid (fun V V' hV hw o2 u => ((hbel.trans (hV.mono HLT.out)).trans (hw.below (HBO.out V hV))).setCell (Nat.le_refl _) _)
          have HWT : Hid (∀ z ∈ G.links.take (k + 1), z.w < 2 ^ 64) := Lib.hid (fun z hz => HQ.out z (List.mem_of_mem_take hz))
          clear hc hck hga hbel hkl hkl1 htk hb
          generalize G.links[k] = y at *
          go_upto_region 9 with (fail)
          clear g0 g1
          refine wp_region_held_drew (S := fun V => V.cell? ⟨w.heap.size, 1, none⟩ = some (.slice (some ⟨b, o, none⟩) G.links.length lc) ∧ LkAt V b (o + k * 4) y) (by kernel_rfl) (HSS.out wr.drew (Below.drew (Below.refl _ _))) (fun hH => ?_)
          have B0 : Hid (Below wr.heap.size wr wr.drew) := Lib.hid (Below.drew (Below.refl _ _))
          generalize wr.drew = V0 at *
          have HLD := Lib.hid (HGA.out V0 B0.out).cells.2.1
          refine tk 0 (by assumption) rfl (by kernel_rfl) (fun _ _ _ h => h) (fun V hV => by go_simp; try with_reducible rfl) ?_
          try simp only [Act.put, sqA, sqB, sqC, sqD, sqE, sqF]
          refine tk 2 (by assumption) rfl (by kernel_rfl) (fun _ _ _ h => h) (fun V hV => by go_simp; try with_reducible rfl) ?_
          try simp only [Act.put, sqA, sqB, sqC, sqD, sqE, sqF]
          refine tk 3 (by assumption) rfl (by kernel_rfl) (fun _ _ _ h => h) (fun V hV => by obtain ⟨x0, x1⟩ := hV; obtain ⟨c0, c1, c2, c3⟩ := x1; go_simp; try with_reducible rfl) ?_
          try simp only [Act.put, sqA, sqB, sqC, sqD, sqE, sqF]
          refine tk 4 (by assumption) rfl (by kernel_rfl) (fun _ _ _ h => h) (fun V hV => by go_simp; try with_reducible rfl) ?_
          try simp only [Act.put, sqA, sqB, sqC, sqD, sqE, sqF]
          refine tk 5 (by assumption) rfl (by kernel_rfl) (fun _ _ _ h => h) (fun V hV => by go_simp; try with_reducible rfl) ?_
          try simp only [Act.put, sqA, sqB, sqC, sqD, sqE, sqF]
          refine tk 6 (by assumption) rfl (by kernel_rfl) (fun _ _ _ h => h) (fun V hV => by obtain ⟨x0, x1⟩ := hV; obtain ⟨c0, c1, c2, c3⟩ := x1; go_simp; try with_reducible rfl) ?_
          try simp only [Act.put, sqA, sqB, sqC, sqD, sqE, sqF]
          refine wpAnyH_ready (rs := [1, 7]) (by kernel_rfl) (by simp) ?_
          refine AllReadyH.cons (o := _) rfl (fun K hK => ?_) (AllReadyH.cons (o := _) rfl (fun K hK => ?_) (AllReadyH.nil))
          · have hx := HLD.out
            go_simp
            refine hK.out _ _ hH (fun hH => ?_)
            clear hK K
            try simp only [Act.put, sqA, sqB, sqC, sqD, sqE, sqF]
            refine wpAnyH_ready (rs := [7]) (by kernel_rfl) (by simp) ?_
            refine AllReadyH.cons (o := _) rfl (fun K hK => ?_) AllReadyH.nil
            go_simp
            obtain ⟨V9, hV9⟩ : ∃ V9, V9 = V0.alloc (.cells #[.int .i64 y.a, .int .i64 y.b, .float .f64 y.w, .bool y.up] 62) := ⟨_, rfl⟩
            rw [← hV9]
            have B9 : Hid (Below V0.heap.size V0 V9) := Lib.hid (by rw [hV9]; exact gAl _ _)
            have HV9 : Hid (V9.heap[V0.heap.size]? = some (.cells (lkC y).toArray 62 (0, 0))) := Lib.hid (by rw [hV9]; exact heap_alloc_new V0 _)
            clear hV9
            have HG9 := Lib.hid (HGA.out V9 (gNx B0.out B9.out))
            have HS9 := Lib.hid (HSS.out V9 ((gNx B0.out B9.out)))
            have HLD := Lib.hid HG9.out.cells.2.1
            refine hK.out _ _ HS9.out (fun hH => ?_)
            clear hK K
            try simp only [Act.put, sqA, sqB, sqC, sqD, sqE, sqF]
            refine wpAnyH_ready (rs := [8]) (by kernel_rfl) (by simp) ?_
            refine AllReadyH.cons (o := _) rfl (fun K hK => ?_) AllReadyH.nil
            obtain ⟨v2, V10, hrun, ho, hw⟩ := own_append (P := Tryz.prog) Tryz.underlying23 lkInfo rfl (HON.out V9 HG9.out) (HBO.out V9 (gNx B0.out B9.out)) HV9.out rfl (lkC_one _) HFIT.out.1 HFIT.out.2
            refine step_append_r rfl _ _ 23 23 rfl vl (.slice (some ⟨V0.heap.size, 0, none⟩) 1 1) (by simp [Act.eval, Act.put]) (by simp [Act.eval, Act.put]) (hrun _) ?_
            clear hrun
            obtain ⟨va, vc, rfl⟩ := ho.slice
            have HO := Lib.hid ho
            have HW := Lib.hid hw
            have HGX := Lib.hid (hw.kept HG9.out.gb (by decide))
            clear ho hw
            have HS10 := Lib.hid (HSW.out V9 V10 (gNx B0.out B9.out) HW.out)
            refine hK.out _ _ HS10.out (fun hH => ?_)
            clear hK K
            try simp only [Act.put, sqA, sqB, sqC, sqD, sqE, sqF]
            refine tk 9 (by assumption) rfl (by kernel_rfl) (fun _ _ _ h => h) (fun V hV => by go_simp; try with_reducible rfl) ?_
            try simp only [Act.put, sqA, sqB, sqC, sqD, sqE, sqF]
            refine wpAnyH_ready (rs := [10]) (by kernel_rfl) (by simp) ?_
            refine AllReadyH.cons (o := _) rfl (fun K hK => ?_) AllReadyH.nil
            have d0 : V10.cell? ⟨bo, 1, none⟩ = some vl := by rw [cell_of_row V10 _ 1 _ _ (0, 0) HGX.out]; rfl
            have d1 : V10.frozen? ⟨bo, 1, none⟩ = false := frozen_of_row V10 _ _ _ _ HGX.out
            go_simp
            refine hK.out _ _ (HSX.out _ _ HS10.out) (fun hH => ?_)
            clear hK K
            try simp only [Act.put, sqA, sqB, sqC, sqD, sqE, sqF]
            refine wpAnyH_done (by kernel_rfl) ?_ _
            go_wp2_with fail
            refine ⟨⟨k + 1, _, by simp, by omega, HNEW.out _ _ (HG9.out.putL HW.out (HOX.out _ _ HO.out) HWT.out), HBB.out _ _ (gNx B0.out B9.out) HW.out⟩, ?_⟩
            simp [RowKit.intOf]; omega
          · go_simp
            obtain ⟨V9, hV9⟩ : ∃ V9, V9 = V0.alloc (.cells #[.int .i64 y.a, .int .i64 y.b, .float .f64 y.w, .bool y.up] 62) := ⟨_, rfl⟩
            rw [← hV9]
            have B9 : Hid (Below V0.heap.size V0 V9) := Lib.hid (by rw [hV9]; exact gAl _ _)
            have HV9 : Hid (V9.heap[V0.heap.size]? = some (.cells (lkC y).toArray 62 (0, 0))) := Lib.hid (by rw [hV9]; exact heap_alloc_new V0 _)
            clear hV9
            have HG9 := Lib.hid (HGA.out V9 (gNx B0.out B9.out))
            have HS9 := Lib.hid (HSS.out V9 ((gNx B0.out B9.out)))
            have HLD := Lib.hid HG9.out.cells.2.1
            refine hK.out _ _ HS9.out (fun hH => ?_)
            clear hK K
            try simp only [Act.put, sqA, sqB, sqC, sqD, sqE, sqF]
            refine wpAnyH_ready (rs := [1]) (by kernel_rfl) (by simp) ?_
            refine AllReadyH.cons (o := _) rfl (fun K hK => ?_) AllReadyH.nil
            have hx := HLD.out
            go_simp
            refine hK.out _ _ hH (fun hH => ?_)
            clear hK K
            try simp only [Act.put, sqA, sqB, sqC, sqD, sqE, sqF]
            refine wpAnyH_ready (rs := [8]) (by kernel_rfl) (by simp) ?_
            refine AllReadyH.cons (o := _) rfl (fun K hK => ?_) AllReadyH.nil
            obtain ⟨v2, V10, hrun, ho, hw⟩ := own_append (P := Tryz.prog) Tryz.underlying23 lkInfo rfl (HON.out V9 HG9.out) (HBO.out V9 (gNx B0.out B9.out)) HV9.out rfl (lkC_one _) HFIT.out.1 HFIT.out.2
            refine step_append_r rfl _ _ 23 23 rfl vl (.slice (some ⟨V0.heap.size, 0, none⟩) 1 1) (by simp [Act.eval, Act.put]) (by simp [Act.eval, Act.put]) (hrun _) ?_
            clear hrun
            obtain ⟨va, vc, rfl⟩ := ho.slice
            have HO := Lib.hid ho
            have HW := Lib.hid hw
            have HGX := Lib.hid (hw.kept HG9.out.gb (by decide))
            clear ho hw
            have HS10 := Lib.hid (HSW.out V9 V10 (gNx B0.out B9.out) HW.out)
            refine hK.out _ _ HS10.out (fun hH => ?_)
            clear hK K
            try simp only [Act.put, sqA, sqB, sqC, sqD, sqE, sqF]
            refine tk 9 (by assumption) rfl (by kernel_rfl) (fun _ _ _ h => h) (fun V hV => by go_simp; try with_reducible rfl) ?_
            try simp only [Act.put, sqA, sqB, sqC, sqD, sqE, sqF]
            refine wpAnyH_ready (rs := [10]) (by kernel_rfl) (by simp) ?_
            refine AllReadyH.cons (o := _) rfl (fun K hK => ?_) AllReadyH.nil
            have d0 : V10.cell? ⟨bo, 1, none⟩ = some vl := by rw [cell_of_row V10 _ 1 _ _ (0, 0) HGX.out]; rfl
            have d1 : V10.frozen? ⟨bo, 1, none⟩ = false := frozen_of_row V10 _ _ _ _ HGX.out
            go_simp
            refine hK.out _ _ (HSX.out _ _ HS10.out) (fun hH => ?_)
            clear hK K
            try simp only [Act.put, sqA, sqB, sqC, sqD, sqE, sqF]
            refine wpAnyH_done (by kernel_rfl) ?_ _
            go_wp2_with fail
            refine ⟨⟨k + 1, _, by simp, by omega, HNEW.out _ _ (HG9.out.putL HW.out (HOX.out _ _ HO.out) HWT.out), HBB.out _ _ (gNx B0.out B9.out) HW.out⟩, ?_⟩
            simp [RowKit.intOf]; omega
        · have hnk : ¬ (k : Int) < (G.links.length : Int) := by omega
          have htk : G.links.take k = G.links := List.take_of_length_le (by omega)
          rw [htk] at hga
          have HGA2 : Hid (GrAt wr bo bo vn vl G) := Lib.hid hga
          obtain ⟨d0, d1, -, -⟩ := hga.cells
          obtain ⟨an, cn, rfl⟩ := hga.nodes.slice
          obtain ⟨al, cl, rfl⟩ := hga.links.slice
          have hres := (hbel.block br HBR.out.1).trans HQ2.out
          have x0 : wr.cell? ⟨br, 0, none⟩ = some (.slice none 0 0) := by rw [cell_of_row wr _ 0 _ _ (0, 0) hres]; rfl
          have x1 : wr.cell? ⟨br, 1, none⟩ = some (.slice none 0 0) := by rw [cell_of_row wr _ 1 _ _ (0, 0) hres]; rfl
          have x2 := frozen_of_row wr br 0 _ _ hres
          have x3 := frozen_of_row wr br 1 _ _ hres
          have HRES := Lib.hid hres
          have HBE2 := Lib.hid hbel
          clear hlt htk hga hbel hb3 hres
          go_wp2_with fail
          have hq1 := heap_setCell_same wr br 0 _ _ (.slice an G.nodes.length cn) HRES.out
          have hq2 := heap_setCell_same _ br 1 _ _ (.slice al G.links.length cl) hq1
          refine bodyPost_ret (results_cell Tryz.results8 _ _ br 0 [.slice an G.nodes.length cn, .slice al G.links.length cl] _ rfl ?_ Tryz.underlying25 (by rfl) (by kernel_rfl)) rfl ?_
          · intro j v hj
            match j with
            | 0 => simp at hj; subst hj; rw [cell_of_row _ _ _ _ _ (0, 0) hq2]; rfl
            | 1 => simp at hj; subst hj; rw [cell_of_row _ _ _ _ _ (0, 0) hq2]; rfl
            | j + 2 => simp at hj
          · exact ⟨_, _, rfl, ((HGA2.out.v.mono HBG.out.2).set HRES.out).set hq1, ((HB3.out.trans (HBE2.out.mono HBG.out.2)).setCell HBR.out.2.1 _).setCell HBR.out.2.1 _⟩
end Go.Proofs.YtjlfpjjfldbknaaGreat
