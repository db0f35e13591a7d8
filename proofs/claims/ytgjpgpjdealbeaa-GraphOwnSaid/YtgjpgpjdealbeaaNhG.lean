/- Graphs: Apply. -/
import Derived.Test.YtgjpgpjdealbeaaNhB
import Derived.Test.YtgjpgpjdealbeaaNhF
import Derived.Test.YtgjpgpjdealbeaaNqG
namespace Go.Proofs.Ytgjpgpjdealbeaa
open Go.RowKit Go.Lib Go.Fq Go.Iq Go.Nq Go.Ow
set_option linter.unusedVariables false
set_option linter.unusedSimpArgs false
set_option maxRecDepth 100000

theorem cells_two {V : World} {bg : Nat} {v u : Value} {t : TypeId} (h : V.heap[bg]? = some (.cells #[v, u] t (0, 0))) : V.cell? ⟨bg, 0, none⟩ = some v ∧ V.cell? ⟨bg, 1, none⟩ = some u ∧ V.frozen? ⟨bg, 0, none⟩ = false ∧ V.frozen? ⟨bg, 1, none⟩ = false :=
  ⟨by rw [cell_of_row V _ 0 _ _ (0, 0) h]; rfl, by rw [cell_of_row V _ 1 _ _ (0, 0) h]; rfl, frozen_of_row V _ _ _ _ h, frozen_of_row V _ _ _ _ h⟩
theorem cells_four {V : World} {bg : Nat} {v0 v1 v2 v3 : Value} {t : TypeId} (h : V.heap[bg]? = some (.cells #[v0, v1, v2, v3] t (0, 0))) : V.cell? ⟨bg, 0, none⟩ = some v0 ∧ V.cell? ⟨bg, 1, none⟩ = some v1 ∧ V.cell? ⟨bg, 2, none⟩ = some v2 ∧ V.cell? ⟨bg, 3, none⟩ = some v3 :=
  ⟨by rw [cell_of_row V _ 0 _ _ (0, 0) h]; rfl, by rw [cell_of_row V _ 1 _ _ (0, 0) h]; rfl, by rw [cell_of_row V _ 2 _ _ (0, 0) h]; rfl, by rw [cell_of_row V _ 3 _ _ (0, 0) h]; rfl⟩
/-- A block of a graph's struct is filled with rows of the call's own. -/
theorem GrAt.make {V : World} {base bg : Nat} {x y vn vl : Value} {G : Gr} (hb : base ≤ bg) (hg : V.heap[bg]? = some (.cells #[x, y] 25 (0, 0))) (hv : GrV V base vn vl G) :
    GrAt ((V.setCell ⟨bg, 0, none⟩ vn).setCell ⟨bg, 1, none⟩ vl) base bg vn vl G := by
  have hq1 := heap_setCell_same V bg 0 _ _ vn hg
  have hq2 := heap_setCell_same _ bg 1 _ _ vl hq1
  have h2 := (hv.set (u := vn) (o := 0) hg).set (u := vl) (o := 1) hq1
  exact ⟨hb, by simpa using hq2, h2.nodes, h2.links, h2.wts⟩
set_option maxHeartbeats 8000000 in
theorem gApply_any (G : Gr) (na : Option Addr) (nc : Nat) (la : Option Addr) (lc : Nat) (kd a b : Int) (q : Nat) (w : World) (hin : GrIn w G na la) (hq : q < 2 ^ 64) :
    Calls Try.prog 14 #[.agg #[.slice na G.nodes.length nc, .slice la G.links.length lc], .agg #[.int .i64 kd, .int .i64 a, .int .i64 b, .float .f64 q]] w fun e w' => LiveEnds w (applyG G ⟨kd, a, b, q⟩) (applyE G ⟨kd, a, b, q⟩) e w' := by
  have hst := g_storeL
  obtain ⟨W1, hW1⟩ : ∃ W1, W1 = w.alloc (.cells #[.slice na G.nodes.length nc, .slice la G.links.length lc] 25) := ⟨_, rfl⟩
  obtain ⟨W2, hW2⟩ : ∃ W2, W2 = W1.alloc (.cells #[.int .i64 kd, .int .i64 a, .int .i64 b, .float .f64 q] 33) := ⟨_, rfl⟩
  obtain ⟨W3, hW3⟩ : ∃ W3, W3 = W2.alloc (.cells #[.slice none 0 0, .slice none 0 0] 25) := ⟨_, rfl⟩
  have b1 : Below w.heap.size w W1 := by rw [hW1]; exact gAl _ _
  have b2 : Below W1.heap.size W1 W2 := by rw [hW2]; exact gAl _ _
  have b3 : Below W2.heap.size W2 W3 := by rw [hW3]; exact gAl _ _
  have s1 : W1.heap.size = w.heap.size + 1 := by rw [hW1]; simp
  have s2 : W2.heap.size = W1.heap.size + 1 := by rw [hW2]; simp
  have s3 : W3.heap.size = W2.heap.size + 1 := by rw [hW3]; simp
  have r1 : W1.heap[w.heap.size]? = some (.cells #[.slice na G.nodes.length nc, .slice la G.links.length lc] 25 (0, 0)) := by rw [hW1]; exact heap_alloc_new w _
  have r2 : W2.heap[W1.heap.size]? = some (.cells #[.int .i64 kd, .int .i64 a, .int .i64 b, .float .f64 q] 33 (0, 0)) := by rw [hW2]; exact heap_alloc_new W1 _
  have r3 : W3.heap[W2.heap.size]? = some (.cells #[.slice none 0 0, .slice none 0 0] 25 (0, 0)) := by rw [hW3]; exact heap_alloc_new W2 _
  have hb3 : Below w.heap.size w W3 := gNx (gNx b1 b2) b3
  have q1 : W3.heap[w.heap.size]? = some (.cells #[.slice na G.nodes.length nc, .slice la G.links.length lc] 25 (0, 0)) := (b3.block _ (by omega)).trans ((b2.block _ (by omega)).trans r1)
  have q2 : W3.heap[W1.heap.size]? = some (.cells #[.int .i64 kd, .int .i64 a, .int .i64 b, .float .f64 q] 33 (0, 0)) := (b3.block _ (by omega)).trans r2
  obtain ⟨br, hbr⟩ : ∃ br, br = W2.heap.size := ⟨_, rfl⟩
  obtain ⟨bc, hbc⟩ : ∃ bc, bc = W1.heap.size := ⟨_, rfl⟩
  have HBR : Hid (br < W3.heap.size ∧ w.heap.size ≤ br ∧ w.heap.size ≤ W3.heap.size) := Lib.hid (by omega)
  have HKG : Hid (∀ V, Below W3.heap.size W3 V → V.cell? ⟨w.heap.size, 0, none⟩ = some (.slice na G.nodes.length nc) ∧ V.cell? ⟨w.heap.size, 1, none⟩ = some (.slice la G.links.length lc)) := Lib.hid (fun V hV => by
    have := (hV.block w.heap.size (by omega)).trans q1
    exact ⟨by rw [cell_of_row V _ 0 _ _ (0, 0) this]; rfl, by rw [cell_of_row V _ 1 _ _ (0, 0) this]; rfl⟩)
  have HKC : Hid (∀ V, Below W3.heap.size W3 V → V.heap[bc]? = some (.cells #[.int .i64 kd, .int .i64 a, .int .i64 b, .float .f64 q] 33 (0, 0))) := Lib.hid (fun V hV => by rw [hbc]; exact (hV.block W1.heap.size (by omega)).trans q2)
  have HRS : Hid (∀ V, Below W3.heap.size W3 V → V.heap[br]? = some (.cells #[.slice none 0 0, .slice none 0 0] 25 (0, 0))) := Lib.hid (fun V hV => by rw [hbr]; exact (hV.block _ (by omega)).trans r3)
  have HWB : Hid (∀ V, Below W3.heap.size W3 V → Below w.heap.size w V) := Lib.hid (fun V hV => gNx hb3 hV)
  have HG2 : Hid (∀ V, Below W3.heap.size W3 V → GrIn V G na la) := Lib.hid (fun V hV => hin.below (gNx hb3 hV))
  have HQ := Lib.hid hin.wts
  have HQQ := Lib.hid hq
  have HSZ : Hid (G.nodes.length * 16 ≤ 140737488351232 ∧ G.links.length * 32 ≤ 140737488351232) := Lib.hid ⟨hin.n1, hin.l1⟩
  clear hin hq b1 b2 b3 r1 r2 r3 q1 q2 hb3 s3
  by_cases hz : checkG G = 0
  case neg =>
    have HA : Hid (applyE G ⟨kd, a, b, q⟩ = checkG G ∧ applyG G ⟨kd, a, b, q⟩ = gr0) := Lib.hid ⟨applyE_no hz _, applyG_no (by rw [applyE_no hz]; exact hz)⟩
    rw [HA.out.1, HA.out.2]
    obtain ⟨ce, hce⟩ : ∃ ce, ce = checkG G := ⟨_, rfl⟩
    rw [← hce] at hz ⊢
    have HCE := Lib.hid hce
    have hz2 : (ce != 0) = true := by simpa using hz
    clear hz hce HA
    go_enter Try.func14, Try.ntmps14
    go_upto_region 1 with (fail)
    rw [← hW1, ← hW2, ← hW3, ← s1, ← s2, ← hbr, ← hbc]
    obtain ⟨g0, g1⟩ := HKG.out W3 (Below.refl _ _)
    clear hW1 hW2 hW3 s1 s2 hbr hbc
    go_wp2_with fail
    refine (gCheck_any G na la nc lc W3 (HG2.out W3 (Below.refl _ _)).nodes (HG2.out W3 (Below.refl _ _)).links HQ.out (by have := HSZ.out; omega) (by have := HSZ.out; omega)).mono ?_
    rintro e V1 ⟨rfl, hb⟩
    have B1 := Lib.hid hb
    have hres := HRS.out V1 hb
    obtain ⟨x0, x1, x2, x3⟩ := cells_two hres
    have HRES := Lib.hid hres
    clear hb hres g0 g1
    rw [← HCE.out]
    clear HCE
    go_wp2_with fail
    have hq1 := heap_setCell_same V1 br 0 _ _ (.slice none 0 0) HRES.out
    have hq2 := heap_setCell_same _ br 1 _ _ (.slice none 0 0) hq1
    refine bodyPost_ret (results_cell2 Try.results14 _ _ br 0 [.slice none 0 0, .slice none 0 0] _ rfl ?_ Try.underlying25 (by rfl) (by kernel_rfl)) rfl ?_
    · intro j v hj
      match j with
      | 0 => simp at hj; subst hj; rw [cell_of_row _ _ _ _ _ (0, 0) hq2]; rfl
      | 1 => simp at hj; subst hj; rw [cell_of_row _ _ _ _ _ (0, 0) hq2]; rfl
      | j + 2 => simp at hj
    · exact ⟨_, _, rfl, ((grv_0 _ _).set HRES.out).set hq1, ((HWB.out V1 B1.out).setCell HBR.out.2.1 _).setCell HBR.out.2.1 _⟩
  case pos =>
    have HCK := Lib.hid hz
    clear hz
    go_enter Try.func14, Try.ntmps14
    go_upto_region 1 with (fail)
    rw [← hW1, ← hW2, ← hW3, ← s1, ← s2, ← hbr, ← hbc]
    obtain ⟨g0, g1⟩ := HKG.out W3 (Below.refl _ _)
    clear hW1 hW2 hW3 s1 s2 hbr hbc
    go_wp2_with fail
    refine (gCheck_any G na la nc lc W3 (HG2.out W3 (Below.refl _ _)).nodes (HG2.out W3 (Below.refl _ _)).links HQ.out (by have := HSZ.out; omega) (by have := HSZ.out; omega)).mono ?_
    rintro e V1 ⟨rfl, hb⟩
    rw [HCK.out]
    have B1 := Lib.hid hb
    have HN : Hid (∀ V, Below V1.heap.size V1 V → NodesIn V V.heap.size G.nodes na) := Lib.hid (fun V hV => (HG2.out V (gNx B1.out hV)).nodes)
    have HL : Hid (∀ V, Below V1.heap.size V1 V → LinksIn V V.heap.size G.links la) := Lib.hid (fun V hV => (HG2.out V (gNx B1.out hV)).links)
    clear hb g0 g1
    go_upto_region 4 with (fail)
    refine wp_region_held_drew (S := fun V => Below V1.heap.size V1 V) (by kernel_rfl) (Below.drew (Below.refl _ _)) (fun hH => ?_)
    have BC : Hid (Below V1.heap.size V1 V1.drew) := Lib.hid (Below.drew (Below.refl _ _))
    obtain ⟨VC, hVC⟩ : ∃ VC, VC = V1.drew := ⟨_, rfl⟩
    rw [← hVC] at hH BC ⊢
    clear hVC
    refine tk 0 (by assumption) rfl (by kernel_rfl) (fun _ _ _ h => h) (fun V hV => by go_simp; try with_reducible rfl) ?_
    try simp only [Act.put, List.setIfInBounds_toArray, List.set_cons_zero, List.set_cons_succ, List.getElem_toArray, List.getElem_cons_succ, List.getElem_cons_zero]
    refine tk 1 (by assumption) rfl (by kernel_rfl) (fun _ _ _ h => h) (fun V hV => by obtain ⟨g0, g1⟩ := HKG.out V (gNx B1.out hV); go_simp; try with_reducible rfl) ?_
    try simp only [Act.put, List.setIfInBounds_toArray, List.set_cons_zero, List.set_cons_succ, List.getElem_toArray, List.getElem_cons_succ, List.getElem_cons_zero]
    refine tk 3 (by assumption) rfl (by kernel_rfl) (fun _ _ _ h => h) (fun V hV => by go_simp; try with_reducible rfl) ?_
    try simp only [Act.put, List.setIfInBounds_toArray, List.set_cons_zero, List.set_cons_succ, List.getElem_toArray, List.getElem_cons_succ, List.getElem_cons_zero]
    refine tk 4 (by assumption) rfl (by kernel_rfl) (fun _ _ _ h => h) (fun V hV => by obtain ⟨g0, g1⟩ := HKG.out V (gNx B1.out hV); go_simp; try with_reducible rfl) ?_
    try simp only [Act.put, List.setIfInBounds_toArray, List.set_cons_zero, List.set_cons_succ, List.getElem_toArray, List.getElem_cons_succ, List.getElem_cons_zero]
    refine wpAnyH_ready (rs := [2, 7]) (by kernel_rfl) (by simp) ?_
    refine AllReadyH.cons (o := _) rfl (fun K hK => ?_) (AllReadyH.cons (o := _) rfl (fun K hK => ?_) (AllReadyH.nil))
    · go_simp
      refine (gCloneNd_any G.nodes na nc _ (HN.out _ BC.out) HSZ.out.1).mono ?_
      rintro e VC ⟨v, rfl, ho, hb⟩
      obtain ⟨an, cn, rfl⟩ := ho.slice
      try have HGB := Lib.hid ((hb.block _ (Array.getElem?_eq_some_iff.1 HGB.out).1).trans HGB.out)
      try have HON := Lib.hid (HON.out.below hb)
      try have HOL := Lib.hid (HOL.out.below hb)
      have HON := Lib.hid (ho.mono (Nat.le_trans BC.out.size (Nat.le_refl _)))
      have BC := Lib.hid (gNx BC.out hb)
      clear ho hb
      go_wp2_with fail
      refine hK.out _ _ BC.out (fun hH => ?_)
      clear hK K
      try simp only [Act.put, List.setIfInBounds_toArray, List.set_cons_zero, List.set_cons_succ, List.getElem_toArray, List.getElem_cons_succ, List.getElem_cons_zero]
      refine wpAnyH_ready (rs := [5, 7]) (by kernel_rfl) (by simp) ?_
      refine AllReadyH.cons (o := _) rfl (fun K hK => ?_) (AllReadyH.cons (o := _) rfl (fun K hK => ?_) (AllReadyH.nil))
      · go_simp
        refine (gCloneLk_any G.links la lc _ (HL.out _ BC.out) HSZ.out.2).mono ?_
        rintro e VC ⟨v, rfl, ho, hb⟩
        obtain ⟨al, cl, rfl⟩ := ho.slice
        try have HGB := Lib.hid ((hb.block _ (Array.getElem?_eq_some_iff.1 HGB.out).1).trans HGB.out)
        try have HON := Lib.hid (HON.out.below hb)
        try have HOL := Lib.hid (HOL.out.below hb)
        have HOL := Lib.hid (ho.mono (Nat.le_trans BC.out.size (Nat.le_refl _)))
        have BC := Lib.hid (gNx BC.out hb)
        clear ho hb
        go_wp2_with fail
        refine hK.out _ _ BC.out (fun hH => ?_)
        clear hK K
        try simp only [Act.put, List.setIfInBounds_toArray, List.set_cons_zero, List.set_cons_succ, List.getElem_toArray, List.getElem_cons_succ, List.getElem_cons_zero]
        refine tk 6 (by assumption) rfl (by kernel_rfl) (fun _ _ _ h => h) (fun V hV => by go_simp; try with_reducible rfl) ?_
        try simp only [Act.put, List.setIfInBounds_toArray, List.set_cons_zero, List.set_cons_succ, List.getElem_toArray, List.getElem_cons_succ, List.getElem_cons_zero]
        refine wpAnyH_ready (rs := [7]) (by kernel_rfl) (by simp) ?_
        refine AllReadyH.cons (o := _) rfl (fun K hK => ?_) AllReadyH.nil
        go_simp
        obtain ⟨VD, hVD⟩ : ∃ VD, VD = VC.alloc (.cells #[.slice none 0 0, .slice none 0 0] 25) := ⟨_, rfl⟩
        rw [← hVD]
        obtain ⟨bg, hbg⟩ : ∃ bg, bg = VC.heap.size := ⟨_, rfl⟩
        rw [← hbg]
        have hb : Below VC.heap.size VC VD := by rw [hVD]; exact gAl _ _
        try have HON := Lib.hid (HON.out.below hb)
        try have HOL := Lib.hid (HOL.out.below hb)
        have HGB : Hid (VD.heap[bg]? = some (.cells #[.slice none 0 0, .slice none 0 0] 25 (0, 0))) := Lib.hid (by rw [hVD, hbg]; exact heap_alloc_new VC _)
        have HBB : Hid (V1.heap.size ≤ bg) := Lib.hid (by rw [hbg]; exact BC.out.size)
        have BC := Lib.hid (gNx BC.out hb)
        clear hb hVD hbg
        rename World => VC
        refine hK.out _ _ BC.out (fun hH => ?_)
        clear hK K
        try simp only [Act.put, List.setIfInBounds_toArray, List.set_cons_zero, List.set_cons_succ, List.getElem_toArray, List.getElem_cons_succ, List.getElem_cons_zero]
        refine wpAnyH_ready (rs := [8]) (by kernel_rfl) (by simp) ?_
        refine AllReadyH.cons (o := _) rfl (fun K hK => ?_) AllReadyH.nil
        obtain ⟨d0, d1, d2, d3⟩ := cells_two HGB.out
        go_simp
        obtain ⟨VE, hVE⟩ : ∃ VE, VE = (VC.setCell ⟨bg, 0, none⟩ (.slice an G.nodes.length cn)).setCell ⟨bg, 1, none⟩ (.slice al G.links.length cl) := ⟨_, rfl⟩
        rw [← hVE]
        have BE : Hid (Below V1.heap.size V1 VE) := Lib.hid (by rw [hVE]; exact (BC.out.setCell HBB.out _).setCell HBB.out _)
        have HGA : Hid (GrAt VE V1.heap.size bg (.slice an G.nodes.length cn) (.slice al G.links.length cl) G) := Lib.hid (by rw [hVE]; exact GrAt.make HBB.out HGB.out ⟨HON.out, HOL.out, HQ.out⟩)
        clear hVE d0 d1 d2 d3
        refine hK.out _ _ BE.out (fun hH => ?_)
        clear hK K
        try simp only [Act.put, List.setIfInBounds_toArray, List.set_cons_zero, List.set_cons_succ, List.getElem_toArray, List.getElem_cons_succ, List.getElem_cons_zero]
        refine wpAnyH_done (by kernel_rfl) ?_ _
        obtain ⟨c0, c1, c2, c3⟩ := cells_four (HKC.out VE (gNx B1.out BE.out))
        clear HON HOL HGB BC
        go_wp2_with fail
        refine (gChange_any G kd a b q V1.heap.size bg _ _ VE HGA.out HCK.out HQQ.out).mono ?_
        rintro e V4 ⟨rfl, ⟨vn, vl, h3⟩, h4⟩
        have B4 := Lib.hid (gNx B1.out (BE.out.trans h4))
        clear h4 c0 c1 c2 c3
        have hres := HRS.out V4 B4.out
        obtain ⟨x0, x1, x2, x3⟩ := cells_two hres
        have HRES := Lib.hid hres
        clear hres HGA BE
        by_cases hz : changeE G ⟨kd, a, b, q⟩ = 0
        · rw [hz, aft_0] at h3
          rw [hz]
          obtain ⟨d0, d1, -, -⟩ := h3.cells
          obtain ⟨an, cn, rfl⟩ := h3.nodes.slice
          obtain ⟨al, cl, rfl⟩ := h3.links.slice
          have HG3 := Lib.hid h3
          have HP := Lib.hid (apply_yes HCK.out hz)
          clear h3 hz
          generalize changeG G ⟨kd, a, b, q⟩ = G2 at *
          go_wp2_with fail
          have hq1 := heap_setCell_same V4 br 0 _ _ (.slice an G2.nodes.length cn) HRES.out
          have hq2 := heap_setCell_same _ br 1 _ _ (.slice al G2.links.length cl) hq1
          refine bodyPost_ret (results_cell2 Try.results14 _ _ br 0 [.slice an G2.nodes.length cn, .slice al G2.links.length cl] _ rfl ?_ Try.underlying25 (by rfl) (by kernel_rfl)) rfl ?_
          · intro j v hj
            match j with
            | 0 => simp at hj; subst hj; rw [cell_of_row _ _ _ _ _ (0, 0) hq2]; rfl
            | 1 => simp at hj; subst hj; rw [cell_of_row _ _ _ _ _ (0, 0) hq2]; rfl
            | j + 2 => simp at hj
          · rw [HP.out.1, HP.out.2]
            exact ⟨_, _, rfl, ((HG3.out.v.mono (Nat.le_trans HBR.out.2.2 B1.out.size)).set HRES.out).set hq1, ((HWB.out V4 B4.out).setCell HBR.out.2.1 _).setCell HBR.out.2.1 _⟩
        · have HP : Hid (applyE G ⟨kd, a, b, q⟩ = changeE G ⟨kd, a, b, q⟩ ∧ applyG G ⟨kd, a, b, q⟩ = gr0) := Lib.hid ⟨applyE_ok HCK.out _, applyG_no (by rw [applyE_ok HCK.out]; exact hz)⟩
          obtain ⟨ce, hce⟩ : ∃ ce, ce = changeE G ⟨kd, a, b, q⟩ := ⟨_, rfl⟩
          rw [← hce] at hz ⊢
          have hz2 : (ce != 0) = true := by simpa using hz
          have HCE := Lib.hid hce
          clear h3 hz hce
          go_wp2_with fail
          have hq1 := heap_setCell_same V4 br 0 _ _ (.slice none 0 0) HRES.out
          have hq2 := heap_setCell_same _ br 1 _ _ (.slice none 0 0) hq1
          refine bodyPost_ret (results_cell2 Try.results14 _ _ br 0 [.slice none 0 0, .slice none 0 0] _ rfl ?_ Try.underlying25 (by rfl) (by kernel_rfl)) rfl ?_
          · intro j v hj
            match j with
            | 0 => simp at hj; subst hj; rw [cell_of_row _ _ _ _ _ (0, 0) hq2]; rfl
            | 1 => simp at hj; subst hj; rw [cell_of_row _ _ _ _ _ (0, 0) hq2]; rfl
            | j + 2 => simp at hj
          · rw [HP.out.1, HP.out.2, ← HCE.out]
            exact ⟨_, _, rfl, ((grv_0 _ _).set HRES.out).set hq1, ((HWB.out V4 B4.out).setCell HBR.out.2.1 _).setCell HBR.out.2.1 _⟩
      · go_simp
        obtain ⟨VD, hVD⟩ : ∃ VD, VD = VC.alloc (.cells #[.slice none 0 0, .slice none 0 0] 25) := ⟨_, rfl⟩
        rw [← hVD]
        obtain ⟨bg, hbg⟩ : ∃ bg, bg = VC.heap.size := ⟨_, rfl⟩
        rw [← hbg]
        have hb : Below VC.heap.size VC VD := by rw [hVD]; exact gAl _ _
        try have HON := Lib.hid (HON.out.below hb)
        try have HOL := Lib.hid (HOL.out.below hb)
        have HGB : Hid (VD.heap[bg]? = some (.cells #[.slice none 0 0, .slice none 0 0] 25 (0, 0))) := Lib.hid (by rw [hVD, hbg]; exact heap_alloc_new VC _)
        have HBB : Hid (V1.heap.size ≤ bg) := Lib.hid (by rw [hbg]; exact BC.out.size)
        have BC := Lib.hid (gNx BC.out hb)
        clear hb hVD hbg
        rename World => VC
        refine hK.out _ _ BC.out (fun hH => ?_)
        clear hK K
        try simp only [Act.put, List.setIfInBounds_toArray, List.set_cons_zero, List.set_cons_succ, List.getElem_toArray, List.getElem_cons_succ, List.getElem_cons_zero]
        refine wpAnyH_ready (rs := [5]) (by kernel_rfl) (by simp) ?_
        refine AllReadyH.cons (o := _) rfl (fun K hK => ?_) AllReadyH.nil
        go_simp
        refine (gCloneLk_any G.links la lc _ (HL.out _ BC.out) HSZ.out.2).mono ?_
        rintro e VC ⟨v, rfl, ho, hb⟩
        obtain ⟨al, cl, rfl⟩ := ho.slice
        try have HGB := Lib.hid ((hb.block _ (Array.getElem?_eq_some_iff.1 HGB.out).1).trans HGB.out)
        try have HON := Lib.hid (HON.out.below hb)
        try have HOL := Lib.hid (HOL.out.below hb)
        have HOL := Lib.hid (ho.mono (Nat.le_trans BC.out.size (Nat.le_refl _)))
        have BC := Lib.hid (gNx BC.out hb)
        clear ho hb
        go_wp2_with fail
        refine hK.out _ _ BC.out (fun hH => ?_)
        clear hK K
        try simp only [Act.put, List.setIfInBounds_toArray, List.set_cons_zero, List.set_cons_succ, List.getElem_toArray, List.getElem_cons_succ, List.getElem_cons_zero]
        refine tk 6 (by assumption) rfl (by kernel_rfl) (fun _ _ _ h => h) (fun V hV => by go_simp; try with_reducible rfl) ?_
        try simp only [Act.put, List.setIfInBounds_toArray, List.set_cons_zero, List.set_cons_succ, List.getElem_toArray, List.getElem_cons_succ, List.getElem_cons_zero]
        refine wpAnyH_ready (rs := [8]) (by kernel_rfl) (by simp) ?_
        refine AllReadyH.cons (o := _) rfl (fun K hK => ?_) AllReadyH.nil
        obtain ⟨d0, d1, d2, d3⟩ := cells_two HGB.out
        go_simp
        obtain ⟨VE, hVE⟩ : ∃ VE, VE = (VC.setCell ⟨bg, 0, none⟩ (.slice an G.nodes.length cn)).setCell ⟨bg, 1, none⟩ (.slice al G.links.length cl) := ⟨_, rfl⟩
        rw [← hVE]
        have BE : Hid (Below V1.heap.size V1 VE) := Lib.hid (by rw [hVE]; exact (BC.out.setCell HBB.out _).setCell HBB.out _)
        have HGA : Hid (GrAt VE V1.heap.size bg (.slice an G.nodes.length cn) (.slice al G.links.length cl) G) := Lib.hid (by rw [hVE]; exact GrAt.make HBB.out HGB.out ⟨HON.out, HOL.out, HQ.out⟩)
        clear hVE d0 d1 d2 d3
        refine hK.out _ _ BE.out (fun hH => ?_)
        clear hK K
        try simp only [Act.put, List.setIfInBounds_toArray, List.set_cons_zero, List.set_cons_succ, List.getElem_toArray, List.getElem_cons_succ, List.getElem_cons_zero]
        refine wpAnyH_done (by kernel_rfl) ?_ _
        obtain ⟨c0, c1, c2, c3⟩ := cells_four (HKC.out VE (gNx B1.out BE.out))
        clear HON HOL HGB BC
        go_wp2_with fail
        refine (gChange_any G kd a b q V1.heap.size bg _ _ VE HGA.out HCK.out HQQ.out).mono ?_
        rintro e V4 ⟨rfl, ⟨vn, vl, h3⟩, h4⟩
        have B4 := Lib.hid (gNx B1.out (BE.out.trans h4))
        clear h4 c0 c1 c2 c3
        have hres := HRS.out V4 B4.out
        obtain ⟨x0, x1, x2, x3⟩ := cells_two hres
        have HRES := Lib.hid hres
        clear hres HGA BE
        by_cases hz : changeE G ⟨kd, a, b, q⟩ = 0
        · rw [hz, aft_0] at h3
          rw [hz]
          obtain ⟨d0, d1, -, -⟩ := h3.cells
          obtain ⟨an, cn, rfl⟩ := h3.nodes.slice
          obtain ⟨al, cl, rfl⟩ := h3.links.slice
          have HG3 := Lib.hid h3
          have HP := Lib.hid (apply_yes HCK.out hz)
          clear h3 hz
          generalize changeG G ⟨kd, a, b, q⟩ = G2 at *
          go_wp2_with fail
          have hq1 := heap_setCell_same V4 br 0 _ _ (.slice an G2.nodes.length cn) HRES.out
          have hq2 := heap_setCell_same _ br 1 _ _ (.slice al G2.links.length cl) hq1
          refine bodyPost_ret (results_cell2 Try.results14 _ _ br 0 [.slice an G2.nodes.length cn, .slice al G2.links.length cl] _ rfl ?_ Try.underlying25 (by rfl) (by kernel_rfl)) rfl ?_
          · intro j v hj
            match j with
            | 0 => simp at hj; subst hj; rw [cell_of_row _ _ _ _ _ (0, 0) hq2]; rfl
            | 1 => simp at hj; subst hj; rw [cell_of_row _ _ _ _ _ (0, 0) hq2]; rfl
            | j + 2 => simp at hj
          · rw [HP.out.1, HP.out.2]
            exact ⟨_, _, rfl, ((HG3.out.v.mono (Nat.le_trans HBR.out.2.2 B1.out.size)).set HRES.out).set hq1, ((HWB.out V4 B4.out).setCell HBR.out.2.1 _).setCell HBR.out.2.1 _⟩
        · have HP : Hid (applyE G ⟨kd, a, b, q⟩ = changeE G ⟨kd, a, b, q⟩ ∧ applyG G ⟨kd, a, b, q⟩ = gr0) := Lib.hid ⟨applyE_ok HCK.out _, applyG_no (by rw [applyE_ok HCK.out]; exact hz)⟩
          obtain ⟨ce, hce⟩ : ∃ ce, ce = changeE G ⟨kd, a, b, q⟩ := ⟨_, rfl⟩
          rw [← hce] at hz ⊢
          have hz2 : (ce != 0) = true := by simpa using hz
          have HCE := Lib.hid hce
          clear h3 hz hce
          go_wp2_with fail
          have hq1 := heap_setCell_same V4 br 0 _ _ (.slice none 0 0) HRES.out
          have hq2 := heap_setCell_same _ br 1 _ _ (.slice none 0 0) hq1
          refine bodyPost_ret (results_cell2 Try.results14 _ _ br 0 [.slice none 0 0, .slice none 0 0] _ rfl ?_ Try.underlying25 (by rfl) (by kernel_rfl)) rfl ?_
          · intro j v hj
            match j with
            | 0 => simp at hj; subst hj; rw [cell_of_row _ _ _ _ _ (0, 0) hq2]; rfl
            | 1 => simp at hj; subst hj; rw [cell_of_row _ _ _ _ _ (0, 0) hq2]; rfl
            | j + 2 => simp at hj
          · rw [HP.out.1, HP.out.2, ← HCE.out]
            exact ⟨_, _, rfl, ((grv_0 _ _).set HRES.out).set hq1, ((HWB.out V4 B4.out).setCell HBR.out.2.1 _).setCell HBR.out.2.1 _⟩
    · go_simp
      obtain ⟨VD, hVD⟩ : ∃ VD, VD = VC.alloc (.cells #[.slice none 0 0, .slice none 0 0] 25) := ⟨_, rfl⟩
      rw [← hVD]
      obtain ⟨bg, hbg⟩ : ∃ bg, bg = VC.heap.size := ⟨_, rfl⟩
      rw [← hbg]
      have hb : Below VC.heap.size VC VD := by rw [hVD]; exact gAl _ _
      try have HON := Lib.hid (HON.out.below hb)
      try have HOL := Lib.hid (HOL.out.below hb)
      have HGB : Hid (VD.heap[bg]? = some (.cells #[.slice none 0 0, .slice none 0 0] 25 (0, 0))) := Lib.hid (by rw [hVD, hbg]; exact heap_alloc_new VC _)
      have HBB : Hid (V1.heap.size ≤ bg) := Lib.hid (by rw [hbg]; exact BC.out.size)
      have BC := Lib.hid (gNx BC.out hb)
      clear hb hVD hbg
      rename World => VC
      refine hK.out _ _ BC.out (fun hH => ?_)
      clear hK K
      try simp only [Act.put, List.setIfInBounds_toArray, List.set_cons_zero, List.set_cons_succ, List.getElem_toArray, List.getElem_cons_succ, List.getElem_cons_zero]
      refine wpAnyH_ready (rs := [2]) (by kernel_rfl) (by simp) ?_
      refine AllReadyH.cons (o := _) rfl (fun K hK => ?_) AllReadyH.nil
      go_simp
      refine (gCloneNd_any G.nodes na nc _ (HN.out _ BC.out) HSZ.out.1).mono ?_
      rintro e VC ⟨v, rfl, ho, hb⟩
      obtain ⟨an, cn, rfl⟩ := ho.slice
      try have HGB := Lib.hid ((hb.block _ (Array.getElem?_eq_some_iff.1 HGB.out).1).trans HGB.out)
      try have HON := Lib.hid (HON.out.below hb)
      try have HOL := Lib.hid (HOL.out.below hb)
      have HON := Lib.hid (ho.mono (Nat.le_trans BC.out.size (Nat.le_refl _)))
      have BC := Lib.hid (gNx BC.out hb)
      clear ho hb
      go_wp2_with fail
      refine hK.out _ _ BC.out (fun hH => ?_)
      clear hK K
      try simp only [Act.put, List.setIfInBounds_toArray, List.set_cons_zero, List.set_cons_succ, List.getElem_toArray, List.getElem_cons_succ, List.getElem_cons_zero]
      refine wpAnyH_ready (rs := [5]) (by kernel_rfl) (by simp) ?_
      refine AllReadyH.cons (o := _) rfl (fun K hK => ?_) AllReadyH.nil
      go_simp
      refine (gCloneLk_any G.links la lc _ (HL.out _ BC.out) HSZ.out.2).mono ?_
      rintro e VC ⟨v, rfl, ho, hb⟩
      obtain ⟨al, cl, rfl⟩ := ho.slice
      try have HGB := Lib.hid ((hb.block _ (Array.getElem?_eq_some_iff.1 HGB.out).1).trans HGB.out)
      try have HON := Lib.hid (HON.out.below hb)
      try have HOL := Lib.hid (HOL.out.below hb)
      have HOL := Lib.hid (ho.mono (Nat.le_trans BC.out.size (Nat.le_refl _)))
      have BC := Lib.hid (gNx BC.out hb)
      clear ho hb
      go_wp2_with fail
      refine hK.out _ _ BC.out (fun hH => ?_)
      clear hK K
      try simp only [Act.put, List.setIfInBounds_toArray, List.set_cons_zero, List.set_cons_succ, List.getElem_toArray, List.getElem_cons_succ, List.getElem_cons_zero]
      refine tk 6 (by assumption) rfl (by kernel_rfl) (fun _ _ _ h => h) (fun V hV => by go_simp; try with_reducible rfl) ?_
      try simp only [Act.put, List.setIfInBounds_toArray, List.set_cons_zero, List.set_cons_succ, List.getElem_toArray, List.getElem_cons_succ, List.getElem_cons_zero]
      refine wpAnyH_ready (rs := [8]) (by kernel_rfl) (by simp) ?_
      refine AllReadyH.cons (o := _) rfl (fun K hK => ?_) AllReadyH.nil
      obtain ⟨d0, d1, d2, d3⟩ := cells_two HGB.out
      go_simp
      obtain ⟨VE, hVE⟩ : ∃ VE, VE = (VC.setCell ⟨bg, 0, none⟩ (.slice an G.nodes.length cn)).setCell ⟨bg, 1, none⟩ (.slice al G.links.length cl) := ⟨_, rfl⟩
      rw [← hVE]
      have BE : Hid (Below V1.heap.size V1 VE) := Lib.hid (by rw [hVE]; exact (BC.out.setCell HBB.out _).setCell HBB.out _)
      have HGA : Hid (GrAt VE V1.heap.size bg (.slice an G.nodes.length cn) (.slice al G.links.length cl) G) := Lib.hid (by rw [hVE]; exact GrAt.make HBB.out HGB.out ⟨HON.out, HOL.out, HQ.out⟩)
      clear hVE d0 d1 d2 d3
      refine hK.out _ _ BE.out (fun hH => ?_)
      clear hK K
      try simp only [Act.put, List.setIfInBounds_toArray, List.set_cons_zero, List.set_cons_succ, List.getElem_toArray, List.getElem_cons_succ, List.getElem_cons_zero]
      refine wpAnyH_done (by kernel_rfl) ?_ _
      obtain ⟨c0, c1, c2, c3⟩ := cells_four (HKC.out VE (gNx B1.out BE.out))
      clear HON HOL HGB BC
      go_wp2_with fail
      refine (gChange_any G kd a b q V1.heap.size bg _ _ VE HGA.out HCK.out HQQ.out).mono ?_
      rintro e V4 ⟨rfl, ⟨vn, vl, h3⟩, h4⟩
      have B4 := Lib.hid (gNx B1.out (BE.out.trans h4))
      clear h4 c0 c1 c2 c3
      have hres := HRS.out V4 B4.out
      obtain ⟨x0, x1, x2, x3⟩ := cells_two hres
      have HRES := Lib.hid hres
      clear hres HGA BE
      by_cases hz : changeE G ⟨kd, a, b, q⟩ = 0
      · rw [hz, aft_0] at h3
        rw [hz]
        obtain ⟨d0, d1, -, -⟩ := h3.cells
        obtain ⟨an, cn, rfl⟩ := h3.nodes.slice
        obtain ⟨al, cl, rfl⟩ := h3.links.slice
        have HG3 := Lib.hid h3
        have HP := Lib.hid (apply_yes HCK.out hz)
        clear h3 hz
        generalize changeG G ⟨kd, a, b, q⟩ = G2 at *
        go_wp2_with fail
        have hq1 := heap_setCell_same V4 br 0 _ _ (.slice an G2.nodes.length cn) HRES.out
        have hq2 := heap_setCell_same _ br 1 _ _ (.slice al G2.links.length cl) hq1
        refine bodyPost_ret (results_cell2 Try.results14 _ _ br 0 [.slice an G2.nodes.length cn, .slice al G2.links.length cl] _ rfl ?_ Try.underlying25 (by rfl) (by kernel_rfl)) rfl ?_
        · intro j v hj
          match j with
          | 0 => simp at hj; subst hj; rw [cell_of_row _ _ _ _ _ (0, 0) hq2]; rfl
          | 1 => simp at hj; subst hj; rw [cell_of_row _ _ _ _ _ (0, 0) hq2]; rfl
          | j + 2 => simp at hj
        · rw [HP.out.1, HP.out.2]
          exact ⟨_, _, rfl, ((HG3.out.v.mono (Nat.le_trans HBR.out.2.2 B1.out.size)).set HRES.out).set hq1, ((HWB.out V4 B4.out).setCell HBR.out.2.1 _).setCell HBR.out.2.1 _⟩
      · have HP : Hid (applyE G ⟨kd, a, b, q⟩ = changeE G ⟨kd, a, b, q⟩ ∧ applyG G ⟨kd, a, b, q⟩ = gr0) := Lib.hid ⟨applyE_ok HCK.out _, applyG_no (by rw [applyE_ok HCK.out]; exact hz)⟩
        obtain ⟨ce, hce⟩ : ∃ ce, ce = changeE G ⟨kd, a, b, q⟩ := ⟨_, rfl⟩
        rw [← hce] at hz ⊢
        have hz2 : (ce != 0) = true := by simpa using hz
        have HCE := Lib.hid hce
        clear h3 hz hce
        go_wp2_with fail
        have hq1 := heap_setCell_same V4 br 0 _ _ (.slice none 0 0) HRES.out
        have hq2 := heap_setCell_same _ br 1 _ _ (.slice none 0 0) hq1
        refine bodyPost_ret (results_cell2 Try.results14 _ _ br 0 [.slice none 0 0, .slice none 0 0] _ rfl ?_ Try.underlying25 (by rfl) (by kernel_rfl)) rfl ?_
        · intro j v hj
          match j with
          | 0 => simp at hj; subst hj; rw [cell_of_row _ _ _ _ _ (0, 0) hq2]; rfl
          | 1 => simp at hj; subst hj; rw [cell_of_row _ _ _ _ _ (0, 0) hq2]; rfl
          | j + 2 => simp at hj
        · rw [HP.out.1, HP.out.2, ← HCE.out]
          exact ⟨_, _, rfl, ((grv_0 _ _).set HRES.out).set hq1, ((HWB.out V4 B4.out).setCell HBR.out.2.1 _).setCell HBR.out.2.1 _⟩
end Go.Proofs.Ytgjpgpjdealbeaa
