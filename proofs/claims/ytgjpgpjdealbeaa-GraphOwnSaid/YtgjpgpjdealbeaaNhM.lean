/- Graphs: the document's Apply: routers. -/
import Derived.Test.YtgjpgpjdealbeaaNhH
import Derived.Test.YtgjpgpjdealbeaaNqG
namespace Go.Proofs.Ytgjpgpjdealbeaa
open Go.RowKit Go.Lib Go.Fq Go.Iq Go.Nq Go.Ow
set_option linter.unusedVariables false
set_option linter.unusedSimpArgs false
set_option maxRecDepth 100000

set_option maxHeartbeats 8000000 in
theorem rApply_6 (G : Gr) (na : Option Addr) (nc : Nat) (la : Option Addr) (lc : Nat) (a b : Int) (q : Nat) (w : World) (hin : GrIn w G na la) (hq : q < 2 ^ 64) (hG : checkG G = 0) (hba : bareB ⟨6, a, b, q⟩ = true) :
    Calls Try.prog 15 #[.agg #[.slice na G.nodes.length nc, .slice la G.links.length lc], .agg #[.int .i64 6, .int .i64 a, .int .i64 b, .float .f64 q]] w fun e w' => LiveEnds w (applyG G ⟨6, a, b, q⟩) (applyE G ⟨6, a, b, q⟩) e w' := by
  have hst := g_storeL
  obtain ⟨W1, hW1⟩ : ∃ W1, W1 = w.alloc (.cells #[.slice na G.nodes.length nc, .slice la G.links.length lc] 25) := ⟨_, rfl⟩
  obtain ⟨W2, hW2⟩ : ∃ W2, W2 = W1.alloc (.cells #[.int .i64 6, .int .i64 a, .int .i64 b, .float .f64 q] 33) := ⟨_, rfl⟩
  obtain ⟨W3, hW3⟩ : ∃ W3, W3 = W2.alloc (.cells #[.slice none 0 0, .slice none 0 0] 25) := ⟨_, rfl⟩
  have b1 : Below w.heap.size w W1 := by rw [hW1]; exact gAl _ _
  have b2 : Below W1.heap.size W1 W2 := by rw [hW2]; exact gAl _ _
  have b3 : Below W2.heap.size W2 W3 := by rw [hW3]; exact gAl _ _
  have s1 : W1.heap.size = w.heap.size + 1 := by rw [hW1]; simp
  have s2 : W2.heap.size = W1.heap.size + 1 := by rw [hW2]; simp
  have s3 : W3.heap.size = W2.heap.size + 1 := by rw [hW3]; simp
  have r1 : W1.heap[w.heap.size]? = some (.cells #[.slice na G.nodes.length nc, .slice la G.links.length lc] 25 (0, 0)) := by rw [hW1]; exact heap_alloc_new w _
  have r2 : W2.heap[W1.heap.size]? = some (.cells #[.int .i64 6, .int .i64 a, .int .i64 b, .float .f64 q] 33 (0, 0)) := by rw [hW2]; exact heap_alloc_new W1 _
  have r3 : W3.heap[W2.heap.size]? = some (.cells #[.slice none 0 0, .slice none 0 0] 25 (0, 0)) := by rw [hW3]; exact heap_alloc_new W2 _
  have hb3 : Below w.heap.size w W3 := gNx (gNx b1 b2) b3
  have q1 : W3.heap[w.heap.size]? = some (.cells #[.slice na G.nodes.length nc, .slice la G.links.length lc] 25 (0, 0)) := (b3.block _ (by omega)).trans ((b2.block _ (by omega)).trans r1)
  have q2 : W3.heap[W1.heap.size]? = some (.cells #[.int .i64 6, .int .i64 a, .int .i64 b, .float .f64 q] 33 (0, 0)) := (b3.block _ (by omega)).trans r2
  obtain ⟨br, hbr⟩ : ∃ br, br = W2.heap.size := ⟨_, rfl⟩
  obtain ⟨bc, hbc⟩ : ∃ bc, bc = W1.heap.size := ⟨_, rfl⟩
  have HBR : Hid (br < W3.heap.size ∧ w.heap.size ≤ br ∧ w.heap.size ≤ W3.heap.size) := Lib.hid (by omega)
  have HKG : Hid (∀ V, Below W3.heap.size W3 V → V.cell? ⟨w.heap.size, 0, none⟩ = some (.slice na G.nodes.length nc) ∧ V.cell? ⟨w.heap.size, 1, none⟩ = some (.slice la G.links.length lc)) := Lib.hid (fun V hV => by
    have := (hV.block w.heap.size (by omega)).trans q1
    exact ⟨by rw [cell_of_row V _ 0 _ _ (0, 0) this]; rfl, by rw [cell_of_row V _ 1 _ _ (0, 0) this]; rfl⟩)
  have HKC : Hid (∀ V, Below W3.heap.size W3 V → V.heap[bc]? = some (.cells #[.int .i64 6, .int .i64 a, .int .i64 b, .float .f64 q] 33 (0, 0))) := Lib.hid (fun V hV => by rw [hbc]; exact (hV.block W1.heap.size (by omega)).trans q2)
  have HRS : Hid (∀ V, Below W3.heap.size W3 V → V.heap[br]? = some (.cells #[.slice none 0 0, .slice none 0 0] 25 (0, 0))) := Lib.hid (fun V hV => by rw [hbr]; exact (hV.block _ (by omega)).trans r3)
  have HWB : Hid (∀ V, Below W3.heap.size W3 V → Below w.heap.size w V) := Lib.hid (fun V hV => gNx hb3 hV)
  have HG2 : Hid (∀ V, Below W3.heap.size W3 V → GrIn V G na la) := Lib.hid (fun V hV => hin.below (gNx hb3 hV))
  have HQ := Lib.hid hin.wts
  have HQQ := Lib.hid hq
  have HSZ : Hid (G.nodes.length * 16 ≤ 140737488351232 ∧ G.links.length * 32 ≤ 140737488351232) := Lib.hid ⟨hin.n1, hin.l1⟩
  clear hin hq b1 b2 b3 r1 r2 r3 q1 q2 hb3 s3
  have HCK := Lib.hid hG
  have HBA := Lib.hid hba
  obtain ⟨n1, n2, n3, n4⟩ := check_zero.1 hG
  have HNP := Lib.hid n3
  have HM1 := Lib.hid (links_iff.1 n4).2
  have HNL : Hid (G.nodes.length ≤ 256 ∧ G.links.length ≤ 4096) := Lib.hid ⟨n1, n2⟩
  clear hG hba n1 n2 n3 n4
  have HCE := Lib.hid (changeE_6 (g := G) HBA.out rfl)
  cases hf : has G.nodes a with
  | false =>
    have HP : Hid (applyE G ⟨6, a, b, q⟩ = 4 ∧ applyG G ⟨6, a, b, q⟩ = gr0) := Lib.hid (apply_no HCK.out (by rw [← show fndE (has G.nodes a) = 4 from by rw [hf]; rfl]; exact HCE.out) (by decide))
    have hpl : placeV G.nodes a < 0 := (placeV_neg _ _).1.2 hf
    clear hf
    go_enter Try.func15, Try.ntmps15
    go_upto_region 1 with (fail)
    rw [← hW1, ← hW2, ← hW3, ← s1, ← s2, ← hbr, ← hbc]
    obtain ⟨g0, g1⟩ := HKG.out W3 (Below.refl _ _)
    clear hW1 hW2 hW3 s1 s2 hbr hbc
    go_wp2_with fail
    refine (rCheck_any G na la nc lc W3 (HG2.out W3 (Below.refl _ _)).nodes (HG2.out W3 (Below.refl _ _)).links HQ.out (by have := HSZ.out; omega) (by have := HSZ.out; omega)).mono ?_
    rintro e V1 ⟨rfl, hb⟩
    rw [HCK.out]
    have B1 := Lib.hid hb
    clear hb g0 g1
    obtain ⟨c0, c1, c2, c3⟩ := cells_four (HKC.out V1 B1.out)
    go_wp2_with fail
    refine (rBare_any 6 a b q V1).mono ?_
    rintro e V2 ⟨rfl, hb⟩
    rw [HBA.out]
    have B2 := Lib.hid (gNx B1.out hb)
    clear hb c0 c1 c2 c3
    obtain ⟨c0, c1, c2, c3⟩ := cells_four (HKC.out V2 B2.out)
    obtain ⟨g0, g1⟩ := HKG.out V2 B2.out
    go_wp2_with fail
    refine (rCopy_any G na la nc lc V2 (HG2.out V2 B2.out).nodes (HG2.out V2 B2.out).links HQ.out (by have := HSZ.out; omega) (by have := HSZ.out; omega)).mono ?_
    rintro e VC ⟨vn0, vl0, rfl, hv, hb⟩
    obtain ⟨an0, cn0, rfl, hNI, hNA⟩ := ownN_in hv.nodes
    obtain ⟨al0, cl0, rfl, hLI, hLA⟩ := ownL_in hv.links
    obtain ⟨W4, hW4⟩ : ∃ W4, W4 = VC.alloc (.cells #[.slice an0 G.nodes.length cn0, .slice al0 G.links.length cl0] 25) := ⟨_, rfl⟩
    obtain ⟨bo, hbo⟩ : ∃ bo, bo = VC.heap.size := ⟨_, rfl⟩
    have b4 : Below V2.heap.size V2 W4 := by rw [hW4]; exact gNx hb (gAl _ _)
    have hga : GrAt W4 V2.heap.size bo (.slice an0 G.nodes.length cn0) (.slice al0 G.links.length cl0) G := ⟨by rw [hbo]; exact hb.size, by rw [hW4, hbo]; exact heap_alloc_new VC _, hv.nodes.below (by rw [hW4]; exact gAl _ _), hv.links.below (by rw [hW4]; exact gAl _ _), HQ.out⟩
    have HGA : Hid (∀ V, Below W4.heap.size W4 V → GrAt V V2.heap.size bo (.slice an0 G.nodes.length cn0) (.slice al0 G.links.length cl0) G) := Lib.hid (fun V hV => hga.below hV)
    have B4 := Lib.hid (gNx B2.out b4)
    have HNA := Lib.hid hNA
    have HLA := Lib.hid hLA
    go_upto_region 12 with (fail)
    rw [← hW4, ← hbo]
    clear hW4 hbo b4 hga hv hb hNI hLI hNA hLA c0 c1 c2 c3 g0 g1
    obtain ⟨c0, c1, c2, c3⟩ := cells_four (HKC.out W4 B4.out)
    obtain ⟨g0, g1⟩ := HKG.out W4 B4.out
    go_wp2_with fail
    refine (rPlace_any G.nodes na nc la G.links.length lc a W4 (HG2.out W4 B4.out).nodes HNP.out (by have := HNL.out; omega)).mono ?_
    rintro e V6 ⟨rfl, hb⟩
    have B6 := Lib.hid (gNx B4.out hb)
    clear hb c0 c1 c2 c3 g0 g1
    have hres := HRS.out V6 B6.out
    obtain ⟨x0, x1, x2, x3⟩ := cells_two hres
    have HRES := Lib.hid hres
    clear hres
    go_wp2_with fail
    have hq1 := heap_setCell_same V6 br 0 _ _ (.slice none 0 0) HRES.out
    have hq2 := heap_setCell_same _ br 1 _ _ (.slice none 0 0) hq1
    refine bodyPost_ret (results_cell2 Try.results15 _ _ br 0 [.slice none 0 0, .slice none 0 0] _ rfl ?_ Try.underlying25 (by rfl) (by kernel_rfl)) rfl ?_
    · intro j v hj
      match j with
      | 0 => simp at hj; subst hj; rw [cell_of_row _ _ _ _ _ (0, 0) hq2]; rfl
      | 1 => simp at hj; subst hj; rw [cell_of_row _ _ _ _ _ (0, 0) hq2]; rfl
      | j + 2 => simp at hj
    · rw [HP.out.1, HP.out.2]
      exact ⟨_, _, rfl, (((grv_0 _ _)).set HRES.out).set hq1, ((HWB.out V6 B6.out).setCell HBR.out.2.1 _).setCell HBR.out.2.1 _⟩
  | true =>
    have HP := Lib.hid (apply_did HCK.out HCE.out (by show fndE (has G.nodes a) = 0; rw [hf]; rfl))
    obtain ⟨hpl, hset⟩ := onNode_set HNP.out (fun n : Nd => { n with mark := true }) hf
    have hln : 0 < G.nodes.length := by omega
    have hpv : placeV G.nodes a = (Nq.ahead G.nodes a : Int) := by unfold placeV; rw [hf]; rfl
    have HPV := Lib.hid hpv
    have HPI : Hid ((Nq.ahead G.nodes a : Int) < (G.nodes.length : Int)) := Lib.hid (by omega)
    have HSET : Hid ((onNode (fun n : Nd => { n with mark := true }) a G.nodes).length = G.nodes.length ∧ ndRow (onNode (fun n : Nd => { n with mark := true }) a G.nodes) = (ndRow G.nodes).set (Nq.ahead G.nodes a * 3 + 2) (.bool true)) := Lib.hid ⟨by simp [onNode], by rw [hset]; exact ndRow_turn _ _ hpl _ 2 _ (by decide) rfl⟩
    have HGET : Hid (∃ u, (ndRow G.nodes)[Nq.ahead G.nodes a * 3 + 2]? = some (.bool u)) := Lib.hid ⟨_, (ndRow_get G.nodes _ hpl).2.2⟩
    have HLN := Lib.hid hln
    have HPN : Hid (Nq.ahead G.nodes a * 3 + 2 < G.nodes.length * 3) := Lib.hid (by omega)
    clear hf hpl hset hln hpv HCE
    go_enter Try.func15, Try.ntmps15
    go_upto_region 1 with (fail)
    rw [← hW1, ← hW2, ← hW3, ← s1, ← s2, ← hbr, ← hbc]
    obtain ⟨g0, g1⟩ := HKG.out W3 (Below.refl _ _)
    clear hW1 hW2 hW3 s1 s2 hbr hbc
    go_wp2_with fail
    refine (rCheck_any G na la nc lc W3 (HG2.out W3 (Below.refl _ _)).nodes (HG2.out W3 (Below.refl _ _)).links HQ.out (by have := HSZ.out; omega) (by have := HSZ.out; omega)).mono ?_
    rintro e V1 ⟨rfl, hb⟩
    rw [HCK.out]
    have B1 := Lib.hid hb
    clear hb g0 g1
    obtain ⟨c0, c1, c2, c3⟩ := cells_four (HKC.out V1 B1.out)
    go_wp2_with fail
    refine (rBare_any 6 a b q V1).mono ?_
    rintro e V2 ⟨rfl, hb⟩
    rw [HBA.out]
    have B2 := Lib.hid (gNx B1.out hb)
    clear hb c0 c1 c2 c3
    obtain ⟨c0, c1, c2, c3⟩ := cells_four (HKC.out V2 B2.out)
    obtain ⟨g0, g1⟩ := HKG.out V2 B2.out
    go_wp2_with fail
    refine (rCopy_any G na la nc lc V2 (HG2.out V2 B2.out).nodes (HG2.out V2 B2.out).links HQ.out (by have := HSZ.out; omega) (by have := HSZ.out; omega)).mono ?_
    rintro e VC ⟨vn0, vl0, rfl, hv, hb⟩
    obtain ⟨an0, cn0, rfl, hNI, hNA⟩ := ownN_in hv.nodes
    obtain ⟨al0, cl0, rfl, hLI, hLA⟩ := ownL_in hv.links
    obtain ⟨W4, hW4⟩ : ∃ W4, W4 = VC.alloc (.cells #[.slice an0 G.nodes.length cn0, .slice al0 G.links.length cl0] 25) := ⟨_, rfl⟩
    obtain ⟨bo, hbo⟩ : ∃ bo, bo = VC.heap.size := ⟨_, rfl⟩
    have b4 : Below V2.heap.size V2 W4 := by rw [hW4]; exact gNx hb (gAl _ _)
    have hga : GrAt W4 V2.heap.size bo (.slice an0 G.nodes.length cn0) (.slice al0 G.links.length cl0) G := ⟨by rw [hbo]; exact hb.size, by rw [hW4, hbo]; exact heap_alloc_new VC _, hv.nodes.below (by rw [hW4]; exact gAl _ _), hv.links.below (by rw [hW4]; exact gAl _ _), HQ.out⟩
    have HGA : Hid (∀ V, Below W4.heap.size W4 V → GrAt V V2.heap.size bo (.slice an0 G.nodes.length cn0) (.slice al0 G.links.length cl0) G) := Lib.hid (fun V hV => hga.below hV)
    have B4 := Lib.hid (gNx B2.out b4)
    have HNA := Lib.hid hNA
    have HLA := Lib.hid hLA
    go_upto_region 12 with (fail)
    rw [← hW4, ← hbo]
    clear hW4 hbo b4 hga hv hb hNI hLI hNA hLA c0 c1 c2 c3 g0 g1
    obtain ⟨c0, c1, c2, c3⟩ := cells_four (HKC.out W4 B4.out)
    obtain ⟨g0, g1⟩ := HKG.out W4 B4.out
    go_wp2_with fail
    refine (rPlace_any G.nodes na nc la G.links.length lc a W4 (HG2.out W4 B4.out).nodes HNP.out (by have := HNL.out; omega)).mono ?_
    rintro e V6 ⟨rfl, hb⟩
    rw [HPV.out]
    have hga := HGA.out V6 hb
    have B6 := Lib.hid (gNx B4.out hb)
    clear HPV
    obtain ⟨g, rfl, hbg⟩ := HNA.out HLN.out
    obtain ⟨g2, cap2, e2, hg2, -, hr, ht⟩ := hga.nodes.range HLN.out
    simp only [Value.slice.injEq, Option.some.injEq, Addr.mk.injEq, and_true, true_and] at e2
    obtain ⟨rfl, rfl⟩ := e2
    obtain ⟨u, hu⟩ := HGET.out
    have r1 : V6.cell? ⟨g, Nq.ahead G.nodes a * 3 + 2, none⟩ = some (.bool u) := by have := hr _ _ hu; rw [Nat.zero_add] at this; exact this
    have r2 : V6.frozen? ⟨g, Nq.ahead G.nodes a * 3 + 2, none⟩ = false := by have := (ht (Nq.ahead G.nodes a * 3 + 2) HPN.out).2; rw [Nat.zero_add] at this; exact this
    have HTURN := Lib.hid (hga.turnN (Nq.ahead G.nodes a * 3 + 2) (.bool true) HLN.out HSET.out.1 HSET.out.2)
    obtain ⟨d0, d1, -, -⟩ := hga.cells
    have hpi := HPI.out
    have hp0 : (0 : Int) ≤ (Nq.ahead G.nodes a : Int) := by omega
    clear hb hga hbg hg2 hr ht hu c0 c1 c2 c3 g0 g1 HNA HGET HPI HPN
    obtain ⟨c0, c1, c2, c3⟩ := cells_four (HKC.out V6 B6.out)
    generalize Nq.ahead G.nodes a = pos at *
    obtain ⟨N2, hN2⟩ : ∃ N2, N2 = onNode (fun n : Nd => { n with mark := true }) a G.nodes := ⟨_, rfl⟩
    have HP : Hid (applyE G ⟨6, a, b, q⟩ = 0 ∧ applyG G ⟨6, a, b, q⟩ = { G with nodes := N2 }) := Lib.hid (by rw [hN2]; exact HP.out)
    have HNN : Hid (N2.length = G.nodes.length) := Lib.hid (by rw [hN2]; exact HSET.out.1)
    have HTURN : Hid (GrAt (V6.setCell ⟨g, pos * 3 + 2, none⟩ (.bool true)) V2.heap.size bo (.slice (some ⟨g, 0, none⟩) G.nodes.length cn0) (.slice al0 G.links.length cl0) { G with nodes := N2 } ∧ Below V2.heap.size V6 (V6.setCell ⟨g, pos * 3 + 2, none⟩ (.bool true))) := Lib.hid (by rw [hN2]; exact HTURN.out)
    clear hN2 HSET
    go_upto_region 24 with (fail)
    obtain ⟨W7, hW7⟩ : ∃ W7, W7 = V6.setCell ⟨g, pos * 3 + 2, none⟩ (.bool true) := ⟨_, rfl⟩
    rw [← hW7]
    have ht7 := HTURN.out
    rw [← hW7] at ht7
    clear hW7 HTURN d0 d1 r1 r2 c0 c1 c2 c3 hpi hp0
    have B7 : Hid (Below W3.heap.size W3 W7) := Lib.hid (B6.out.trans (ht7.2.mono B2.out.size))
    obtain ⟨d0, d1, -, -⟩ := ht7.1.cells
    have HGT := Lib.hid ht7.1
    clear ht7
    have hres := HRS.out W7 B7.out
    obtain ⟨x0, x1, x2, x3⟩ := cells_two hres
    have HRES := Lib.hid hres
    clear hres
    go_wp2_with fail
    have hq1 := heap_setCell_same W7 br 0 _ _ (.slice (some ⟨g, 0, none⟩) G.nodes.length cn0) HRES.out
    have hq2 := heap_setCell_same _ br 1 _ _ (.slice al0 G.links.length cl0) hq1
    refine bodyPost_ret (results_cell2 Try.results15 _ _ br 0 [.slice (some ⟨g, 0, none⟩) G.nodes.length cn0, .slice al0 G.links.length cl0] _ rfl ?_ Try.underlying25 (by rfl) (by kernel_rfl)) rfl ?_
    · intro j v hj
      match j with
      | 0 => simp at hj; subst hj; rw [cell_of_row _ _ _ _ _ (0, 0) hq2]; rfl
      | 1 => simp at hj; subst hj; rw [cell_of_row _ _ _ _ _ (0, 0) hq2]; rfl
      | j + 2 => simp at hj
    · rw [HP.out.1, HP.out.2]
      exact ⟨_, _, rfl, (((HGT.out.v.mono (Nat.le_trans HBR.out.2.2 B2.out.size))).set HRES.out).set hq1, ((HWB.out W7 B7.out).setCell HBR.out.2.1 _).setCell HBR.out.2.1 _⟩
set_option maxHeartbeats 8000000 in
theorem rApply_7 (G : Gr) (na : Option Addr) (nc : Nat) (la : Option Addr) (lc : Nat) (a b : Int) (q : Nat) (w : World) (hin : GrIn w G na la) (hq : q < 2 ^ 64) (hG : checkG G = 0) (hba : bareB ⟨7, a, b, q⟩ = true) :
    Calls Try.prog 15 #[.agg #[.slice na G.nodes.length nc, .slice la G.links.length lc], .agg #[.int .i64 7, .int .i64 a, .int .i64 b, .float .f64 q]] w fun e w' => LiveEnds w (applyG G ⟨7, a, b, q⟩) (applyE G ⟨7, a, b, q⟩) e w' := by
  have hst := g_storeL
  obtain ⟨W1, hW1⟩ : ∃ W1, W1 = w.alloc (.cells #[.slice na G.nodes.length nc, .slice la G.links.length lc] 25) := ⟨_, rfl⟩
  obtain ⟨W2, hW2⟩ : ∃ W2, W2 = W1.alloc (.cells #[.int .i64 7, .int .i64 a, .int .i64 b, .float .f64 q] 33) := ⟨_, rfl⟩
  obtain ⟨W3, hW3⟩ : ∃ W3, W3 = W2.alloc (.cells #[.slice none 0 0, .slice none 0 0] 25) := ⟨_, rfl⟩
  have b1 : Below w.heap.size w W1 := by rw [hW1]; exact gAl _ _
  have b2 : Below W1.heap.size W1 W2 := by rw [hW2]; exact gAl _ _
  have b3 : Below W2.heap.size W2 W3 := by rw [hW3]; exact gAl _ _
  have s1 : W1.heap.size = w.heap.size + 1 := by rw [hW1]; simp
  have s2 : W2.heap.size = W1.heap.size + 1 := by rw [hW2]; simp
  have s3 : W3.heap.size = W2.heap.size + 1 := by rw [hW3]; simp
  have r1 : W1.heap[w.heap.size]? = some (.cells #[.slice na G.nodes.length nc, .slice la G.links.length lc] 25 (0, 0)) := by rw [hW1]; exact heap_alloc_new w _
  have r2 : W2.heap[W1.heap.size]? = some (.cells #[.int .i64 7, .int .i64 a, .int .i64 b, .float .f64 q] 33 (0, 0)) := by rw [hW2]; exact heap_alloc_new W1 _
  have r3 : W3.heap[W2.heap.size]? = some (.cells #[.slice none 0 0, .slice none 0 0] 25 (0, 0)) := by rw [hW3]; exact heap_alloc_new W2 _
  have hb3 : Below w.heap.size w W3 := gNx (gNx b1 b2) b3
  have q1 : W3.heap[w.heap.size]? = some (.cells #[.slice na G.nodes.length nc, .slice la G.links.length lc] 25 (0, 0)) := (b3.block _ (by omega)).trans ((b2.block _ (by omega)).trans r1)
  have q2 : W3.heap[W1.heap.size]? = some (.cells #[.int .i64 7, .int .i64 a, .int .i64 b, .float .f64 q] 33 (0, 0)) := (b3.block _ (by omega)).trans r2
  obtain ⟨br, hbr⟩ : ∃ br, br = W2.heap.size := ⟨_, rfl⟩
  obtain ⟨bc, hbc⟩ : ∃ bc, bc = W1.heap.size := ⟨_, rfl⟩
  have HBR : Hid (br < W3.heap.size ∧ w.heap.size ≤ br ∧ w.heap.size ≤ W3.heap.size) := Lib.hid (by omega)
  have HKG : Hid (∀ V, Below W3.heap.size W3 V → V.cell? ⟨w.heap.size, 0, none⟩ = some (.slice na G.nodes.length nc) ∧ V.cell? ⟨w.heap.size, 1, none⟩ = some (.slice la G.links.length lc)) := Lib.hid (fun V hV => by
    have := (hV.block w.heap.size (by omega)).trans q1
    exact ⟨by rw [cell_of_row V _ 0 _ _ (0, 0) this]; rfl, by rw [cell_of_row V _ 1 _ _ (0, 0) this]; rfl⟩)
  have HKC : Hid (∀ V, Below W3.heap.size W3 V → V.heap[bc]? = some (.cells #[.int .i64 7, .int .i64 a, .int .i64 b, .float .f64 q] 33 (0, 0))) := Lib.hid (fun V hV => by rw [hbc]; exact (hV.block W1.heap.size (by omega)).trans q2)
  have HRS : Hid (∀ V, Below W3.heap.size W3 V → V.heap[br]? = some (.cells #[.slice none 0 0, .slice none 0 0] 25 (0, 0))) := Lib.hid (fun V hV => by rw [hbr]; exact (hV.block _ (by omega)).trans r3)
  have HWB : Hid (∀ V, Below W3.heap.size W3 V → Below w.heap.size w V) := Lib.hid (fun V hV => gNx hb3 hV)
  have HG2 : Hid (∀ V, Below W3.heap.size W3 V → GrIn V G na la) := Lib.hid (fun V hV => hin.below (gNx hb3 hV))
  have HQ := Lib.hid hin.wts
  have HQQ := Lib.hid hq
  have HSZ : Hid (G.nodes.length * 16 ≤ 140737488351232 ∧ G.links.length * 32 ≤ 140737488351232) := Lib.hid ⟨hin.n1, hin.l1⟩
  clear hin hq b1 b2 b3 r1 r2 r3 q1 q2 hb3 s3
  have HCK := Lib.hid hG
  have HBA := Lib.hid hba
  obtain ⟨n1, n2, n3, n4⟩ := check_zero.1 hG
  have HNP := Lib.hid n3
  have HM1 := Lib.hid (links_iff.1 n4).2
  have HNL : Hid (G.nodes.length ≤ 256 ∧ G.links.length ≤ 4096) := Lib.hid ⟨n1, n2⟩
  clear hG hba n1 n2 n3 n4
  have HCE := Lib.hid (changeE_7 (g := G) HBA.out rfl)
  cases hf : has G.nodes a with
  | false =>
    have HP : Hid (applyE G ⟨7, a, b, q⟩ = 4 ∧ applyG G ⟨7, a, b, q⟩ = gr0) := Lib.hid (apply_no HCK.out (by rw [← show fndE (has G.nodes a) = 4 from by rw [hf]; rfl]; exact HCE.out) (by decide))
    have hpl : placeV G.nodes a < 0 := (placeV_neg _ _).1.2 hf
    clear hf
    go_enter Try.func15, Try.ntmps15
    go_upto_region 1 with (fail)
    rw [← hW1, ← hW2, ← hW3, ← s1, ← s2, ← hbr, ← hbc]
    obtain ⟨g0, g1⟩ := HKG.out W3 (Below.refl _ _)
    clear hW1 hW2 hW3 s1 s2 hbr hbc
    go_wp2_with fail
    refine (rCheck_any G na la nc lc W3 (HG2.out W3 (Below.refl _ _)).nodes (HG2.out W3 (Below.refl _ _)).links HQ.out (by have := HSZ.out; omega) (by have := HSZ.out; omega)).mono ?_
    rintro e V1 ⟨rfl, hb⟩
    rw [HCK.out]
    have B1 := Lib.hid hb
    clear hb g0 g1
    obtain ⟨c0, c1, c2, c3⟩ := cells_four (HKC.out V1 B1.out)
    go_wp2_with fail
    refine (rBare_any 7 a b q V1).mono ?_
    rintro e V2 ⟨rfl, hb⟩
    rw [HBA.out]
    have B2 := Lib.hid (gNx B1.out hb)
    clear hb c0 c1 c2 c3
    obtain ⟨c0, c1, c2, c3⟩ := cells_four (HKC.out V2 B2.out)
    obtain ⟨g0, g1⟩ := HKG.out V2 B2.out
    go_wp2_with fail
    refine (rCopy_any G na la nc lc V2 (HG2.out V2 B2.out).nodes (HG2.out V2 B2.out).links HQ.out (by have := HSZ.out; omega) (by have := HSZ.out; omega)).mono ?_
    rintro e VC ⟨vn0, vl0, rfl, hv, hb⟩
    obtain ⟨an0, cn0, rfl, hNI, hNA⟩ := ownN_in hv.nodes
    obtain ⟨al0, cl0, rfl, hLI, hLA⟩ := ownL_in hv.links
    obtain ⟨W4, hW4⟩ : ∃ W4, W4 = VC.alloc (.cells #[.slice an0 G.nodes.length cn0, .slice al0 G.links.length cl0] 25) := ⟨_, rfl⟩
    obtain ⟨bo, hbo⟩ : ∃ bo, bo = VC.heap.size := ⟨_, rfl⟩
    have b4 : Below V2.heap.size V2 W4 := by rw [hW4]; exact gNx hb (gAl _ _)
    have hga : GrAt W4 V2.heap.size bo (.slice an0 G.nodes.length cn0) (.slice al0 G.links.length cl0) G := ⟨by rw [hbo]; exact hb.size, by rw [hW4, hbo]; exact heap_alloc_new VC _, hv.nodes.below (by rw [hW4]; exact gAl _ _), hv.links.below (by rw [hW4]; exact gAl _ _), HQ.out⟩
    have HGA : Hid (∀ V, Below W4.heap.size W4 V → GrAt V V2.heap.size bo (.slice an0 G.nodes.length cn0) (.slice al0 G.links.length cl0) G) := Lib.hid (fun V hV => hga.below hV)
    have B4 := Lib.hid (gNx B2.out b4)
    have HNA := Lib.hid hNA
    have HLA := Lib.hid hLA
    go_upto_region 12 with (fail)
    rw [← hW4, ← hbo]
    clear hW4 hbo b4 hga hv hb hNI hLI hNA hLA c0 c1 c2 c3 g0 g1
    obtain ⟨c0, c1, c2, c3⟩ := cells_four (HKC.out W4 B4.out)
    obtain ⟨g0, g1⟩ := HKG.out W4 B4.out
    go_wp2_with fail
    refine (rPlace_any G.nodes na nc la G.links.length lc a W4 (HG2.out W4 B4.out).nodes HNP.out (by have := HNL.out; omega)).mono ?_
    rintro e V6 ⟨rfl, hb⟩
    have B6 := Lib.hid (gNx B4.out hb)
    clear hb c0 c1 c2 c3 g0 g1
    have hres := HRS.out V6 B6.out
    obtain ⟨x0, x1, x2, x3⟩ := cells_two hres
    have HRES := Lib.hid hres
    clear hres
    go_wp2_with fail
    have hq1 := heap_setCell_same V6 br 0 _ _ (.slice none 0 0) HRES.out
    have hq2 := heap_setCell_same _ br 1 _ _ (.slice none 0 0) hq1
    refine bodyPost_ret (results_cell2 Try.results15 _ _ br 0 [.slice none 0 0, .slice none 0 0] _ rfl ?_ Try.underlying25 (by rfl) (by kernel_rfl)) rfl ?_
    · intro j v hj
      match j with
      | 0 => simp at hj; subst hj; rw [cell_of_row _ _ _ _ _ (0, 0) hq2]; rfl
      | 1 => simp at hj; subst hj; rw [cell_of_row _ _ _ _ _ (0, 0) hq2]; rfl
      | j + 2 => simp at hj
    · rw [HP.out.1, HP.out.2]
      exact ⟨_, _, rfl, (((grv_0 _ _)).set HRES.out).set hq1, ((HWB.out V6 B6.out).setCell HBR.out.2.1 _).setCell HBR.out.2.1 _⟩
  | true =>
    have HP := Lib.hid (apply_did HCK.out HCE.out (by show fndE (has G.nodes a) = 0; rw [hf]; rfl))
    obtain ⟨hpl, hset⟩ := onNode_set HNP.out (fun n : Nd => { n with mark := false }) hf
    have hln : 0 < G.nodes.length := by omega
    have hpv : placeV G.nodes a = (Nq.ahead G.nodes a : Int) := by unfold placeV; rw [hf]; rfl
    have HPV := Lib.hid hpv
    have HPI : Hid ((Nq.ahead G.nodes a : Int) < (G.nodes.length : Int)) := Lib.hid (by omega)
    have HSET : Hid ((onNode (fun n : Nd => { n with mark := false }) a G.nodes).length = G.nodes.length ∧ ndRow (onNode (fun n : Nd => { n with mark := false }) a G.nodes) = (ndRow G.nodes).set (Nq.ahead G.nodes a * 3 + 2) (.bool false)) := Lib.hid ⟨by simp [onNode], by rw [hset]; exact ndRow_turn _ _ hpl _ 2 _ (by decide) rfl⟩
    have HGET : Hid (∃ u, (ndRow G.nodes)[Nq.ahead G.nodes a * 3 + 2]? = some (.bool u)) := Lib.hid ⟨_, (ndRow_get G.nodes _ hpl).2.2⟩
    have HLN := Lib.hid hln
    have HPN : Hid (Nq.ahead G.nodes a * 3 + 2 < G.nodes.length * 3) := Lib.hid (by omega)
    clear hf hpl hset hln hpv HCE
    go_enter Try.func15, Try.ntmps15
    go_upto_region 1 with (fail)
    rw [← hW1, ← hW2, ← hW3, ← s1, ← s2, ← hbr, ← hbc]
    obtain ⟨g0, g1⟩ := HKG.out W3 (Below.refl _ _)
    clear hW1 hW2 hW3 s1 s2 hbr hbc
    go_wp2_with fail
    refine (rCheck_any G na la nc lc W3 (HG2.out W3 (Below.refl _ _)).nodes (HG2.out W3 (Below.refl _ _)).links HQ.out (by have := HSZ.out; omega) (by have := HSZ.out; omega)).mono ?_
    rintro e V1 ⟨rfl, hb⟩
    rw [HCK.out]
    have B1 := Lib.hid hb
    clear hb g0 g1
    obtain ⟨c0, c1, c2, c3⟩ := cells_four (HKC.out V1 B1.out)
    go_wp2_with fail
    refine (rBare_any 7 a b q V1).mono ?_
    rintro e V2 ⟨rfl, hb⟩
    rw [HBA.out]
    have B2 := Lib.hid (gNx B1.out hb)
    clear hb c0 c1 c2 c3
    obtain ⟨c0, c1, c2, c3⟩ := cells_four (HKC.out V2 B2.out)
    obtain ⟨g0, g1⟩ := HKG.out V2 B2.out
    go_wp2_with fail
    refine (rCopy_any G na la nc lc V2 (HG2.out V2 B2.out).nodes (HG2.out V2 B2.out).links HQ.out (by have := HSZ.out; omega) (by have := HSZ.out; omega)).mono ?_
    rintro e VC ⟨vn0, vl0, rfl, hv, hb⟩
    obtain ⟨an0, cn0, rfl, hNI, hNA⟩ := ownN_in hv.nodes
    obtain ⟨al0, cl0, rfl, hLI, hLA⟩ := ownL_in hv.links
    obtain ⟨W4, hW4⟩ : ∃ W4, W4 = VC.alloc (.cells #[.slice an0 G.nodes.length cn0, .slice al0 G.links.length cl0] 25) := ⟨_, rfl⟩
    obtain ⟨bo, hbo⟩ : ∃ bo, bo = VC.heap.size := ⟨_, rfl⟩
    have b4 : Below V2.heap.size V2 W4 := by rw [hW4]; exact gNx hb (gAl _ _)
    have hga : GrAt W4 V2.heap.size bo (.slice an0 G.nodes.length cn0) (.slice al0 G.links.length cl0) G := ⟨by rw [hbo]; exact hb.size, by rw [hW4, hbo]; exact heap_alloc_new VC _, hv.nodes.below (by rw [hW4]; exact gAl _ _), hv.links.below (by rw [hW4]; exact gAl _ _), HQ.out⟩
    have HGA : Hid (∀ V, Below W4.heap.size W4 V → GrAt V V2.heap.size bo (.slice an0 G.nodes.length cn0) (.slice al0 G.links.length cl0) G) := Lib.hid (fun V hV => hga.below hV)
    have B4 := Lib.hid (gNx B2.out b4)
    have HNA := Lib.hid hNA
    have HLA := Lib.hid hLA
    go_upto_region 12 with (fail)
    rw [← hW4, ← hbo]
    clear hW4 hbo b4 hga hv hb hNI hLI hNA hLA c0 c1 c2 c3 g0 g1
    obtain ⟨c0, c1, c2, c3⟩ := cells_four (HKC.out W4 B4.out)
    obtain ⟨g0, g1⟩ := HKG.out W4 B4.out
    go_wp2_with fail
    refine (rPlace_any G.nodes na nc la G.links.length lc a W4 (HG2.out W4 B4.out).nodes HNP.out (by have := HNL.out; omega)).mono ?_
    rintro e V6 ⟨rfl, hb⟩
    rw [HPV.out]
    have hga := HGA.out V6 hb
    have B6 := Lib.hid (gNx B4.out hb)
    clear HPV
    obtain ⟨g, rfl, hbg⟩ := HNA.out HLN.out
    obtain ⟨g2, cap2, e2, hg2, -, hr, ht⟩ := hga.nodes.range HLN.out
    simp only [Value.slice.injEq, Option.some.injEq, Addr.mk.injEq, and_true, true_and] at e2
    obtain ⟨rfl, rfl⟩ := e2
    obtain ⟨u, hu⟩ := HGET.out
    have r1 : V6.cell? ⟨g, Nq.ahead G.nodes a * 3 + 2, none⟩ = some (.bool u) := by have := hr _ _ hu; rw [Nat.zero_add] at this; exact this
    have r2 : V6.frozen? ⟨g, Nq.ahead G.nodes a * 3 + 2, none⟩ = false := by have := (ht (Nq.ahead G.nodes a * 3 + 2) HPN.out).2; rw [Nat.zero_add] at this; exact this
    have HTURN := Lib.hid (hga.turnN (Nq.ahead G.nodes a * 3 + 2) (.bool false) HLN.out HSET.out.1 HSET.out.2)
    obtain ⟨d0, d1, -, -⟩ := hga.cells
    have hpi := HPI.out
    have hp0 : (0 : Int) ≤ (Nq.ahead G.nodes a : Int) := by omega
    clear hb hga hbg hg2 hr ht hu c0 c1 c2 c3 g0 g1 HNA HGET HPI HPN
    obtain ⟨c0, c1, c2, c3⟩ := cells_four (HKC.out V6 B6.out)
    generalize Nq.ahead G.nodes a = pos at *
    obtain ⟨N2, hN2⟩ : ∃ N2, N2 = onNode (fun n : Nd => { n with mark := false }) a G.nodes := ⟨_, rfl⟩
    have HP : Hid (applyE G ⟨7, a, b, q⟩ = 0 ∧ applyG G ⟨7, a, b, q⟩ = { G with nodes := N2 }) := Lib.hid (by rw [hN2]; exact HP.out)
    have HNN : Hid (N2.length = G.nodes.length) := Lib.hid (by rw [hN2]; exact HSET.out.1)
    have HTURN : Hid (GrAt (V6.setCell ⟨g, pos * 3 + 2, none⟩ (.bool false)) V2.heap.size bo (.slice (some ⟨g, 0, none⟩) G.nodes.length cn0) (.slice al0 G.links.length cl0) { G with nodes := N2 } ∧ Below V2.heap.size V6 (V6.setCell ⟨g, pos * 3 + 2, none⟩ (.bool false))) := Lib.hid (by rw [hN2]; exact HTURN.out)
    clear hN2 HSET
    go_upto_region 24 with (fail)
    obtain ⟨W7, hW7⟩ : ∃ W7, W7 = V6.setCell ⟨g, pos * 3 + 2, none⟩ (.bool false) := ⟨_, rfl⟩
    rw [← hW7]
    have ht7 := HTURN.out
    rw [← hW7] at ht7
    clear hW7 HTURN d0 d1 r1 r2 c0 c1 c2 c3 hpi hp0
    have B7 : Hid (Below W3.heap.size W3 W7) := Lib.hid (B6.out.trans (ht7.2.mono B2.out.size))
    obtain ⟨d0, d1, -, -⟩ := ht7.1.cells
    have HGT := Lib.hid ht7.1
    clear ht7
    have hres := HRS.out W7 B7.out
    obtain ⟨x0, x1, x2, x3⟩ := cells_two hres
    have HRES := Lib.hid hres
    clear hres
    go_wp2_with fail
    have hq1 := heap_setCell_same W7 br 0 _ _ (.slice (some ⟨g, 0, none⟩) G.nodes.length cn0) HRES.out
    have hq2 := heap_setCell_same _ br 1 _ _ (.slice al0 G.links.length cl0) hq1
    refine bodyPost_ret (results_cell2 Try.results15 _ _ br 0 [.slice (some ⟨g, 0, none⟩) G.nodes.length cn0, .slice al0 G.links.length cl0] _ rfl ?_ Try.underlying25 (by rfl) (by kernel_rfl)) rfl ?_
    · intro j v hj
      match j with
      | 0 => simp at hj; subst hj; rw [cell_of_row _ _ _ _ _ (0, 0) hq2]; rfl
      | 1 => simp at hj; subst hj; rw [cell_of_row _ _ _ _ _ (0, 0) hq2]; rfl
      | j + 2 => simp at hj
    · rw [HP.out.1, HP.out.2]
      exact ⟨_, _, rfl, (((HGT.out.v.mono (Nat.le_trans HBR.out.2.2 B2.out.size))).set HRES.out).set hq1, ((HWB.out W7 B7.out).setCell HBR.out.2.1 _).setCell HBR.out.2.1 _⟩
set_option maxHeartbeats 8000000 in
theorem rApply_8 (G : Gr) (na : Option Addr) (nc : Nat) (la : Option Addr) (lc : Nat) (a b : Int) (q : Nat) (w : World) (hin : GrIn w G na la) (hq : q < 2 ^ 64) (hG : checkG G = 0) (hba : bareB ⟨8, a, b, q⟩ = true) :
    Calls Try.prog 15 #[.agg #[.slice na G.nodes.length nc, .slice la G.links.length lc], .agg #[.int .i64 8, .int .i64 a, .int .i64 b, .float .f64 q]] w fun e w' => LiveEnds w (applyG G ⟨8, a, b, q⟩) (applyE G ⟨8, a, b, q⟩) e w' := by
  have hst := g_storeL
  obtain ⟨W1, hW1⟩ : ∃ W1, W1 = w.alloc (.cells #[.slice na G.nodes.length nc, .slice la G.links.length lc] 25) := ⟨_, rfl⟩
  obtain ⟨W2, hW2⟩ : ∃ W2, W2 = W1.alloc (.cells #[.int .i64 8, .int .i64 a, .int .i64 b, .float .f64 q] 33) := ⟨_, rfl⟩
  obtain ⟨W3, hW3⟩ : ∃ W3, W3 = W2.alloc (.cells #[.slice none 0 0, .slice none 0 0] 25) := ⟨_, rfl⟩
  have b1 : Below w.heap.size w W1 := by rw [hW1]; exact gAl _ _
  have b2 : Below W1.heap.size W1 W2 := by rw [hW2]; exact gAl _ _
  have b3 : Below W2.heap.size W2 W3 := by rw [hW3]; exact gAl _ _
  have s1 : W1.heap.size = w.heap.size + 1 := by rw [hW1]; simp
  have s2 : W2.heap.size = W1.heap.size + 1 := by rw [hW2]; simp
  have s3 : W3.heap.size = W2.heap.size + 1 := by rw [hW3]; simp
  have r1 : W1.heap[w.heap.size]? = some (.cells #[.slice na G.nodes.length nc, .slice la G.links.length lc] 25 (0, 0)) := by rw [hW1]; exact heap_alloc_new w _
  have r2 : W2.heap[W1.heap.size]? = some (.cells #[.int .i64 8, .int .i64 a, .int .i64 b, .float .f64 q] 33 (0, 0)) := by rw [hW2]; exact heap_alloc_new W1 _
  have r3 : W3.heap[W2.heap.size]? = some (.cells #[.slice none 0 0, .slice none 0 0] 25 (0, 0)) := by rw [hW3]; exact heap_alloc_new W2 _
  have hb3 : Below w.heap.size w W3 := gNx (gNx b1 b2) b3
  have q1 : W3.heap[w.heap.size]? = some (.cells #[.slice na G.nodes.length nc, .slice la G.links.length lc] 25 (0, 0)) := (b3.block _ (by omega)).trans ((b2.block _ (by omega)).trans r1)
  have q2 : W3.heap[W1.heap.size]? = some (.cells #[.int .i64 8, .int .i64 a, .int .i64 b, .float .f64 q] 33 (0, 0)) := (b3.block _ (by omega)).trans r2
  obtain ⟨br, hbr⟩ : ∃ br, br = W2.heap.size := ⟨_, rfl⟩
  obtain ⟨bc, hbc⟩ : ∃ bc, bc = W1.heap.size := ⟨_, rfl⟩
  have HBR : Hid (br < W3.heap.size ∧ w.heap.size ≤ br ∧ w.heap.size ≤ W3.heap.size) := Lib.hid (by omega)
  have HKG : Hid (∀ V, Below W3.heap.size W3 V → V.cell? ⟨w.heap.size, 0, none⟩ = some (.slice na G.nodes.length nc) ∧ V.cell? ⟨w.heap.size, 1, none⟩ = some (.slice la G.links.length lc)) := Lib.hid (fun V hV => by
    have := (hV.block w.heap.size (by omega)).trans q1
    exact ⟨by rw [cell_of_row V _ 0 _ _ (0, 0) this]; rfl, by rw [cell_of_row V _ 1 _ _ (0, 0) this]; rfl⟩)
  have HKC : Hid (∀ V, Below W3.heap.size W3 V → V.heap[bc]? = some (.cells #[.int .i64 8, .int .i64 a, .int .i64 b, .float .f64 q] 33 (0, 0))) := Lib.hid (fun V hV => by rw [hbc]; exact (hV.block W1.heap.size (by omega)).trans q2)
  have HRS : Hid (∀ V, Below W3.heap.size W3 V → V.heap[br]? = some (.cells #[.slice none 0 0, .slice none 0 0] 25 (0, 0))) := Lib.hid (fun V hV => by rw [hbr]; exact (hV.block _ (by omega)).trans r3)
  have HWB : Hid (∀ V, Below W3.heap.size W3 V → Below w.heap.size w V) := Lib.hid (fun V hV => gNx hb3 hV)
  have HG2 : Hid (∀ V, Below W3.heap.size W3 V → GrIn V G na la) := Lib.hid (fun V hV => hin.below (gNx hb3 hV))
  have HQ := Lib.hid hin.wts
  have HQQ := Lib.hid hq
  have HSZ : Hid (G.nodes.length * 16 ≤ 140737488351232 ∧ G.links.length * 32 ≤ 140737488351232) := Lib.hid ⟨hin.n1, hin.l1⟩
  clear hin hq b1 b2 b3 r1 r2 r3 q1 q2 hb3 s3
  have HCK := Lib.hid hG
  have HBA := Lib.hid hba
  obtain ⟨n1, n2, n3, n4⟩ := check_zero.1 hG
  have HNP := Lib.hid n3
  have HM1 := Lib.hid (links_iff.1 n4).2
  have HNL : Hid (G.nodes.length ≤ 256 ∧ G.links.length ≤ 4096) := Lib.hid ⟨n1, n2⟩
  clear hG hba n1 n2 n3 n4
  have HCE := Lib.hid (changeE_8 (g := G) HBA.out rfl)
  cases hf : has G.nodes a with
  | false =>
    have HP : Hid (applyE G ⟨8, a, b, q⟩ = 4 ∧ applyG G ⟨8, a, b, q⟩ = gr0) := Lib.hid (apply_no HCK.out (by rw [← show fndE (has G.nodes a) = 4 from by rw [hf]; rfl]; exact HCE.out) (by decide))
    have hpl : placeV G.nodes a < 0 := (placeV_neg _ _).1.2 hf
    clear hf
    go_enter Try.func15, Try.ntmps15
    go_upto_region 1 with (fail)
    rw [← hW1, ← hW2, ← hW3, ← s1, ← s2, ← hbr, ← hbc]
    obtain ⟨g0, g1⟩ := HKG.out W3 (Below.refl _ _)
    clear hW1 hW2 hW3 s1 s2 hbr hbc
    go_wp2_with fail
    refine (rCheck_any G na la nc lc W3 (HG2.out W3 (Below.refl _ _)).nodes (HG2.out W3 (Below.refl _ _)).links HQ.out (by have := HSZ.out; omega) (by have := HSZ.out; omega)).mono ?_
    rintro e V1 ⟨rfl, hb⟩
    rw [HCK.out]
    have B1 := Lib.hid hb
    clear hb g0 g1
    obtain ⟨c0, c1, c2, c3⟩ := cells_four (HKC.out V1 B1.out)
    go_wp2_with fail
    refine (rBare_any 8 a b q V1).mono ?_
    rintro e V2 ⟨rfl, hb⟩
    rw [HBA.out]
    have B2 := Lib.hid (gNx B1.out hb)
    clear hb c0 c1 c2 c3
    obtain ⟨c0, c1, c2, c3⟩ := cells_four (HKC.out V2 B2.out)
    obtain ⟨g0, g1⟩ := HKG.out V2 B2.out
    go_wp2_with fail
    refine (rCopy_any G na la nc lc V2 (HG2.out V2 B2.out).nodes (HG2.out V2 B2.out).links HQ.out (by have := HSZ.out; omega) (by have := HSZ.out; omega)).mono ?_
    rintro e VC ⟨vn0, vl0, rfl, hv, hb⟩
    obtain ⟨an0, cn0, rfl, hNI, hNA⟩ := ownN_in hv.nodes
    obtain ⟨al0, cl0, rfl, hLI, hLA⟩ := ownL_in hv.links
    obtain ⟨W4, hW4⟩ : ∃ W4, W4 = VC.alloc (.cells #[.slice an0 G.nodes.length cn0, .slice al0 G.links.length cl0] 25) := ⟨_, rfl⟩
    obtain ⟨bo, hbo⟩ : ∃ bo, bo = VC.heap.size := ⟨_, rfl⟩
    have b4 : Below V2.heap.size V2 W4 := by rw [hW4]; exact gNx hb (gAl _ _)
    have hga : GrAt W4 V2.heap.size bo (.slice an0 G.nodes.length cn0) (.slice al0 G.links.length cl0) G := ⟨by rw [hbo]; exact hb.size, by rw [hW4, hbo]; exact heap_alloc_new VC _, hv.nodes.below (by rw [hW4]; exact gAl _ _), hv.links.below (by rw [hW4]; exact gAl _ _), HQ.out⟩
    have HGA : Hid (∀ V, Below W4.heap.size W4 V → GrAt V V2.heap.size bo (.slice an0 G.nodes.length cn0) (.slice al0 G.links.length cl0) G) := Lib.hid (fun V hV => hga.below hV)
    have B4 := Lib.hid (gNx B2.out b4)
    have HNA := Lib.hid hNA
    have HLA := Lib.hid hLA
    go_upto_region 12 with (fail)
    rw [← hW4, ← hbo]
    clear hW4 hbo b4 hga hv hb hNI hLI hNA hLA c0 c1 c2 c3 g0 g1
    obtain ⟨c0, c1, c2, c3⟩ := cells_four (HKC.out W4 B4.out)
    obtain ⟨g0, g1⟩ := HKG.out W4 B4.out
    go_wp2_with fail
    refine (rPlace_any G.nodes na nc la G.links.length lc a W4 (HG2.out W4 B4.out).nodes HNP.out (by have := HNL.out; omega)).mono ?_
    rintro e V6 ⟨rfl, hb⟩
    have B6 := Lib.hid (gNx B4.out hb)
    clear hb c0 c1 c2 c3 g0 g1
    have hres := HRS.out V6 B6.out
    obtain ⟨x0, x1, x2, x3⟩ := cells_two hres
    have HRES := Lib.hid hres
    clear hres
    go_wp2_with fail
    have hq1 := heap_setCell_same V6 br 0 _ _ (.slice none 0 0) HRES.out
    have hq2 := heap_setCell_same _ br 1 _ _ (.slice none 0 0) hq1
    refine bodyPost_ret (results_cell2 Try.results15 _ _ br 0 [.slice none 0 0, .slice none 0 0] _ rfl ?_ Try.underlying25 (by rfl) (by kernel_rfl)) rfl ?_
    · intro j v hj
      match j with
      | 0 => simp at hj; subst hj; rw [cell_of_row _ _ _ _ _ (0, 0) hq2]; rfl
      | 1 => simp at hj; subst hj; rw [cell_of_row _ _ _ _ _ (0, 0) hq2]; rfl
      | j + 2 => simp at hj
    · rw [HP.out.1, HP.out.2]
      exact ⟨_, _, rfl, (((grv_0 _ _)).set HRES.out).set hq1, ((HWB.out V6 B6.out).setCell HBR.out.2.1 _).setCell HBR.out.2.1 _⟩
  | true =>
    have HP := Lib.hid (apply_did HCK.out HCE.out (by show fndE (has G.nodes a) = 0; rw [hf]; rfl))
    obtain ⟨hpl, hset⟩ := onNode_set HNP.out (fun n : Nd => { n with up := false }) hf
    have hln : 0 < G.nodes.length := by omega
    have hpv : placeV G.nodes a = (Nq.ahead G.nodes a : Int) := by unfold placeV; rw [hf]; rfl
    have HPV := Lib.hid hpv
    have HPI : Hid ((Nq.ahead G.nodes a : Int) < (G.nodes.length : Int)) := Lib.hid (by omega)
    have HSET : Hid ((onNode (fun n : Nd => { n with up := false }) a G.nodes).length = G.nodes.length ∧ ndRow (onNode (fun n : Nd => { n with up := false }) a G.nodes) = (ndRow G.nodes).set (Nq.ahead G.nodes a * 3 + 1) (.bool false)) := Lib.hid ⟨by simp [onNode], by rw [hset]; exact ndRow_turn _ _ hpl _ 1 _ (by decide) rfl⟩
    have HGET : Hid (∃ u, (ndRow G.nodes)[Nq.ahead G.nodes a * 3 + 1]? = some (.bool u)) := Lib.hid ⟨_, (ndRow_get G.nodes _ hpl).2.1⟩
    have HLN := Lib.hid hln
    have HPN : Hid (Nq.ahead G.nodes a * 3 + 1 < G.nodes.length * 3) := Lib.hid (by omega)
    clear hf hpl hset hln hpv HCE
    go_enter Try.func15, Try.ntmps15
    go_upto_region 1 with (fail)
    rw [← hW1, ← hW2, ← hW3, ← s1, ← s2, ← hbr, ← hbc]
    obtain ⟨g0, g1⟩ := HKG.out W3 (Below.refl _ _)
    clear hW1 hW2 hW3 s1 s2 hbr hbc
    go_wp2_with fail
    refine (rCheck_any G na la nc lc W3 (HG2.out W3 (Below.refl _ _)).nodes (HG2.out W3 (Below.refl _ _)).links HQ.out (by have := HSZ.out; omega) (by have := HSZ.out; omega)).mono ?_
    rintro e V1 ⟨rfl, hb⟩
    rw [HCK.out]
    have B1 := Lib.hid hb
    clear hb g0 g1
    obtain ⟨c0, c1, c2, c3⟩ := cells_four (HKC.out V1 B1.out)
    go_wp2_with fail
    refine (rBare_any 8 a b q V1).mono ?_
    rintro e V2 ⟨rfl, hb⟩
    rw [HBA.out]
    have B2 := Lib.hid (gNx B1.out hb)
    clear hb c0 c1 c2 c3
    obtain ⟨c0, c1, c2, c3⟩ := cells_four (HKC.out V2 B2.out)
    obtain ⟨g0, g1⟩ := HKG.out V2 B2.out
    go_wp2_with fail
    refine (rCopy_any G na la nc lc V2 (HG2.out V2 B2.out).nodes (HG2.out V2 B2.out).links HQ.out (by have := HSZ.out; omega) (by have := HSZ.out; omega)).mono ?_
    rintro e VC ⟨vn0, vl0, rfl, hv, hb⟩
    obtain ⟨an0, cn0, rfl, hNI, hNA⟩ := ownN_in hv.nodes
    obtain ⟨al0, cl0, rfl, hLI, hLA⟩ := ownL_in hv.links
    obtain ⟨W4, hW4⟩ : ∃ W4, W4 = VC.alloc (.cells #[.slice an0 G.nodes.length cn0, .slice al0 G.links.length cl0] 25) := ⟨_, rfl⟩
    obtain ⟨bo, hbo⟩ : ∃ bo, bo = VC.heap.size := ⟨_, rfl⟩
    have b4 : Below V2.heap.size V2 W4 := by rw [hW4]; exact gNx hb (gAl _ _)
    have hga : GrAt W4 V2.heap.size bo (.slice an0 G.nodes.length cn0) (.slice al0 G.links.length cl0) G := ⟨by rw [hbo]; exact hb.size, by rw [hW4, hbo]; exact heap_alloc_new VC _, hv.nodes.below (by rw [hW4]; exact gAl _ _), hv.links.below (by rw [hW4]; exact gAl _ _), HQ.out⟩
    have HGA : Hid (∀ V, Below W4.heap.size W4 V → GrAt V V2.heap.size bo (.slice an0 G.nodes.length cn0) (.slice al0 G.links.length cl0) G) := Lib.hid (fun V hV => hga.below hV)
    have B4 := Lib.hid (gNx B2.out b4)
    have HNA := Lib.hid hNA
    have HLA := Lib.hid hLA
    go_upto_region 12 with (fail)
    rw [← hW4, ← hbo]
    clear hW4 hbo b4 hga hv hb hNI hLI hNA hLA c0 c1 c2 c3 g0 g1
    obtain ⟨c0, c1, c2, c3⟩ := cells_four (HKC.out W4 B4.out)
    obtain ⟨g0, g1⟩ := HKG.out W4 B4.out
    go_wp2_with fail
    refine (rPlace_any G.nodes na nc la G.links.length lc a W4 (HG2.out W4 B4.out).nodes HNP.out (by have := HNL.out; omega)).mono ?_
    rintro e V6 ⟨rfl, hb⟩
    rw [HPV.out]
    have hga := HGA.out V6 hb
    have B6 := Lib.hid (gNx B4.out hb)
    clear HPV
    obtain ⟨g, rfl, hbg⟩ := HNA.out HLN.out
    obtain ⟨g2, cap2, e2, hg2, -, hr, ht⟩ := hga.nodes.range HLN.out
    simp only [Value.slice.injEq, Option.some.injEq, Addr.mk.injEq, and_true, true_and] at e2
    obtain ⟨rfl, rfl⟩ := e2
    obtain ⟨u, hu⟩ := HGET.out
    have r1 : V6.cell? ⟨g, Nq.ahead G.nodes a * 3 + 1, none⟩ = some (.bool u) := by have := hr _ _ hu; rw [Nat.zero_add] at this; exact this
    have r2 : V6.frozen? ⟨g, Nq.ahead G.nodes a * 3 + 1, none⟩ = false := by have := (ht (Nq.ahead G.nodes a * 3 + 1) HPN.out).2; rw [Nat.zero_add] at this; exact this
    have HTURN := Lib.hid (hga.turnN (Nq.ahead G.nodes a * 3 + 1) (.bool false) HLN.out HSET.out.1 HSET.out.2)
    obtain ⟨d0, d1, -, -⟩ := hga.cells
    have hpi := HPI.out
    have hp0 : (0 : Int) ≤ (Nq.ahead G.nodes a : Int) := by omega
    clear hb hga hbg hg2 hr ht hu c0 c1 c2 c3 g0 g1 HNA HGET HPI HPN
    obtain ⟨c0, c1, c2, c3⟩ := cells_four (HKC.out V6 B6.out)
    generalize Nq.ahead G.nodes a = pos at *
    obtain ⟨N2, hN2⟩ : ∃ N2, N2 = onNode (fun n : Nd => { n with up := false }) a G.nodes := ⟨_, rfl⟩
    have HP : Hid (applyE G ⟨8, a, b, q⟩ = 0 ∧ applyG G ⟨8, a, b, q⟩ = { G with nodes := N2 }) := Lib.hid (by rw [hN2]; exact HP.out)
    have HNN : Hid (N2.length = G.nodes.length) := Lib.hid (by rw [hN2]; exact HSET.out.1)
    have HTURN : Hid (GrAt (V6.setCell ⟨g, pos * 3 + 1, none⟩ (.bool false)) V2.heap.size bo (.slice (some ⟨g, 0, none⟩) G.nodes.length cn0) (.slice al0 G.links.length cl0) { G with nodes := N2 } ∧ Below V2.heap.size V6 (V6.setCell ⟨g, pos * 3 + 1, none⟩ (.bool false))) := Lib.hid (by rw [hN2]; exact HTURN.out)
    clear hN2 HSET
    go_upto_region 24 with (fail)
    obtain ⟨W7, hW7⟩ : ∃ W7, W7 = V6.setCell ⟨g, pos * 3 + 1, none⟩ (.bool false) := ⟨_, rfl⟩
    rw [← hW7]
    have ht7 := HTURN.out
    rw [← hW7] at ht7
    clear hW7 HTURN d0 d1 r1 r2 c0 c1 c2 c3 hpi hp0
    have B7 : Hid (Below W3.heap.size W3 W7) := Lib.hid (B6.out.trans (ht7.2.mono B2.out.size))
    obtain ⟨d0, d1, -, -⟩ := ht7.1.cells
    have HGT := Lib.hid ht7.1
    clear ht7
    have hres := HRS.out W7 B7.out
    obtain ⟨x0, x1, x2, x3⟩ := cells_two hres
    have HRES := Lib.hid hres
    clear hres
    go_wp2_with fail
    have hq1 := heap_setCell_same W7 br 0 _ _ (.slice (some ⟨g, 0, none⟩) G.nodes.length cn0) HRES.out
    have hq2 := heap_setCell_same _ br 1 _ _ (.slice al0 G.links.length cl0) hq1
    refine bodyPost_ret (results_cell2 Try.results15 _ _ br 0 [.slice (some ⟨g, 0, none⟩) G.nodes.length cn0, .slice al0 G.links.length cl0] _ rfl ?_ Try.underlying25 (by rfl) (by kernel_rfl)) rfl ?_
    · intro j v hj
      match j with
      | 0 => simp at hj; subst hj; rw [cell_of_row _ _ _ _ _ (0, 0) hq2]; rfl
      | 1 => simp at hj; subst hj; rw [cell_of_row _ _ _ _ _ (0, 0) hq2]; rfl
      | j + 2 => simp at hj
    · rw [HP.out.1, HP.out.2]
      exact ⟨_, _, rfl, (((HGT.out.v.mono (Nat.le_trans HBR.out.2.2 B2.out.size))).set HRES.out).set hq1, ((HWB.out W7 B7.out).setCell HBR.out.2.1 _).setCell HBR.out.2.1 _⟩
set_option maxHeartbeats 8000000 in
theorem rApply_9 (G : Gr) (na : Option Addr) (nc : Nat) (la : Option Addr) (lc : Nat) (a b : Int) (q : Nat) (w : World) (hin : GrIn w G na la) (hq : q < 2 ^ 64) (hG : checkG G = 0) (hba : bareB ⟨9, a, b, q⟩ = true) :
    Calls Try.prog 15 #[.agg #[.slice na G.nodes.length nc, .slice la G.links.length lc], .agg #[.int .i64 9, .int .i64 a, .int .i64 b, .float .f64 q]] w fun e w' => LiveEnds w (applyG G ⟨9, a, b, q⟩) (applyE G ⟨9, a, b, q⟩) e w' := by
  have hst := g_storeL
  obtain ⟨W1, hW1⟩ : ∃ W1, W1 = w.alloc (.cells #[.slice na G.nodes.length nc, .slice la G.links.length lc] 25) := ⟨_, rfl⟩
  obtain ⟨W2, hW2⟩ : ∃ W2, W2 = W1.alloc (.cells #[.int .i64 9, .int .i64 a, .int .i64 b, .float .f64 q] 33) := ⟨_, rfl⟩
  obtain ⟨W3, hW3⟩ : ∃ W3, W3 = W2.alloc (.cells #[.slice none 0 0, .slice none 0 0] 25) := ⟨_, rfl⟩
  have b1 : Below w.heap.size w W1 := by rw [hW1]; exact gAl _ _
  have b2 : Below W1.heap.size W1 W2 := by rw [hW2]; exact gAl _ _
  have b3 : Below W2.heap.size W2 W3 := by rw [hW3]; exact gAl _ _
  have s1 : W1.heap.size = w.heap.size + 1 := by rw [hW1]; simp
  have s2 : W2.heap.size = W1.heap.size + 1 := by rw [hW2]; simp
  have s3 : W3.heap.size = W2.heap.size + 1 := by rw [hW3]; simp
  have r1 : W1.heap[w.heap.size]? = some (.cells #[.slice na G.nodes.length nc, .slice la G.links.length lc] 25 (0, 0)) := by rw [hW1]; exact heap_alloc_new w _
  have r2 : W2.heap[W1.heap.size]? = some (.cells #[.int .i64 9, .int .i64 a, .int .i64 b, .float .f64 q] 33 (0, 0)) := by rw [hW2]; exact heap_alloc_new W1 _
  have r3 : W3.heap[W2.heap.size]? = some (.cells #[.slice none 0 0, .slice none 0 0] 25 (0, 0)) := by rw [hW3]; exact heap_alloc_new W2 _
  have hb3 : Below w.heap.size w W3 := gNx (gNx b1 b2) b3
  have q1 : W3.heap[w.heap.size]? = some (.cells #[.slice na G.nodes.length nc, .slice la G.links.length lc] 25 (0, 0)) := (b3.block _ (by omega)).trans ((b2.block _ (by omega)).trans r1)
  have q2 : W3.heap[W1.heap.size]? = some (.cells #[.int .i64 9, .int .i64 a, .int .i64 b, .float .f64 q] 33 (0, 0)) := (b3.block _ (by omega)).trans r2
  obtain ⟨br, hbr⟩ : ∃ br, br = W2.heap.size := ⟨_, rfl⟩
  obtain ⟨bc, hbc⟩ : ∃ bc, bc = W1.heap.size := ⟨_, rfl⟩
  have HBR : Hid (br < W3.heap.size ∧ w.heap.size ≤ br ∧ w.heap.size ≤ W3.heap.size) := Lib.hid (by omega)
  have HKG : Hid (∀ V, Below W3.heap.size W3 V → V.cell? ⟨w.heap.size, 0, none⟩ = some (.slice na G.nodes.length nc) ∧ V.cell? ⟨w.heap.size, 1, none⟩ = some (.slice la G.links.length lc)) := Lib.hid (fun V hV => by
    have := (hV.block w.heap.size (by omega)).trans q1
    exact ⟨by rw [cell_of_row V _ 0 _ _ (0, 0) this]; rfl, by rw [cell_of_row V _ 1 _ _ (0, 0) this]; rfl⟩)
  have HKC : Hid (∀ V, Below W3.heap.size W3 V → V.heap[bc]? = some (.cells #[.int .i64 9, .int .i64 a, .int .i64 b, .float .f64 q] 33 (0, 0))) := Lib.hid (fun V hV => by rw [hbc]; exact (hV.block W1.heap.size (by omega)).trans q2)
  have HRS : Hid (∀ V, Below W3.heap.size W3 V → V.heap[br]? = some (.cells #[.slice none 0 0, .slice none 0 0] 25 (0, 0))) := Lib.hid (fun V hV => by rw [hbr]; exact (hV.block _ (by omega)).trans r3)
  have HWB : Hid (∀ V, Below W3.heap.size W3 V → Below w.heap.size w V) := Lib.hid (fun V hV => gNx hb3 hV)
  have HG2 : Hid (∀ V, Below W3.heap.size W3 V → GrIn V G na la) := Lib.hid (fun V hV => hin.below (gNx hb3 hV))
  have HQ := Lib.hid hin.wts
  have HQQ := Lib.hid hq
  have HSZ : Hid (G.nodes.length * 16 ≤ 140737488351232 ∧ G.links.length * 32 ≤ 140737488351232) := Lib.hid ⟨hin.n1, hin.l1⟩
  clear hin hq b1 b2 b3 r1 r2 r3 q1 q2 hb3 s3
  have HCK := Lib.hid hG
  have HBA := Lib.hid hba
  obtain ⟨n1, n2, n3, n4⟩ := check_zero.1 hG
  have HNP := Lib.hid n3
  have HM1 := Lib.hid (links_iff.1 n4).2
  have HNL : Hid (G.nodes.length ≤ 256 ∧ G.links.length ≤ 4096) := Lib.hid ⟨n1, n2⟩
  clear hG hba n1 n2 n3 n4
  have HCE := Lib.hid (changeE_9 (g := G) HBA.out rfl)
  cases hf : has G.nodes a with
  | false =>
    have HP : Hid (applyE G ⟨9, a, b, q⟩ = 4 ∧ applyG G ⟨9, a, b, q⟩ = gr0) := Lib.hid (apply_no HCK.out (by rw [← show fndE (has G.nodes a) = 4 from by rw [hf]; rfl]; exact HCE.out) (by decide))
    have hpl : placeV G.nodes a < 0 := (placeV_neg _ _).1.2 hf
    clear hf
    go_enter Try.func15, Try.ntmps15
    go_upto_region 1 with (fail)
    rw [← hW1, ← hW2, ← hW3, ← s1, ← s2, ← hbr, ← hbc]
    obtain ⟨g0, g1⟩ := HKG.out W3 (Below.refl _ _)
    clear hW1 hW2 hW3 s1 s2 hbr hbc
    go_wp2_with fail
    refine (rCheck_any G na la nc lc W3 (HG2.out W3 (Below.refl _ _)).nodes (HG2.out W3 (Below.refl _ _)).links HQ.out (by have := HSZ.out; omega) (by have := HSZ.out; omega)).mono ?_
    rintro e V1 ⟨rfl, hb⟩
    rw [HCK.out]
    have B1 := Lib.hid hb
    clear hb g0 g1
    obtain ⟨c0, c1, c2, c3⟩ := cells_four (HKC.out V1 B1.out)
    go_wp2_with fail
    refine (rBare_any 9 a b q V1).mono ?_
    rintro e V2 ⟨rfl, hb⟩
    rw [HBA.out]
    have B2 := Lib.hid (gNx B1.out hb)
    clear hb c0 c1 c2 c3
    obtain ⟨c0, c1, c2, c3⟩ := cells_four (HKC.out V2 B2.out)
    obtain ⟨g0, g1⟩ := HKG.out V2 B2.out
    go_wp2_with fail
    refine (rCopy_any G na la nc lc V2 (HG2.out V2 B2.out).nodes (HG2.out V2 B2.out).links HQ.out (by have := HSZ.out; omega) (by have := HSZ.out; omega)).mono ?_
    rintro e VC ⟨vn0, vl0, rfl, hv, hb⟩
    obtain ⟨an0, cn0, rfl, hNI, hNA⟩ := ownN_in hv.nodes
    obtain ⟨al0, cl0, rfl, hLI, hLA⟩ := ownL_in hv.links
    obtain ⟨W4, hW4⟩ : ∃ W4, W4 = VC.alloc (.cells #[.slice an0 G.nodes.length cn0, .slice al0 G.links.length cl0] 25) := ⟨_, rfl⟩
    obtain ⟨bo, hbo⟩ : ∃ bo, bo = VC.heap.size := ⟨_, rfl⟩
    have b4 : Below V2.heap.size V2 W4 := by rw [hW4]; exact gNx hb (gAl _ _)
    have hga : GrAt W4 V2.heap.size bo (.slice an0 G.nodes.length cn0) (.slice al0 G.links.length cl0) G := ⟨by rw [hbo]; exact hb.size, by rw [hW4, hbo]; exact heap_alloc_new VC _, hv.nodes.below (by rw [hW4]; exact gAl _ _), hv.links.below (by rw [hW4]; exact gAl _ _), HQ.out⟩
    have HGA : Hid (∀ V, Below W4.heap.size W4 V → GrAt V V2.heap.size bo (.slice an0 G.nodes.length cn0) (.slice al0 G.links.length cl0) G) := Lib.hid (fun V hV => hga.below hV)
    have B4 := Lib.hid (gNx B2.out b4)
    have HNA := Lib.hid hNA
    have HLA := Lib.hid hLA
    go_upto_region 12 with (fail)
    rw [← hW4, ← hbo]
    clear hW4 hbo b4 hga hv hb hNI hLI hNA hLA c0 c1 c2 c3 g0 g1
    obtain ⟨c0, c1, c2, c3⟩ := cells_four (HKC.out W4 B4.out)
    obtain ⟨g0, g1⟩ := HKG.out W4 B4.out
    go_wp2_with fail
    refine (rPlace_any G.nodes na nc la G.links.length lc a W4 (HG2.out W4 B4.out).nodes HNP.out (by have := HNL.out; omega)).mono ?_
    rintro e V6 ⟨rfl, hb⟩
    have B6 := Lib.hid (gNx B4.out hb)
    clear hb c0 c1 c2 c3 g0 g1
    have hres := HRS.out V6 B6.out
    obtain ⟨x0, x1, x2, x3⟩ := cells_two hres
    have HRES := Lib.hid hres
    clear hres
    go_wp2_with fail
    have hq1 := heap_setCell_same V6 br 0 _ _ (.slice none 0 0) HRES.out
    have hq2 := heap_setCell_same _ br 1 _ _ (.slice none 0 0) hq1
    refine bodyPost_ret (results_cell2 Try.results15 _ _ br 0 [.slice none 0 0, .slice none 0 0] _ rfl ?_ Try.underlying25 (by rfl) (by kernel_rfl)) rfl ?_
    · intro j v hj
      match j with
      | 0 => simp at hj; subst hj; rw [cell_of_row _ _ _ _ _ (0, 0) hq2]; rfl
      | 1 => simp at hj; subst hj; rw [cell_of_row _ _ _ _ _ (0, 0) hq2]; rfl
      | j + 2 => simp at hj
    · rw [HP.out.1, HP.out.2]
      exact ⟨_, _, rfl, (((grv_0 _ _)).set HRES.out).set hq1, ((HWB.out V6 B6.out).setCell HBR.out.2.1 _).setCell HBR.out.2.1 _⟩
  | true =>
    have HP := Lib.hid (apply_did HCK.out HCE.out (by show fndE (has G.nodes a) = 0; rw [hf]; rfl))
    obtain ⟨hpl, hset⟩ := onNode_set HNP.out (fun n : Nd => { n with up := true }) hf
    have hln : 0 < G.nodes.length := by omega
    have hpv : placeV G.nodes a = (Nq.ahead G.nodes a : Int) := by unfold placeV; rw [hf]; rfl
    have HPV := Lib.hid hpv
    have HPI : Hid ((Nq.ahead G.nodes a : Int) < (G.nodes.length : Int)) := Lib.hid (by omega)
    have HSET : Hid ((onNode (fun n : Nd => { n with up := true }) a G.nodes).length = G.nodes.length ∧ ndRow (onNode (fun n : Nd => { n with up := true }) a G.nodes) = (ndRow G.nodes).set (Nq.ahead G.nodes a * 3 + 1) (.bool true)) := Lib.hid ⟨by simp [onNode], by rw [hset]; exact ndRow_turn _ _ hpl _ 1 _ (by decide) rfl⟩
    have HGET : Hid (∃ u, (ndRow G.nodes)[Nq.ahead G.nodes a * 3 + 1]? = some (.bool u)) := Lib.hid ⟨_, (ndRow_get G.nodes _ hpl).2.1⟩
    have HLN := Lib.hid hln
    have HPN : Hid (Nq.ahead G.nodes a * 3 + 1 < G.nodes.length * 3) := Lib.hid (by omega)
    clear hf hpl hset hln hpv HCE
    go_enter Try.func15, Try.ntmps15
    go_upto_region 1 with (fail)
    rw [← hW1, ← hW2, ← hW3, ← s1, ← s2, ← hbr, ← hbc]
    obtain ⟨g0, g1⟩ := HKG.out W3 (Below.refl _ _)
    clear hW1 hW2 hW3 s1 s2 hbr hbc
    go_wp2_with fail
    refine (rCheck_any G na la nc lc W3 (HG2.out W3 (Below.refl _ _)).nodes (HG2.out W3 (Below.refl _ _)).links HQ.out (by have := HSZ.out; omega) (by have := HSZ.out; omega)).mono ?_
    rintro e V1 ⟨rfl, hb⟩
    rw [HCK.out]
    have B1 := Lib.hid hb
    clear hb g0 g1
    obtain ⟨c0, c1, c2, c3⟩ := cells_four (HKC.out V1 B1.out)
    go_wp2_with fail
    refine (rBare_any 9 a b q V1).mono ?_
    rintro e V2 ⟨rfl, hb⟩
    rw [HBA.out]
    have B2 := Lib.hid (gNx B1.out hb)
    clear hb c0 c1 c2 c3
    obtain ⟨c0, c1, c2, c3⟩ := cells_four (HKC.out V2 B2.out)
    obtain ⟨g0, g1⟩ := HKG.out V2 B2.out
    go_wp2_with fail
    refine (rCopy_any G na la nc lc V2 (HG2.out V2 B2.out).nodes (HG2.out V2 B2.out).links HQ.out (by have := HSZ.out; omega) (by have := HSZ.out; omega)).mono ?_
    rintro e VC ⟨vn0, vl0, rfl, hv, hb⟩
    obtain ⟨an0, cn0, rfl, hNI, hNA⟩ := ownN_in hv.nodes
    obtain ⟨al0, cl0, rfl, hLI, hLA⟩ := ownL_in hv.links
    obtain ⟨W4, hW4⟩ : ∃ W4, W4 = VC.alloc (.cells #[.slice an0 G.nodes.length cn0, .slice al0 G.links.length cl0] 25) := ⟨_, rfl⟩
    obtain ⟨bo, hbo⟩ : ∃ bo, bo = VC.heap.size := ⟨_, rfl⟩
    have b4 : Below V2.heap.size V2 W4 := by rw [hW4]; exact gNx hb (gAl _ _)
    have hga : GrAt W4 V2.heap.size bo (.slice an0 G.nodes.length cn0) (.slice al0 G.links.length cl0) G := ⟨by rw [hbo]; exact hb.size, by rw [hW4, hbo]; exact heap_alloc_new VC _, hv.nodes.below (by rw [hW4]; exact gAl _ _), hv.links.below (by rw [hW4]; exact gAl _ _), HQ.out⟩
    have HGA : Hid (∀ V, Below W4.heap.size W4 V → GrAt V V2.heap.size bo (.slice an0 G.nodes.length cn0) (.slice al0 G.links.length cl0) G) := Lib.hid (fun V hV => hga.below hV)
    have B4 := Lib.hid (gNx B2.out b4)
    have HNA := Lib.hid hNA
    have HLA := Lib.hid hLA
    go_upto_region 12 with (fail)
    rw [← hW4, ← hbo]
    clear hW4 hbo b4 hga hv hb hNI hLI hNA hLA c0 c1 c2 c3 g0 g1
    obtain ⟨c0, c1, c2, c3⟩ := cells_four (HKC.out W4 B4.out)
    obtain ⟨g0, g1⟩ := HKG.out W4 B4.out
    go_wp2_with fail
    refine (rPlace_any G.nodes na nc la G.links.length lc a W4 (HG2.out W4 B4.out).nodes HNP.out (by have := HNL.out; omega)).mono ?_
    rintro e V6 ⟨rfl, hb⟩
    rw [HPV.out]
    have hga := HGA.out V6 hb
    have B6 := Lib.hid (gNx B4.out hb)
    clear HPV
    obtain ⟨g, rfl, hbg⟩ := HNA.out HLN.out
    obtain ⟨g2, cap2, e2, hg2, -, hr, ht⟩ := hga.nodes.range HLN.out
    simp only [Value.slice.injEq, Option.some.injEq, Addr.mk.injEq, and_true, true_and] at e2
    obtain ⟨rfl, rfl⟩ := e2
    obtain ⟨u, hu⟩ := HGET.out
    have r1 : V6.cell? ⟨g, Nq.ahead G.nodes a * 3 + 1, none⟩ = some (.bool u) := by have := hr _ _ hu; rw [Nat.zero_add] at this; exact this
    have r2 : V6.frozen? ⟨g, Nq.ahead G.nodes a * 3 + 1, none⟩ = false := by have := (ht (Nq.ahead G.nodes a * 3 + 1) HPN.out).2; rw [Nat.zero_add] at this; exact this
    have HTURN := Lib.hid (hga.turnN (Nq.ahead G.nodes a * 3 + 1) (.bool true) HLN.out HSET.out.1 HSET.out.2)
    obtain ⟨d0, d1, -, -⟩ := hga.cells
    have hpi := HPI.out
    have hp0 : (0 : Int) ≤ (Nq.ahead G.nodes a : Int) := by omega
    clear hb hga hbg hg2 hr ht hu c0 c1 c2 c3 g0 g1 HNA HGET HPI HPN
    obtain ⟨c0, c1, c2, c3⟩ := cells_four (HKC.out V6 B6.out)
    generalize Nq.ahead G.nodes a = pos at *
    obtain ⟨N2, hN2⟩ : ∃ N2, N2 = onNode (fun n : Nd => { n with up := true }) a G.nodes := ⟨_, rfl⟩
    have HP : Hid (applyE G ⟨9, a, b, q⟩ = 0 ∧ applyG G ⟨9, a, b, q⟩ = { G with nodes := N2 }) := Lib.hid (by rw [hN2]; exact HP.out)
    have HNN : Hid (N2.length = G.nodes.length) := Lib.hid (by rw [hN2]; exact HSET.out.1)
    have HTURN : Hid (GrAt (V6.setCell ⟨g, pos * 3 + 1, none⟩ (.bool true)) V2.heap.size bo (.slice (some ⟨g, 0, none⟩) G.nodes.length cn0) (.slice al0 G.links.length cl0) { G with nodes := N2 } ∧ Below V2.heap.size V6 (V6.setCell ⟨g, pos * 3 + 1, none⟩ (.bool true))) := Lib.hid (by rw [hN2]; exact HTURN.out)
    clear hN2 HSET
    go_upto_region 24 with (fail)
    obtain ⟨W7, hW7⟩ : ∃ W7, W7 = V6.setCell ⟨g, pos * 3 + 1, none⟩ (.bool true) := ⟨_, rfl⟩
    rw [← hW7]
    have ht7 := HTURN.out
    rw [← hW7] at ht7
    clear hW7 HTURN d0 d1 r1 r2 c0 c1 c2 c3 hpi hp0
    have B7 : Hid (Below W3.heap.size W3 W7) := Lib.hid (B6.out.trans (ht7.2.mono B2.out.size))
    obtain ⟨d0, d1, -, -⟩ := ht7.1.cells
    have HGT := Lib.hid ht7.1
    clear ht7
    have hres := HRS.out W7 B7.out
    obtain ⟨x0, x1, x2, x3⟩ := cells_two hres
    have HRES := Lib.hid hres
    clear hres
    go_wp2_with fail
    have hq1 := heap_setCell_same W7 br 0 _ _ (.slice (some ⟨g, 0, none⟩) G.nodes.length cn0) HRES.out
    have hq2 := heap_setCell_same _ br 1 _ _ (.slice al0 G.links.length cl0) hq1
    refine bodyPost_ret (results_cell2 Try.results15 _ _ br 0 [.slice (some ⟨g, 0, none⟩) G.nodes.length cn0, .slice al0 G.links.length cl0] _ rfl ?_ Try.underlying25 (by rfl) (by kernel_rfl)) rfl ?_
    · intro j v hj
      match j with
      | 0 => simp at hj; subst hj; rw [cell_of_row _ _ _ _ _ (0, 0) hq2]; rfl
      | 1 => simp at hj; subst hj; rw [cell_of_row _ _ _ _ _ (0, 0) hq2]; rfl
      | j + 2 => simp at hj
    · rw [HP.out.1, HP.out.2]
      exact ⟨_, _, rfl, (((HGT.out.v.mono (Nat.le_trans HBR.out.2.2 B2.out.size))).set HRES.out).set hq1, ((HWB.out W7 B7.out).setCell HBR.out.2.1 _).setCell HBR.out.2.1 _⟩
end Go.Proofs.Ytgjpgpjdealbeaa
