/- Graphs: a change. -/
import Derived.Test.YtgjpgpjdealbeaaNgR
namespace Go.Proofs.Ytgjpgpjdealbeaa
open Go.RowKit Go.Lib Go.Fq Go.Iq Go.Nq Go.Ow
set_option linter.unusedVariables false
set_option linter.unusedSimpArgs false
set_option maxRecDepth 100000

set_option maxHeartbeats 8000000 in
theorem gChange_any (G : Gr) (kd a b : Int) (q : Nat) (base bg : Nat) (vn vl : Value) (w : World) (h : GrAt w base bg vn vl G) (hG : checkG G = 0) (hq : q < 2 ^ 64) :
    Calls Try.prog 35 #[.pointer (some ⟨bg, 0, none⟩), .agg #[.int .i64 kd, .int .i64 a, .int .i64 b, .float .f64 q]] w fun e w' => e = .returned (.int .i64 (changeE G ⟨kd, a, b, q⟩)) ∧ (∃ vn' vl', GrAt w' base bg vn' vl' (aft (changeE G ⟨kd, a, b, q⟩) (changeG G ⟨kd, a, b, q⟩) G)) ∧ Below base w w' := by
  have HCG := Lib.hid hG
  obtain ⟨n1, n2, n3, n4⟩ := check_zero.1 hG
  obtain ⟨na, nc, rfl, hNI, hNA⟩ := ownN_in h.nodes
  obtain ⟨la, lc, rfl, hLI, hLA⟩ := ownL_in h.links
  obtain ⟨hm1, hm2⟩ := links_iff.1 n4
  obtain ⟨W1, hW1⟩ : ∃ W1, W1 = w.alloc (.cells #[.int .i64 kd, .int .i64 a, .int .i64 b, .float .f64 q] 33) := ⟨_, rfl⟩
  have hb1 : Below w.heap.size w W1 := by rw [hW1]; exact gAl _ _
  have hs1 : w.heap.size < W1.heap.size := by rw [hW1]; simp
  have hcb : W1.heap[w.heap.size]? = some (.cells #[.int .i64 kd, .int .i64 a, .int .i64 b, .float .f64 q] 33 (0, 0)) := by rw [hW1]; exact heap_alloc_new w _
  have hbs : base ≤ w.heap.size := Nat.le_of_lt (Nat.lt_of_le_of_lt h.hb h.lt)
  have HGA : Hid (∀ V, Below W1.heap.size W1 V → GrAt V base bg (.slice na G.nodes.length nc) (.slice la G.links.length lc) G) := Lib.hid (fun V hV => h.below (gNx hb1 hV))
  have HCB : Hid (∀ V, Below W1.heap.size W1 V → V.heap[w.heap.size]? = some (.cells #[.int .i64 kd, .int .i64 a, .int .i64 b, .float .f64 q] 33 (0, 0))) := Lib.hid (fun V hV => (hV.block _ hs1).trans hcb)
  have KA : ∀ V, Below W1.heap.size W1 V → (V.cell? ⟨w.heap.size, 0, none⟩ = some (.int .i64 kd) ∧ V.cell? ⟨w.heap.size, 1, none⟩ = some (.int .i64 a) ∧ V.cell? ⟨w.heap.size, 2, none⟩ = some (.int .i64 b) ∧ V.cell? ⟨w.heap.size, 3, none⟩ = some (.float .f64 q)) ∧ V.cell? ⟨bg, 0, none⟩ = some (.slice na G.nodes.length nc) ∧ V.cell? ⟨bg, 1, none⟩ = some (.slice la G.links.length lc) := fun V hV => by
    have hh := HCB.out V hV
    exact ⟨⟨by rw [cell_of_row V _ 0 _ _ (0, 0) hh]; rfl, by rw [cell_of_row V _ 1 _ _ (0, 0) hh]; rfl, by rw [cell_of_row V _ 2 _ _ (0, 0) hh]; rfl, by rw [cell_of_row V _ 3 _ _ (0, 0) hh]; rfl⟩, (HGA.out V hV).cells.1, (HGA.out V hV).cells.2.1⟩
  have HKA := Lib.hid KA
  obtain ⟨⟨c0, c1, c2, c3⟩, c4, c5⟩ := KA W1 (Below.refl _ _)
  have HB1 := Lib.hid hb1
  have HBW : Hid (∀ V, Below W1.heap.size W1 V → Below base w V) := Lib.hid (fun V hV => (gNx hb1 hV).mono hbs)
  have HN3 := Lib.hid n3
  have HM1 := Lib.hid hm1
  have HM2 := Lib.hid hm2
  have HNI : Hid (∀ V, Below W1.heap.size W1 V → NodesIn V V.heap.size G.nodes na) := Lib.hid (fun V hV => hNI.kept (fun i hi => (gNx hb1 hV).block i hi) (gNx hb1 hV).size)
  have HLI : Hid (∀ V, Below W1.heap.size W1 V → LinksIn V V.heap.size G.links la) := Lib.hid (fun V hV => hLI.kept (fun i hi => (gNx hb1 hV).block i hi) (gNx hb1 hV).size)
  have HNL : Hid (G.nodes.length ≤ 256 ∧ G.links.length ≤ 4096) := Lib.hid ⟨n1, n2⟩
  have HFIN : Hid (∀ V, Below W1.heap.size W1 V → (∃ vn' vl', GrAt V base bg vn' vl' G) ∧ Below base w V) := Lib.hid (fun V hV => ⟨⟨_, _, HGA.out V hV⟩, HBW.out V hV⟩)
  have HBG : Hid (bg < w.heap.size ∧ base ≤ bg) := Lib.hid ⟨h.lt, h.hb⟩
  have HQ := Lib.hid hq
  have HNA := Lib.hid hNA
  have HLA := Lib.hid hLA
  clear h hG hq n1 n2 n3 n4 hNI hNA hLI hLA hm1 hm2 hb1 hs1 hcb hbs KA
  have hxb := x_bits
  have hst := g_storeF
  go_enter Try.func35, Try.ntmps35
  go_upto_region 1 with (fail)
  rw [← hW1]
  clear hW1
  go_wp2_with fail
  refine (gDeedOf_any _ _).mono ?_
  rintro e V1 ⟨hb2, hde⟩
  have B1 := Lib.hid hb2
  clear hb2
  rcases hde with ⟨hk, rfl⟩ | ⟨rfl, rfl⟩ | ⟨rfl, rfl⟩ | ⟨rfl, rfl⟩ | ⟨rfl, db, rfl, hdb⟩ | ⟨rfl, db, rfl, hdb⟩ | ⟨rfl, db, rfl, hdb⟩ | ⟨rfl, db, rfl, hdb⟩ | ⟨rfl, db, rfl, hdb⟩ | ⟨rfl, db, rfl, hdb⟩
  · go_upto_region 2 with (refine wpList_store_mid rfl 72 (.tmp 5) (.tmp 11) rfl V1.heap.size 0 #[.bool false, .bool false, .nilFunc] rfl rfl (there_box V1 [.bool false, .bool false, .nilFunc] 72) (by kernel_rfl) (by kernel_rfl) ?_)
    obtain ⟨V2, hV2⟩ : ∃ V2, V2 = (V1.alloc (.cells #[.bool false, .bool false, .nilFunc] 72)).setCells V1.heap.size 0 [.bool false, .bool false, .nilFunc] := ⟨_, rfl⟩
    rw [← hV2]
    have B2 : Hid (Below V1.heap.size V1 V2) := Lib.hid (by rw [hV2]; exact below_set _ (Nat.le_refl _) _ _ _ (gAl _ _))
    have hr2 := World.rangeAt_setCells_same (V1.alloc (.cells #[.bool false, .bool false, .nilFunc] 72)) V1.heap.size 0 [.bool false, .bool false, .nilFunc] (there_box V1 [.bool false, .bool false, .nilFunc] _)
    rw [← hV2] at hr2
    have y0 : V2.cell? ⟨V1.heap.size, 0, none⟩ = some (.bool false) := by have := hr2 0 _ rfl; rwa [Nat.zero_add] at this
    have y1 : V2.cell? ⟨V1.heap.size, 1, none⟩ = some (.bool false) := by have := hr2 1 _ rfl; rwa [Nat.zero_add] at this
    have y2 : V2.cell? ⟨V1.heap.size, 2, none⟩ = some (.nilFunc) := by have := hr2 2 _ rfl; rwa [Nat.zero_add] at this
    clear hV2 hr2
    clear c0 c1 c2 c3 c4 c5
    obtain ⟨⟨c0, c1, c2, c3⟩, c4, c5⟩ := HKA.out V2 (gNx B1.out B2.out)
    have BV := Lib.hid (gNx B1.out B2.out)
    clear B1 B2
    have HE : Hid (changeE G ⟨kd, a, b, q⟩ = 1) := Lib.hid (changeE_bad (by unfold bareB; rw [decide_eq_false (show ¬ (1 ≤ kd ∧ kd ≤ 9) by omega)]; rfl))
    go_wp2_with fail
    go_ret
    rw [HE.out]
    exact ⟨rfl, HFIN.out _ BV.out⟩
  · go_upto_region 2 with (refine wpList_store_mid rfl 72 (.tmp 5) (.tmp 11) rfl V1.heap.size 0 #[.bool false, .bool false, .func (.func 62) #[] #[]] rfl rfl (there_box V1 [.bool false, .bool false, .nilFunc] 72) (by kernel_rfl) (by kernel_rfl) ?_)
    obtain ⟨V2, hV2⟩ : ∃ V2, V2 = (V1.alloc (.cells #[.bool false, .bool false, .nilFunc] 72)).setCells V1.heap.size 0 [.bool false, .bool false, .func (.func 62) #[] #[]] := ⟨_, rfl⟩
    rw [← hV2]
    have B2 : Hid (Below V1.heap.size V1 V2) := Lib.hid (by rw [hV2]; exact below_set _ (Nat.le_refl _) _ _ _ (gAl _ _))
    have hr2 := World.rangeAt_setCells_same (V1.alloc (.cells #[.bool false, .bool false, .nilFunc] 72)) V1.heap.size 0 [.bool false, .bool false, .func (.func 62) #[] #[]] (there_box V1 [.bool false, .bool false, .nilFunc] _)
    rw [← hV2] at hr2
    have y0 : V2.cell? ⟨V1.heap.size, 0, none⟩ = some (.bool false) := by have := hr2 0 _ rfl; rwa [Nat.zero_add] at this
    have y1 : V2.cell? ⟨V1.heap.size, 1, none⟩ = some (.bool false) := by have := hr2 1 _ rfl; rwa [Nat.zero_add] at this
    have y2 : V2.cell? ⟨V1.heap.size, 2, none⟩ = some (.func (.func 62) #[] #[]) := by have := hr2 2 _ rfl; rwa [Nat.zero_add] at this
    clear hV2 hr2
    clear c0 c1 c2 c3 c4 c5
    obtain ⟨⟨c0, c1, c2, c3⟩, c4, c5⟩ := HKA.out V2 (gNx B1.out B2.out)
    have BV := Lib.hid (gNx B1.out B2.out)
    clear B1 B2
    by_cases hbz : b = 0
    · subst hbz
      by_cases hq : q = 0
      · subst hq
        have HE := Lib.hid (changeE_1 (g := G) (c := ⟨1, a, 0, 0⟩) rfl rfl)
        go_wp2_with fail
        refine (gAddNode_any G 1 a 0 0 base bg _ _ V2 (HGA.out V2 BV.out) HCG.out (by first | exact HQ.out | decide)).mono ?_
        rintro e V3 ⟨rfl, h3, h4⟩
        have H3 := Lib.hid h3
        have H4 := Lib.hid h4
        clear h3 h4
        rw [← HE.out.1] at H3 ⊢
        rw [← HE.out.2] at H3
        go_wp2_with fail
        go_ret
        exact ⟨rfl, H3.out, (HBW.out V2 BV.out).trans H4.out⟩
      · have hqi : ((q : Int) != 0) = true := by simp; omega
        have HE : Hid (changeE G ⟨1, a, 0, q⟩ = 1) := Lib.hid (changeE_bad (by simp [bareB, hq]))
        go_wp2_with fail
        go_ret
        rw [HE.out]
        exact ⟨rfl, HFIN.out _ BV.out⟩
    · have hbi : (b != 0) = true := by simpa using hbz
      have HE : Hid (changeE G ⟨1, a, b, q⟩ = 1) := Lib.hid (changeE_bad (by simp [bareB, hbz]))
      go_wp2_with fail
      go_ret
      rw [HE.out]
      exact ⟨rfl, HFIN.out _ BV.out⟩
  · go_upto_region 2 with (refine wpList_store_mid rfl 72 (.tmp 5) (.tmp 11) rfl V1.heap.size 0 #[.bool true, .bool true, .func (.func 63) #[] #[]] rfl rfl (there_box V1 [.bool false, .bool false, .nilFunc] 72) (by kernel_rfl) (by kernel_rfl) ?_)
    obtain ⟨V2, hV2⟩ : ∃ V2, V2 = (V1.alloc (.cells #[.bool false, .bool false, .nilFunc] 72)).setCells V1.heap.size 0 [.bool true, .bool true, .func (.func 63) #[] #[]] := ⟨_, rfl⟩
    rw [← hV2]
    have B2 : Hid (Below V1.heap.size V1 V2) := Lib.hid (by rw [hV2]; exact below_set _ (Nat.le_refl _) _ _ _ (gAl _ _))
    have hr2 := World.rangeAt_setCells_same (V1.alloc (.cells #[.bool false, .bool false, .nilFunc] 72)) V1.heap.size 0 [.bool true, .bool true, .func (.func 63) #[] #[]] (there_box V1 [.bool false, .bool false, .nilFunc] _)
    rw [← hV2] at hr2
    have y0 : V2.cell? ⟨V1.heap.size, 0, none⟩ = some (.bool true) := by have := hr2 0 _ rfl; rwa [Nat.zero_add] at this
    have y1 : V2.cell? ⟨V1.heap.size, 1, none⟩ = some (.bool true) := by have := hr2 1 _ rfl; rwa [Nat.zero_add] at this
    have y2 : V2.cell? ⟨V1.heap.size, 2, none⟩ = some (.func (.func 63) #[] #[]) := by have := hr2 2 _ rfl; rwa [Nat.zero_add] at this
    clear hV2 hr2
    clear c0 c1 c2 c3 c4 c5
    obtain ⟨⟨c0, c1, c2, c3⟩, c4, c5⟩ := HKA.out V2 (gNx B1.out B2.out)
    have BV := Lib.hid (gNx B1.out B2.out)
    clear B1 B2
    have HE := Lib.hid (changeE_2 (g := G) (c := ⟨2, a, b, q⟩) rfl rfl)
    go_wp2_with fail
    refine (gAddLink_any G 2 a b q base bg _ _ V2 (HGA.out V2 BV.out) HCG.out (by first | exact HQ.out | decide)).mono ?_
    rintro e V3 ⟨rfl, h3, h4⟩
    have H3 := Lib.hid h3
    have H4 := Lib.hid h4
    clear h3 h4
    rw [← HE.out.1] at H3 ⊢
    rw [← HE.out.2] at H3
    go_wp2_with fail
    go_ret
    exact ⟨rfl, H3.out, (HBW.out V2 BV.out).trans H4.out⟩
  · go_upto_region 2 with (refine wpList_store_mid rfl 72 (.tmp 5) (.tmp 11) rfl V1.heap.size 0 #[.bool true, .bool true, .func (.func 64) #[] #[]] rfl rfl (there_box V1 [.bool false, .bool false, .nilFunc] 72) (by kernel_rfl) (by kernel_rfl) ?_)
    obtain ⟨V2, hV2⟩ : ∃ V2, V2 = (V1.alloc (.cells #[.bool false, .bool false, .nilFunc] 72)).setCells V1.heap.size 0 [.bool true, .bool true, .func (.func 64) #[] #[]] := ⟨_, rfl⟩
    rw [← hV2]
    have B2 : Hid (Below V1.heap.size V1 V2) := Lib.hid (by rw [hV2]; exact below_set _ (Nat.le_refl _) _ _ _ (gAl _ _))
    have hr2 := World.rangeAt_setCells_same (V1.alloc (.cells #[.bool false, .bool false, .nilFunc] 72)) V1.heap.size 0 [.bool true, .bool true, .func (.func 64) #[] #[]] (there_box V1 [.bool false, .bool false, .nilFunc] _)
    rw [← hV2] at hr2
    have y0 : V2.cell? ⟨V1.heap.size, 0, none⟩ = some (.bool true) := by have := hr2 0 _ rfl; rwa [Nat.zero_add] at this
    have y1 : V2.cell? ⟨V1.heap.size, 1, none⟩ = some (.bool true) := by have := hr2 1 _ rfl; rwa [Nat.zero_add] at this
    have y2 : V2.cell? ⟨V1.heap.size, 2, none⟩ = some (.func (.func 64) #[] #[]) := by have := hr2 2 _ rfl; rwa [Nat.zero_add] at this
    clear hV2 hr2
    clear c0 c1 c2 c3 c4 c5
    obtain ⟨⟨c0, c1, c2, c3⟩, c4, c5⟩ := HKA.out V2 (gNx B1.out B2.out)
    have BV := Lib.hid (gNx B1.out B2.out)
    clear B1 B2
    have HE := Lib.hid (changeE_3 (g := G) (c := ⟨3, a, b, q⟩) rfl rfl)
    go_wp2_with fail
    refine (gWeigh_any G 3 a b q base bg _ _ V2 (HGA.out V2 BV.out) HCG.out (by first | exact HQ.out | decide)).mono ?_
    rintro e V3 ⟨rfl, h3, h4⟩
    have H3 := Lib.hid h3
    have H4 := Lib.hid h4
    clear h3 h4
    rw [← HE.out.1] at H3 ⊢
    rw [← HE.out.2] at H3
    go_wp2_with fail
    go_ret
    exact ⟨rfl, H3.out, (HBW.out V2 BV.out).trans H4.out⟩
  · have hdl := World.block_lt_of_cell? V1 _ hdb
    go_upto_region 2 with (refine wpList_store_mid rfl 72 (.tmp 5) (.tmp 11) rfl V1.heap.size 0 #[.bool true, .bool false, .func (.func 81) #[] #[.pointer (some ⟨db, 0, none⟩)]] rfl rfl (there_box V1 [.bool false, .bool false, .nilFunc] 72) (by kernel_rfl) (by kernel_rfl) ?_)
    obtain ⟨V2, hV2⟩ : ∃ V2, V2 = (V1.alloc (.cells #[.bool false, .bool false, .nilFunc] 72)).setCells V1.heap.size 0 [.bool true, .bool false, .func (.func 81) #[] #[.pointer (some ⟨db, 0, none⟩)]] := ⟨_, rfl⟩
    rw [← hV2]
    have B2 : Hid (Below V1.heap.size V1 V2) := Lib.hid (by rw [hV2]; exact below_set _ (Nat.le_refl _) _ _ _ (gAl _ _))
    have HDB : Hid (V2.cell? ⟨db, 0, none⟩ = some (.func (.func 66) #[] #[])) := Lib.hid ((B2.out.cell (p := ⟨db, 0, none⟩) hdl).trans hdb)
    have hr2 := World.rangeAt_setCells_same (V1.alloc (.cells #[.bool false, .bool false, .nilFunc] 72)) V1.heap.size 0 [.bool true, .bool false, .func (.func 81) #[] #[.pointer (some ⟨db, 0, none⟩)]] (there_box V1 [.bool false, .bool false, .nilFunc] _)
    rw [← hV2] at hr2
    have y0 : V2.cell? ⟨V1.heap.size, 0, none⟩ = some (.bool true) := by have := hr2 0 _ rfl; rwa [Nat.zero_add] at this
    have y1 : V2.cell? ⟨V1.heap.size, 1, none⟩ = some (.bool false) := by have := hr2 1 _ rfl; rwa [Nat.zero_add] at this
    have y2 : V2.cell? ⟨V1.heap.size, 2, none⟩ = some (.func (.func 81) #[] #[.pointer (some ⟨db, 0, none⟩)]) := by have := hr2 2 _ rfl; rwa [Nat.zero_add] at this
    clear hV2 hr2 hdb hdl
    clear c0 c1 c2 c3 c4 c5
    obtain ⟨⟨c0, c1, c2, c3⟩, c4, c5⟩ := HKA.out V2 (gNx B1.out B2.out)
    have BV := Lib.hid (gNx B1.out B2.out)
    clear B1 B2
    by_cases hq : q = 0
    · subst hq
      have HE := Lib.hid (changeE_4 (g := G) (c := ⟨4, a, b, 0⟩) rfl rfl)
      go_wp2_with fail
      refine (gOnLink1_any G 4 a b 0 base bg _ _ V2 (HGA.out V2 BV.out) HCG.out (by first | exact HQ.out | decide) db (HDB.out)).mono ?_
      rintro e V3 ⟨rfl, h3, h4⟩
      have H3 := Lib.hid h3
      have H4 := Lib.hid h4
      clear h3 h4
      rw [← HE.out.1] at H3 ⊢
      rw [← HE.out.2] at H3
      go_wp2_with fail
      go_ret
      exact ⟨rfl, H3.out, (HBW.out V2 BV.out).trans H4.out⟩
    · have hqi : ((q : Int) != 0) = true := by simp; omega
      have HE : Hid (changeE G ⟨4, a, b, q⟩ = 1) := Lib.hid (changeE_bad (by simp [bareB, hq]))
      go_wp2_with fail
      go_ret
      rw [HE.out]
      exact ⟨rfl, HFIN.out _ BV.out⟩
  · have hdl := World.block_lt_of_cell? V1 _ hdb
    go_upto_region 2 with (refine wpList_store_mid rfl 72 (.tmp 5) (.tmp 11) rfl V1.heap.size 0 #[.bool true, .bool false, .func (.func 81) #[] #[.pointer (some ⟨db, 0, none⟩)]] rfl rfl (there_box V1 [.bool false, .bool false, .nilFunc] 72) (by kernel_rfl) (by kernel_rfl) ?_)
    obtain ⟨V2, hV2⟩ : ∃ V2, V2 = (V1.alloc (.cells #[.bool false, .bool false, .nilFunc] 72)).setCells V1.heap.size 0 [.bool true, .bool false, .func (.func 81) #[] #[.pointer (some ⟨db, 0, none⟩)]] := ⟨_, rfl⟩
    rw [← hV2]
    have B2 : Hid (Below V1.heap.size V1 V2) := Lib.hid (by rw [hV2]; exact below_set _ (Nat.le_refl _) _ _ _ (gAl _ _))
    have HDB : Hid (V2.cell? ⟨db, 0, none⟩ = some (.func (.func 67) #[] #[])) := Lib.hid ((B2.out.cell (p := ⟨db, 0, none⟩) hdl).trans hdb)
    have hr2 := World.rangeAt_setCells_same (V1.alloc (.cells #[.bool false, .bool false, .nilFunc] 72)) V1.heap.size 0 [.bool true, .bool false, .func (.func 81) #[] #[.pointer (some ⟨db, 0, none⟩)]] (there_box V1 [.bool false, .bool false, .nilFunc] _)
    rw [← hV2] at hr2
    have y0 : V2.cell? ⟨V1.heap.size, 0, none⟩ = some (.bool true) := by have := hr2 0 _ rfl; rwa [Nat.zero_add] at this
    have y1 : V2.cell? ⟨V1.heap.size, 1, none⟩ = some (.bool false) := by have := hr2 1 _ rfl; rwa [Nat.zero_add] at this
    have y2 : V2.cell? ⟨V1.heap.size, 2, none⟩ = some (.func (.func 81) #[] #[.pointer (some ⟨db, 0, none⟩)]) := by have := hr2 2 _ rfl; rwa [Nat.zero_add] at this
    clear hV2 hr2 hdb hdl
    clear c0 c1 c2 c3 c4 c5
    obtain ⟨⟨c0, c1, c2, c3⟩, c4, c5⟩ := HKA.out V2 (gNx B1.out B2.out)
    have BV := Lib.hid (gNx B1.out B2.out)
    clear B1 B2
    by_cases hq : q = 0
    · subst hq
      have HE := Lib.hid (changeE_5 (g := G) (c := ⟨5, a, b, 0⟩) rfl rfl)
      go_wp2_with fail
      refine (gOnLink2_any G 5 a b 0 base bg _ _ V2 (HGA.out V2 BV.out) HCG.out (by first | exact HQ.out | decide) db (HDB.out)).mono ?_
      rintro e V3 ⟨rfl, h3, h4⟩
      have H3 := Lib.hid h3
      have H4 := Lib.hid h4
      clear h3 h4
      rw [← HE.out.1] at H3 ⊢
      rw [← HE.out.2] at H3
      go_wp2_with fail
      go_ret
      exact ⟨rfl, H3.out, (HBW.out V2 BV.out).trans H4.out⟩
    · have hqi : ((q : Int) != 0) = true := by simp; omega
      have HE : Hid (changeE G ⟨5, a, b, q⟩ = 1) := Lib.hid (changeE_bad (by simp [bareB, hq]))
      go_wp2_with fail
      go_ret
      rw [HE.out]
      exact ⟨rfl, HFIN.out _ BV.out⟩
  · have hdl := World.block_lt_of_cell? V1 _ hdb
    go_upto_region 2 with (refine wpList_store_mid rfl 72 (.tmp 5) (.tmp 11) rfl V1.heap.size 0 #[.bool false, .bool false, .func (.func 82) #[] #[.pointer (some ⟨db, 0, none⟩)]] rfl rfl (there_box V1 [.bool false, .bool false, .nilFunc] 72) (by kernel_rfl) (by kernel_rfl) ?_)
    obtain ⟨V2, hV2⟩ : ∃ V2, V2 = (V1.alloc (.cells #[.bool false, .bool false, .nilFunc] 72)).setCells V1.heap.size 0 [.bool false, .bool false, .func (.func 82) #[] #[.pointer (some ⟨db, 0, none⟩)]] := ⟨_, rfl⟩
    rw [← hV2]
    have B2 : Hid (Below V1.heap.size V1 V2) := Lib.hid (by rw [hV2]; exact below_set _ (Nat.le_refl _) _ _ _ (gAl _ _))
    have HDB : Hid (V2.cell? ⟨db, 0, none⟩ = some (.func (.func 69) #[] #[])) := Lib.hid ((B2.out.cell (p := ⟨db, 0, none⟩) hdl).trans hdb)
    have hr2 := World.rangeAt_setCells_same (V1.alloc (.cells #[.bool false, .bool false, .nilFunc] 72)) V1.heap.size 0 [.bool false, .bool false, .func (.func 82) #[] #[.pointer (some ⟨db, 0, none⟩)]] (there_box V1 [.bool false, .bool false, .nilFunc] _)
    rw [← hV2] at hr2
    have y0 : V2.cell? ⟨V1.heap.size, 0, none⟩ = some (.bool false) := by have := hr2 0 _ rfl; rwa [Nat.zero_add] at this
    have y1 : V2.cell? ⟨V1.heap.size, 1, none⟩ = some (.bool false) := by have := hr2 1 _ rfl; rwa [Nat.zero_add] at this
    have y2 : V2.cell? ⟨V1.heap.size, 2, none⟩ = some (.func (.func 82) #[] #[.pointer (some ⟨db, 0, none⟩)]) := by have := hr2 2 _ rfl; rwa [Nat.zero_add] at this
    clear hV2 hr2 hdb hdl
    clear c0 c1 c2 c3 c4 c5
    obtain ⟨⟨c0, c1, c2, c3⟩, c4, c5⟩ := HKA.out V2 (gNx B1.out B2.out)
    have BV := Lib.hid (gNx B1.out B2.out)
    clear B1 B2
    by_cases hbz : b = 0
    · subst hbz
      by_cases hq : q = 0
      · subst hq
        have HE := Lib.hid (changeE_6 (g := G) (c := ⟨6, a, 0, 0⟩) rfl rfl)
        go_wp2_with fail
        refine (gOnNode3_any G 6 a 0 0 base bg _ _ V2 (HGA.out V2 BV.out) HCG.out (by first | exact HQ.out | decide) db (HDB.out)).mono ?_
        rintro e V3 ⟨rfl, h3, h4⟩
        have H3 := Lib.hid h3
        have H4 := Lib.hid h4
        clear h3 h4
        rw [← HE.out.1] at H3 ⊢
        rw [← HE.out.2] at H3
        go_wp2_with fail
        go_ret
        exact ⟨rfl, H3.out, (HBW.out V2 BV.out).trans H4.out⟩
      · have hqi : ((q : Int) != 0) = true := by simp; omega
        have HE : Hid (changeE G ⟨6, a, 0, q⟩ = 1) := Lib.hid (changeE_bad (by simp [bareB, hq]))
        go_wp2_with fail
        go_ret
        rw [HE.out]
        exact ⟨rfl, HFIN.out _ BV.out⟩
    · have hbi : (b != 0) = true := by simpa using hbz
      have HE : Hid (changeE G ⟨6, a, b, q⟩ = 1) := Lib.hid (changeE_bad (by simp [bareB, hbz]))
      go_wp2_with fail
      go_ret
      rw [HE.out]
      exact ⟨rfl, HFIN.out _ BV.out⟩
  · have hdl := World.block_lt_of_cell? V1 _ hdb
    go_upto_region 2 with (refine wpList_store_mid rfl 72 (.tmp 5) (.tmp 11) rfl V1.heap.size 0 #[.bool false, .bool false, .func (.func 82) #[] #[.pointer (some ⟨db, 0, none⟩)]] rfl rfl (there_box V1 [.bool false, .bool false, .nilFunc] 72) (by kernel_rfl) (by kernel_rfl) ?_)
    obtain ⟨V2, hV2⟩ : ∃ V2, V2 = (V1.alloc (.cells #[.bool false, .bool false, .nilFunc] 72)).setCells V1.heap.size 0 [.bool false, .bool false, .func (.func 82) #[] #[.pointer (some ⟨db, 0, none⟩)]] := ⟨_, rfl⟩
    rw [← hV2]
    have B2 : Hid (Below V1.heap.size V1 V2) := Lib.hid (by rw [hV2]; exact below_set _ (Nat.le_refl _) _ _ _ (gAl _ _))
    have HDB : Hid (V2.cell? ⟨db, 0, none⟩ = some (.func (.func 70) #[] #[])) := Lib.hid ((B2.out.cell (p := ⟨db, 0, none⟩) hdl).trans hdb)
    have hr2 := World.rangeAt_setCells_same (V1.alloc (.cells #[.bool false, .bool false, .nilFunc] 72)) V1.heap.size 0 [.bool false, .bool false, .func (.func 82) #[] #[.pointer (some ⟨db, 0, none⟩)]] (there_box V1 [.bool false, .bool false, .nilFunc] _)
    rw [← hV2] at hr2
    have y0 : V2.cell? ⟨V1.heap.size, 0, none⟩ = some (.bool false) := by have := hr2 0 _ rfl; rwa [Nat.zero_add] at this
    have y1 : V2.cell? ⟨V1.heap.size, 1, none⟩ = some (.bool false) := by have := hr2 1 _ rfl; rwa [Nat.zero_add] at this
    have y2 : V2.cell? ⟨V1.heap.size, 2, none⟩ = some (.func (.func 82) #[] #[.pointer (some ⟨db, 0, none⟩)]) := by have := hr2 2 _ rfl; rwa [Nat.zero_add] at this
    clear hV2 hr2 hdb hdl
    clear c0 c1 c2 c3 c4 c5
    obtain ⟨⟨c0, c1, c2, c3⟩, c4, c5⟩ := HKA.out V2 (gNx B1.out B2.out)
    have BV := Lib.hid (gNx B1.out B2.out)
    clear B1 B2
    by_cases hbz : b = 0
    · subst hbz
      by_cases hq : q = 0
      · subst hq
        have HE := Lib.hid (changeE_7 (g := G) (c := ⟨7, a, 0, 0⟩) rfl rfl)
        go_wp2_with fail
        refine (gOnNode4_any G 7 a 0 0 base bg _ _ V2 (HGA.out V2 BV.out) HCG.out (by first | exact HQ.out | decide) db (HDB.out)).mono ?_
        rintro e V3 ⟨rfl, h3, h4⟩
        have H3 := Lib.hid h3
        have H4 := Lib.hid h4
        clear h3 h4
        rw [← HE.out.1] at H3 ⊢
        rw [← HE.out.2] at H3
        go_wp2_with fail
        go_ret
        exact ⟨rfl, H3.out, (HBW.out V2 BV.out).trans H4.out⟩
      · have hqi : ((q : Int) != 0) = true := by simp; omega
        have HE : Hid (changeE G ⟨7, a, 0, q⟩ = 1) := Lib.hid (changeE_bad (by simp [bareB, hq]))
        go_wp2_with fail
        go_ret
        rw [HE.out]
        exact ⟨rfl, HFIN.out _ BV.out⟩
    · have hbi : (b != 0) = true := by simpa using hbz
      have HE : Hid (changeE G ⟨7, a, b, q⟩ = 1) := Lib.hid (changeE_bad (by simp [bareB, hbz]))
      go_wp2_with fail
      go_ret
      rw [HE.out]
      exact ⟨rfl, HFIN.out _ BV.out⟩
  · have hdl := World.block_lt_of_cell? V1 _ hdb
    go_upto_region 2 with (refine wpList_store_mid rfl 72 (.tmp 5) (.tmp 11) rfl V1.heap.size 0 #[.bool false, .bool false, .func (.func 82) #[] #[.pointer (some ⟨db, 0, none⟩)]] rfl rfl (there_box V1 [.bool false, .bool false, .nilFunc] 72) (by kernel_rfl) (by kernel_rfl) ?_)
    obtain ⟨V2, hV2⟩ : ∃ V2, V2 = (V1.alloc (.cells #[.bool false, .bool false, .nilFunc] 72)).setCells V1.heap.size 0 [.bool false, .bool false, .func (.func 82) #[] #[.pointer (some ⟨db, 0, none⟩)]] := ⟨_, rfl⟩
    rw [← hV2]
    have B2 : Hid (Below V1.heap.size V1 V2) := Lib.hid (by rw [hV2]; exact below_set _ (Nat.le_refl _) _ _ _ (gAl _ _))
    have HDB : Hid (V2.cell? ⟨db, 0, none⟩ = some (.func (.func 71) #[] #[])) := Lib.hid ((B2.out.cell (p := ⟨db, 0, none⟩) hdl).trans hdb)
    have hr2 := World.rangeAt_setCells_same (V1.alloc (.cells #[.bool false, .bool false, .nilFunc] 72)) V1.heap.size 0 [.bool false, .bool false, .func (.func 82) #[] #[.pointer (some ⟨db, 0, none⟩)]] (there_box V1 [.bool false, .bool false, .nilFunc] _)
    rw [← hV2] at hr2
    have y0 : V2.cell? ⟨V1.heap.size, 0, none⟩ = some (.bool false) := by have := hr2 0 _ rfl; rwa [Nat.zero_add] at this
    have y1 : V2.cell? ⟨V1.heap.size, 1, none⟩ = some (.bool false) := by have := hr2 1 _ rfl; rwa [Nat.zero_add] at this
    have y2 : V2.cell? ⟨V1.heap.size, 2, none⟩ = some (.func (.func 82) #[] #[.pointer (some ⟨db, 0, none⟩)]) := by have := hr2 2 _ rfl; rwa [Nat.zero_add] at this
    clear hV2 hr2 hdb hdl
    clear c0 c1 c2 c3 c4 c5
    obtain ⟨⟨c0, c1, c2, c3⟩, c4, c5⟩ := HKA.out V2 (gNx B1.out B2.out)
    have BV := Lib.hid (gNx B1.out B2.out)
    clear B1 B2
    by_cases hbz : b = 0
    · subst hbz
      by_cases hq : q = 0
      · subst hq
        have HE := Lib.hid (changeE_8 (g := G) (c := ⟨8, a, 0, 0⟩) rfl rfl)
        go_wp2_with fail
        refine (gOnNode5_any G 8 a 0 0 base bg _ _ V2 (HGA.out V2 BV.out) HCG.out (by first | exact HQ.out | decide) db (HDB.out)).mono ?_
        rintro e V3 ⟨rfl, h3, h4⟩
        have H3 := Lib.hid h3
        have H4 := Lib.hid h4
        clear h3 h4
        rw [← HE.out.1] at H3 ⊢
        rw [← HE.out.2] at H3
        go_wp2_with fail
        go_ret
        exact ⟨rfl, H3.out, (HBW.out V2 BV.out).trans H4.out⟩
      · have hqi : ((q : Int) != 0) = true := by simp; omega
        have HE : Hid (changeE G ⟨8, a, 0, q⟩ = 1) := Lib.hid (changeE_bad (by simp [bareB, hq]))
        go_wp2_with fail
        go_ret
        rw [HE.out]
        exact ⟨rfl, HFIN.out _ BV.out⟩
    · have hbi : (b != 0) = true := by simpa using hbz
      have HE : Hid (changeE G ⟨8, a, b, q⟩ = 1) := Lib.hid (changeE_bad (by simp [bareB, hbz]))
      go_wp2_with fail
      go_ret
      rw [HE.out]
      exact ⟨rfl, HFIN.out _ BV.out⟩
  · have hdl := World.block_lt_of_cell? V1 _ hdb
    go_upto_region 2 with (refine wpList_store_mid rfl 72 (.tmp 5) (.tmp 11) rfl V1.heap.size 0 #[.bool false, .bool false, .func (.func 82) #[] #[.pointer (some ⟨db, 0, none⟩)]] rfl rfl (there_box V1 [.bool false, .bool false, .nilFunc] 72) (by kernel_rfl) (by kernel_rfl) ?_)
    obtain ⟨V2, hV2⟩ : ∃ V2, V2 = (V1.alloc (.cells #[.bool false, .bool false, .nilFunc] 72)).setCells V1.heap.size 0 [.bool false, .bool false, .func (.func 82) #[] #[.pointer (some ⟨db, 0, none⟩)]] := ⟨_, rfl⟩
    rw [← hV2]
    have B2 : Hid (Below V1.heap.size V1 V2) := Lib.hid (by rw [hV2]; exact below_set _ (Nat.le_refl _) _ _ _ (gAl _ _))
    have HDB : Hid (V2.cell? ⟨db, 0, none⟩ = some (.func (.func 72) #[] #[])) := Lib.hid ((B2.out.cell (p := ⟨db, 0, none⟩) hdl).trans hdb)
    have hr2 := World.rangeAt_setCells_same (V1.alloc (.cells #[.bool false, .bool false, .nilFunc] 72)) V1.heap.size 0 [.bool false, .bool false, .func (.func 82) #[] #[.pointer (some ⟨db, 0, none⟩)]] (there_box V1 [.bool false, .bool false, .nilFunc] _)
    rw [← hV2] at hr2
    have y0 : V2.cell? ⟨V1.heap.size, 0, none⟩ = some (.bool false) := by have := hr2 0 _ rfl; rwa [Nat.zero_add] at this
    have y1 : V2.cell? ⟨V1.heap.size, 1, none⟩ = some (.bool false) := by have := hr2 1 _ rfl; rwa [Nat.zero_add] at this
    have y2 : V2.cell? ⟨V1.heap.size, 2, none⟩ = some (.func (.func 82) #[] #[.pointer (some ⟨db, 0, none⟩)]) := by have := hr2 2 _ rfl; rwa [Nat.zero_add] at this
    clear hV2 hr2 hdb hdl
    clear c0 c1 c2 c3 c4 c5
    obtain ⟨⟨c0, c1, c2, c3⟩, c4, c5⟩ := HKA.out V2 (gNx B1.out B2.out)
    have BV := Lib.hid (gNx B1.out B2.out)
    clear B1 B2
    by_cases hbz : b = 0
    · subst hbz
      by_cases hq : q = 0
      · subst hq
        have HE := Lib.hid (changeE_9 (g := G) (c := ⟨9, a, 0, 0⟩) rfl rfl)
        go_wp2_with fail
        refine (gOnNode6_any G 9 a 0 0 base bg _ _ V2 (HGA.out V2 BV.out) HCG.out (by first | exact HQ.out | decide) db (HDB.out)).mono ?_
        rintro e V3 ⟨rfl, h3, h4⟩
        have H3 := Lib.hid h3
        have H4 := Lib.hid h4
        clear h3 h4
        rw [← HE.out.1] at H3 ⊢
        rw [← HE.out.2] at H3
        go_wp2_with fail
        go_ret
        exact ⟨rfl, H3.out, (HBW.out V2 BV.out).trans H4.out⟩
      · have hqi : ((q : Int) != 0) = true := by simp; omega
        have HE : Hid (changeE G ⟨9, a, 0, q⟩ = 1) := Lib.hid (changeE_bad (by simp [bareB, hq]))
        go_wp2_with fail
        go_ret
        rw [HE.out]
        exact ⟨rfl, HFIN.out _ BV.out⟩
    · have hbi : (b != 0) = true := by simpa using hbz
      have HE : Hid (changeE G ⟨9, a, b, q⟩ = 1) := Lib.hid (changeE_bad (by simp [bareB, hbz]))
      go_wp2_with fail
      go_ret
      rw [HE.out]
      exact ⟨rfl, HFIN.out _ BV.out⟩
end Go.Proofs.Ytgjpgpjdealbeaa
