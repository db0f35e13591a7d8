/- Graphs: the document's linked, b < a. -/
import Derived.Test.YtgjpgpjdealbeaaNhH
import Derived.Test.YtgjpgpjdealbeaaNhI
namespace Go.Proofs.Ytgjpgpjdealbeaa
open Go.RowKit Go.Lib Go.Fq Go.Iq Go.Nq Go.Ow
set_option linter.unusedVariables false
set_option linter.unusedSimpArgs false
set_option maxRecDepth 100000

set_option maxHeartbeats 8000000 in
theorem rLinked_gt (G : Gr) (na : Option Addr) (nc : Nat) (la : Option Addr) (lc : Nat) (a b : Int) (q : Nat) (w : World) (hin : GrIn w G na la) (hG : checkG G = 0) (hq : q < 2 ^ 64) (hE : linkE G a b q = 0) (hlt : b < a) :
    Calls Try.prog 38 #[.agg #[.slice na G.nodes.length nc, .slice la G.links.length lc], .int .i64 a, .int .i64 b, .float .f64 q] w fun e w' => LiveEnds w (linkG G a b q) (linkE G a b q) e w' := by
  have hst := g_storeL
  obtain ⟨W1, hW1⟩ : ∃ W1, W1 = w.alloc (.cells #[.slice na G.nodes.length nc, .slice la G.links.length lc] 25) := ⟨_, rfl⟩
  obtain ⟨W2, hW2⟩ : ∃ W2, W2 = W1.alloc (.cells #[.slice none 0 0, .slice none 0 0] 25) := ⟨_, rfl⟩
  have b1 : Below w.heap.size w W1 := by rw [hW1]; exact gAl _ _
  have b2 : Below W1.heap.size W1 W2 := by rw [hW2]; exact gAl _ _
  have s1 : W1.heap.size = w.heap.size + 1 := by rw [hW1]; simp
  have s2 : W2.heap.size = W1.heap.size + 1 := by rw [hW2]; simp
  have r1 : W1.heap[w.heap.size]? = some (.cells #[.slice na G.nodes.length nc, .slice la G.links.length lc] 25 (0, 0)) := by rw [hW1]; exact heap_alloc_new w _
  have r2 : W2.heap[W1.heap.size]? = some (.cells #[.slice none 0 0, .slice none 0 0] 25 (0, 0)) := by rw [hW2]; exact heap_alloc_new W1 _
  have hb2 : Below w.heap.size w W2 := gNx b1 b2
  have q1 : W2.heap[w.heap.size]? = some (.cells #[.slice na G.nodes.length nc, .slice la G.links.length lc] 25 (0, 0)) := (b2.block _ (by omega)).trans r1
  obtain ⟨br, hbr⟩ : ∃ br, br = W1.heap.size := ⟨_, rfl⟩
  have HBR : Hid (br < W2.heap.size ∧ w.heap.size ≤ br ∧ br ≠ w.heap.size ∧ w.heap.size < W2.heap.size) := Lib.hid (by omega)
  have HKG : Hid (∀ V, Below W2.heap.size W2 V → V.cell? ⟨w.heap.size, 0, none⟩ = some (.slice na G.nodes.length nc) ∧ V.cell? ⟨w.heap.size, 1, none⟩ = some (.slice la G.links.length lc)) := Lib.hid (fun V hV => by
    have := (hV.block w.heap.size (by omega)).trans q1
    exact ⟨by rw [cell_of_row V _ 0 _ _ (0, 0) this]; rfl, by rw [cell_of_row V _ 1 _ _ (0, 0) this]; rfl⟩)
  have HRS : Hid (∀ V, Below W2.heap.size W2 V → V.heap[br]? = some (.cells #[.slice none 0 0, .slice none 0 0] 25 (0, 0))) := Lib.hid (fun V hV => by rw [hbr]; exact (hV.block _ (by omega)).trans r2)
  have HWB : Hid (∀ V, Below W2.heap.size W2 V → Below w.heap.size w V) := Lib.hid (fun V hV => gNx hb2 hV)
  have HN : Hid (∀ V, Below W2.heap.size W2 V → NodesIn V V.heap.size G.nodes na) := Lib.hid (fun V hV => hin.nodes.kept (fun i hi => (gNx hb2 hV).block i hi) (gNx hb2 hV).size)
  have HL : Hid (∀ V, Below W2.heap.size W2 V → LinksIn V V.heap.size G.links la) := Lib.hid (fun V hV => hin.links.kept (fun i hi => (gNx hb2 hV).block i hi) (gNx hb2 hV).size)
  have HG2 : Hid (∀ V, Below W2.heap.size W2 V → GrIn V G na la) := Lib.hid (fun V hV => hin.below (gNx hb2 hV))
  have HQ := Lib.hid hin.wts
  have HSZ : Hid (G.nodes.length * 16 ≤ 140737488351232 ∧ G.links.length * 32 ≤ 140737488351232) := Lib.hid ⟨hin.n1, hin.l1⟩
  obtain ⟨n1, n2, n3, n4⟩ := check_zero.1 hG
  have HNP := Lib.hid n3
  have HM1 := Lib.hid (links_iff.1 n4).2
  have HNL : Hid (G.nodes.length ≤ 256 ∧ G.links.length ≤ 4096) := Lib.hid ⟨n1, n2⟩
  clear hin b1 b2 r1 r2 q1 hb2 hG n1 n2 n3 n4
  have HQQ := Lib.hid hq
  clear hq
  have hab : ¬ a = b := by omega
  have hmin : min a b = b := by omega
  have hmax : max a b = a := by omega

  have hcon : has G.nodes a = true ∧ has G.nodes b = true ∧ hasL G.links a b = false ∧ weightF q = 0 ∧ ¬ 4096 ≤ G.links.length := by
    unfold linkE at hE
    cases hha : has G.nodes a with
    | false => rw [hha] at hE; exact absurd hE (by simp)
    | true =>
      cases hhb : has G.nodes b with
      | false => rw [hha, hhb] at hE; exact absurd hE (by simp)
      | true =>
        rw [hha, hhb, if_neg (by decide), if_neg hab] at hE
        cases hhl : hasL G.links a b with
        | true => rw [hhl] at hE; exact absurd hE (by simp)
        | false =>
          rw [hhl, if_neg (by decide)] at hE
          by_cases hw0 : weightF q = 0
          · rw [if_neg (by simpa using hw0)] at hE
            refine ⟨rfl, rfl, rfl, hw0, fun hx => ?_⟩
            rw [if_pos hx] at hE; exact absurd hE (by decide)
          · rw [if_pos (by simpa using hw0)] at hE; exact absurd hE hw0
  obtain ⟨hha, hhb, hhl, hw0, hx0⟩ := hcon
  have HP : Hid (linkE G a b q = 0 ∧ linkG G a b q = { G with links := putLink G.links ⟨b, a, q, true⟩ }) := Lib.hid ⟨hE, by rw [linkG_ok hE, hmin, hmax]⟩
  have hpa : ¬ placeV G.nodes a < 0 := fun h => by rw [(placeV_neg _ _).1.1 h] at hha; cases hha
  have hpb : ¬ placeV G.nodes b < 0 := fun h => by rw [(placeV_neg _ _).1.1 h] at hhb; cases hhb
  have hab2 : (a == b) = false := by simpa using hab
  have hlv : ¬ (0 : Int) ≤ linkV G.links a b := fun h => by rw [(linkV_neg _ _ _).2.1 h] at hhl; cases hhl
  have HWZ := Lib.hid hw0
  have hfi : ((G.links.length : Int) == 4096) = false := by simp; omega
  have HAG := Lib.hid (aheadL_gt (x := ⟨b, a, q, true⟩) HM1.out (fun y hy he => by
    have : hasL G.links a b = true := by unfold hasL; rw [List.any_eq_true]; exact ⟨y, hy, by rw [hmin, hmax]; simpa using he⟩
    rw [hhl] at this; cases this))
  clear hha hhb hhl hw0 hx0 hE hab hmin hmax
  go_enter Try.func38, Try.ntmps38
  go_upto_region 1 with (fail)
  rw [← hW1, ← hW2, ← s1, ← hbr]
  obtain ⟨g0, g1⟩ := HKG.out W2 (Below.refl _ _)
  clear hW1 hW2 s1 s2 hbr
  go_wp2_with fail
  refine (rPlace_any G.nodes na nc la G.links.length lc a W2 (HN.out W2 (Below.refl _ _)) HNP.out (by have := HNL.out; omega)).mono ?_
  rintro e V1 ⟨rfl, hb⟩
  have B1 := Lib.hid (hb)
  clear hb g0 g1
  obtain ⟨g0, g1⟩ := HKG.out V1 B1.out
  go_wp2_with fail
  refine (rPlace_any G.nodes na nc la G.links.length lc b V1 (HN.out V1 B1.out) HNP.out (by have := HNL.out; omega)).mono ?_
  rintro e V2 ⟨rfl, hb⟩
  have B2 := Lib.hid (gNx B1.out hb)
  clear hb g0 g1
  obtain ⟨g0, g1⟩ := HKG.out V2 B2.out
  go_wp2_with fail
  refine (rLink_any G.links la lc na G.nodes.length nc a b V2 (HL.out V2 B2.out) HM1.out (by have := HNL.out; omega)).mono ?_
  rintro e V3 ⟨rfl, hb⟩
  have B3 := Lib.hid (gNx B2.out hb)
  clear hb g0 g1
  obtain ⟨g0, g1⟩ := HKG.out V3 B3.out
  go_wp2_with fail
  refine (refweight_any _ _ HQQ.out).mono ?_
  rintro e w2 ⟨rfl, rfl⟩
  rw [HWZ.out]
  clear HWZ
  obtain ⟨W5, hW5⟩ : ∃ W5, W5 = V3.alloc (.cells #[.int .i64 b, .int .i64 a, .float .f64 q, .bool true] 54) := ⟨_, rfl⟩
  obtain ⟨bx, hbx⟩ : ∃ bx, bx = V3.heap.size := ⟨_, rfl⟩
  have b5 : Below V3.heap.size V3 W5 := by rw [hW5]; exact gAl _ _
  have s5 : bx < W5.heap.size := by rw [hW5, hbx]; simp
  have r5 : W5.heap[bx]? = some (.cells #[.int .i64 b, .int .i64 a, .float .f64 q, .bool true] 54 (0, 0)) := by rw [hW5, hbx]; exact heap_alloc_new V3 _
  have B5 := Lib.hid (gNx B3.out b5)
  go_upto_region 15 with (fail)
  rw [← hW5, ← hbx]
  clear hW5 hbx b5 g0 g1 hpa hpb hab2 hlv hfi
  obtain ⟨g0, g1⟩ := HKG.out W5 B5.out
  go_wp2_with fail
  refine (rCopy_any G na la nc lc W5 (HN.out W5 B5.out) (HL.out W5 B5.out) HQ.out (by have := HSZ.out; omega) (by have := HSZ.out; omega)).mono ?_
  rintro e VC ⟨vn0, vl0, rfl, hv, hb⟩
  have hfd : ∀ W, (Instr.field 25 (.agg #[vn0, vl0]) 0).run Try.prog W = .ok vn0 W := fun _ => by kernel_rfl
  obtain ⟨W4, hW4⟩ : ∃ W4, W4 = VC.alloc (.cells #[vn0, .slice none 0 0] 25) := ⟨_, rfl⟩
  obtain ⟨an0, cn0, rfl⟩ := hv.nodes.slice
  obtain ⟨al0, cl0, rfl⟩ := hv.links.slice
  obtain ⟨b0, hb0⟩ : ∃ b0, b0 = W5.heap.size := ⟨_, rfl⟩
  obtain ⟨bo, hbo⟩ : ∃ bo, bo = VC.heap.size := ⟨_, rfl⟩
  rw [← hb0] at hv hb s5
  have b4 : Below b0 W5 W4 := by rw [hW4]; exact hb.trans ((gAl _ _).mono (by rw [hb0]; rw [hb0] at hb; exact hb.size))
  have hga0 : GrAt W4 b0 bo (.slice an0 G.nodes.length cn0) (.slice none 0 0) ⟨G.nodes, []⟩ := ⟨by rw [hb0, hbo]; rw [hb0] at hb; exact hb.size, by rw [hW4, hbo]; exact heap_alloc_new VC _, hv.nodes.below (by rw [hW4]; exact gAl _ _), Or.inl ⟨rfl, rfl, none, rfl⟩, fun y hy => by cases hy⟩
  have HGA0 := Lib.hid hga0
  have HB4 := Lib.hid b4
  have HBG : Hid (w.heap.size < b0 ∧ W2.heap.size ≤ b0 ∧ b0 ≤ bo) := Lib.hid (by have h1 := B5.out.size; have h2 := hb.size; have h3 := HBR.out; omega)
  have HBW : Hid (∀ V, Below b0 W5 V → Below W2.heap.size W2 V) := Lib.hid (fun V hV => gNx B5.out (by rw [← hb0]; exact hV))
  have HXB : Hid (∀ V, Below b0 W5 V → V.heap[bx]? = some (.cells #[.int .i64 b, .int .i64 a, .float .f64 q, .bool true] 54 (0, 0))) := Lib.hid (fun V hV => (hV.block bx s5).trans r5)
  go_upto_region 16 with (fail)
  rw [← hW4, ← hbo]
  clear hW4 hbo hb0 b4 hga0 hv hb hfd g0 g1 r5 s5
  go_wp2_with fail
  go_loopw [13, 14] (fun p v wr => ∃ (k : Nat) (vl : Value), v = .int .i64 (k : Int) ∧ p = .bool (decide ((Nq.aheadL G.links ⟨b, a, q, true⟩) < k)) ∧ k ≤ G.links.length ∧ GrAt wr b0 bo (.slice an0 G.nodes.length cn0) vl ⟨G.nodes, putK G.links (Nq.aheadL G.links ⟨b, a, q, true⟩) ⟨b, a, q, true⟩ k⟩ ∧ Below b0 W5 wr) (fun _ v _ => G.links.length - (RowKit.intOf v).toNat)
  case atStart => exact ⟨0, _, rfl, rfl, by omega, by rw [part_0]; exact HGA0.out, HB4.out⟩
  case round =>
    obtain ⟨k, vl, rfl, rfl, hk, hga, hbel⟩ := hrel
    have hle : b0 ≤ wr.heap.size := Nat.le_trans hga.hb (Nat.le_of_lt hga.lt)
    have hblt : bo < wr.heap.size := hga.lt
    obtain ⟨g0, g1⟩ := HKG.out wr (HBW.out wr hbel)
    obtain ⟨-, e0, -, e2⟩ := hga.cells
    have HBEL := Lib.hid hbel
    by_cases hlt : k < G.links.length
    · have hlti : (k : Int) < (G.links.length : Int) := by omega
      have hk0 : (0 : Int) ≤ (k : Int) := by omega
      have hkw : IntKind.i64.wrap ((k : Int) + 1) = (k : Int) + 1 := by rw [IntKind.wrap_i64]; have := HSZ.out; omega
      obtain ⟨bb, o, rfl, hb, hc⟩ := (HL.out wr (HBW.out wr hbel)).at k hlt
      obtain ⟨c0, c1, c2, c3⟩ := hc k hlt
      have HFIT : Hid (((putK G.links (Nq.aheadL G.links ⟨b, a, q, true⟩) ⟨b, a, q, true⟩ k).length + 1) * 32 ≤ 140737488355328 ∧ ((putK G.links (Nq.aheadL G.links ⟨b, a, q, true⟩) ⟨b, a, q, true⟩ k ++ [(⟨b, a, q, true⟩ : Lk)]).length + 1) * 32 ≤ 140737488355328) := Lib.hid (by have := part_len G.links (Nq.aheadL G.links ⟨b, a, q, true⟩) ⟨b, a, q, true⟩ k (Nat.le_of_lt hlt); have := HNL.out; rw [List.length_append]; simp only [List.length_cons, List.length_nil]; omega)
      have HGT := Lib.hid (HAG.out.2 k hlt)
      have HPA := Lib.hid (part_at G.links (Nq.aheadL G.links ⟨b, a, q, true⟩) ⟨b, a, q, true⟩ k hlt)
      have HPG := Lib.hid (part_go G.links (Nq.aheadL G.links ⟨b, a, q, true⟩) ⟨b, a, q, true⟩ k hlt)
      have HWY := Lib.hid (HQ.out _ (List.getElem_mem hlt))
      have HBS : Hid (bo < wr.heap.size ∧ b0 ≤ wr.heap.size) := Lib.hid ⟨hblt, hle⟩
      have HON := Lib.hid (own_not hga.links wr.heap.size (Nat.le_refl _))
      generalize G.links[k] = y at *
      obtain ⟨W6, hW6⟩ : ∃ W6, W6 = wr.alloc (.cells #[.int .i64 y.a, .int .i64 y.b, .float .f64 y.w, .bool y.up] 54) := ⟨_, rfl⟩
      have b6 : Below wr.heap.size wr W6 := by rw [hW6]; exact gAl _ _
      have s6 : wr.heap.size < W6.heap.size := by rw [hW6]; simp
      have y6 : W6.heap[wr.heap.size]? = some (.cells #[.int .i64 y.a, .int .i64 y.b, .float .f64 y.w, .bool y.up] 54 (0, 0)) := by rw [hW6]; exact heap_alloc_new wr _
      have HGA6 : Hid (∀ V, Below W6.heap.size W6 V → GrAt V b0 bo (.slice an0 G.nodes.length cn0) vl ⟨G.nodes, putK G.links (Nq.aheadL G.links ⟨b, a, q, true⟩) ⟨b, a, q, true⟩ k⟩) := Lib.hid (fun V hV => hga.below (gNx b6 hV))
      have HB6 := Lib.hid b6
      have HBX : Hid (Below b0 W5 W6) := Lib.hid (hbel.trans (b6.mono hle))
      have HS6 := Lib.hid s6
      have HY6 := Lib.hid y6
      go_upto_region 21 with (fail)
      rw [← hW6]
      clear hW6 c0 c1 c2 c3 g0 g1 e0 e2 b6 s6 hc hb hga hbel hle hblt
      obtain ⟨f0, f1, f2, f3⟩ := cells_four y6
      clear y6
      have e0 := (HGA6.out W6 (Below.refl _ _)).cells.2.1
      have hcases : (Nq.aheadL G.links ⟨b, a, q, true⟩) = k ∨ (Nq.aheadL G.links ⟨b, a, q, true⟩) < k ∨ k < (Nq.aheadL G.links ⟨b, a, q, true⟩) := by omega
      rcases hcases with hA | hA | hA
      · have hgt := HGT.out.2 (by omega)
        rcases hgt with hgt | ⟨hg1, hg2⟩
        · have hgt2 : b < y.a := hgt
          clear hgt
          rw [show decide ((Nq.aheadL G.links ⟨b, a, q, true⟩) < k) = false from decide_eq_false (by omega)]
          have HX := Lib.hid (HPA.out hA)
          have HNP1 : Hid (decide ((Nq.aheadL G.links ⟨b, a, q, true⟩) < k + 1) = true) := Lib.hid (decide_eq_true (by omega))
          
          clear HGT HPA HPG hA
          obtain ⟨a3, c3, V3, hrun, hg, hga3, hb3, hk3⟩ := (HGA6.out (W6.alloc (.cells #[.int .i64 b, .int .i64 a, .float .f64 q, .bool true] 54)) (gAl _ _)).addL2 ⟨b, a, q, true⟩ (vb := W6.heap.size) (heap_alloc_new W6 _) HFIT.out.1 HQQ.out
          have HR := Lib.hid hrun
          have HG3 := Lib.hid hga3
          have HB3 := Lib.hid hb3
          have HK3 := Lib.hid hk3
          have d0 : V3.cell? ⟨bo, 1, none⟩ = some vl := by rw [cell_of_row V3 _ 1 _ _ (0, 0) hg]; rfl
          have d1 : V3.frozen? ⟨bo, 1, none⟩ = false := frozen_of_row V3 _ _ _ _ hg
          obtain ⟨x0, x1, x2, x3⟩ := cells_four (HXB.out W6 HBX.out)
          clear hrun hg hga3 hb3 hk3
          go_upto_region 24 with (at_builtin; refine Lib.wpList_append_run _ rfl _ _ _ _ rfl _ _ rfl rfl _ _ (HR.out _) ?_)
          obtain ⟨W7, hW7⟩ : ∃ W7, W7 = V3.setCell ⟨bo, 1, none⟩ (.slice a3 ((putK G.links (Nq.aheadL G.links ⟨b, a, q, true⟩) ⟨b, a, q, true⟩ k).length + 1) c3) := ⟨_, rfl⟩
          rw [← hW7]
          have hbo : bo < wr.heap.size := HBS.out.1
          have b7 : Below b0 W6 W7 := by rw [hW7]; exact (((gAl W6 _).mono (Nat.le_trans HBS.out.2 (Nat.le_of_lt HS6.out))).trans HB3.out).setCell HBG.out.2.2 _
          have hg7 : GrAt W7 b0 bo (.slice an0 G.nodes.length cn0) (.slice a3 ((putK G.links (Nq.aheadL G.links ⟨b, a, q, true⟩) ⟨b, a, q, true⟩ k).length + 1) c3) ⟨G.nodes, putK G.links (Nq.aheadL G.links ⟨b, a, q, true⟩) ⟨b, a, q, true⟩ k ++ [⟨b, a, q, true⟩]⟩ := by rw [hW7]; exact HG3.out
          have hy7 : W7.heap[wr.heap.size]? = some (.cells #[.int .i64 y.a, .int .i64 y.b, .float .f64 y.w, .bool y.up] 54 (0, 0)) := by
            rw [hW7, Below.heap_setCell _ _ _ _ (by show wr.heap.size ≠ bo; omega), HK3.out wr.heap.size (Nat.lt_of_lt_of_le HS6.out (gAl W6 _).size) HON.out, (gAl W6 _).block _ HS6.out]
            exact HY6.out
          obtain ⟨vl2, hvl2⟩ : ∃ v, v = Value.slice a3 ((putK G.links (Nq.aheadL G.links ⟨b, a, q, true⟩) ⟨b, a, q, true⟩ k).length + 1) c3 := ⟨_, rfl⟩
          obtain ⟨P, hP⟩ : ∃ P, P = putK G.links (Nq.aheadL G.links ⟨b, a, q, true⟩) ⟨b, a, q, true⟩ k ++ [(⟨b, a, q, true⟩ : Lk)] := ⟨_, rfl⟩
          have HX : Hid (putK G.links (Nq.aheadL G.links ⟨b, a, q, true⟩) ⟨b, a, q, true⟩ (k + 1) = P ++ [y]) := Lib.hid (by rw [hP]; exact HX.out)
          have HFI2 : Hid ((P.length + 1) * 32 ≤ 140737488355328) := Lib.hid (by rw [hP]; exact HFIT.out.2)
          rw [← hvl2, ← hP] at hg7
          have HGW : Hid (∀ V, Below W7.heap.size W7 V → GrAt V b0 bo (.slice an0 G.nodes.length cn0) vl2 ⟨G.nodes, P⟩) := Lib.hid (fun V hV => hg7.below hV)
          have e1 := hg7.cells.2.1
          have HB7 := Lib.hid b7
          clear hW7 b7 hg7 hvl2 hP HG3 HB3 HK3 d0 d1 x0 x1 x2 x3 HR f0 f1 f2 f3 HGA6 e0
          obtain ⟨f0, f1, f2, f3⟩ := cells_four hy7
          clear hy7
          obtain ⟨a8, c8, V8, hrun, hg, hga3, hb3⟩ := (HGW.out (W7.alloc (.cells #[.int .i64 y.a, .int .i64 y.b, .float .f64 y.w, .bool y.up] 54)) (gAl _ _)).addL y (vb := W7.heap.size) (heap_alloc_new W7 _) HFI2.out HWY.out
          have HR := Lib.hid hrun
          have HG8 := Lib.hid hga3
          have HB8 := Lib.hid hb3
          have d0 : V8.cell? ⟨bo, 1, none⟩ = some vl2 := by rw [cell_of_row V8 _ 1 _ _ (0, 0) hg]; rfl
          have d1 : V8.frozen? ⟨bo, 1, none⟩ = false := frozen_of_row V8 _ _ _ _ hg
          clear hrun hg hga3 hb3
          go_wp2_with (at_builtin; refine Lib.wpList_append_run _ rfl _ _ _ _ rfl _ _ rfl rfl _ _ (HR.out _) ?_)
          refine ⟨⟨k + 1, _, by simp, by rw [HNP1.out], by omega, by rw [HX.out]; exact HG8.out, ((((HBEL.out.trans (HB6.out.mono HBS.out.2)).trans HB7.out).trans ((gAl W7 _).mono (Nat.le_trans HBS.out.2 (Nat.le_trans (Nat.le_of_lt HS6.out) HB7.out.size)))).trans HB8.out).setCell HBG.out.2.2 _⟩, ?_⟩
          simp [RowKit.intOf]; omega
        · have hg3 : (y.a == b) = true := by simpa using hg1
          have hg4 : ¬ b < y.a := by have h : y.a = b := hg1; omega
          have hg5 : a < y.b := hg2
          clear hg1 hg2
          rw [show decide ((Nq.aheadL G.links ⟨b, a, q, true⟩) < k) = false from decide_eq_false (by omega)]
          have HX := Lib.hid (HPA.out hA)
          have HNP1 : Hid (decide ((Nq.aheadL G.links ⟨b, a, q, true⟩) < k + 1) = true) := Lib.hid (decide_eq_true (by omega))
          
          clear HGT HPA HPG hA
          obtain ⟨a3, c3, V3, hrun, hg, hga3, hb3, hk3⟩ := (HGA6.out (W6.alloc (.cells #[.int .i64 b, .int .i64 a, .float .f64 q, .bool true] 54)) (gAl _ _)).addL2 ⟨b, a, q, true⟩ (vb := W6.heap.size) (heap_alloc_new W6 _) HFIT.out.1 HQQ.out
          have HR := Lib.hid hrun
          have HG3 := Lib.hid hga3
          have HB3 := Lib.hid hb3
          have HK3 := Lib.hid hk3
          have d0 : V3.cell? ⟨bo, 1, none⟩ = some vl := by rw [cell_of_row V3 _ 1 _ _ (0, 0) hg]; rfl
          have d1 : V3.frozen? ⟨bo, 1, none⟩ = false := frozen_of_row V3 _ _ _ _ hg
          obtain ⟨x0, x1, x2, x3⟩ := cells_four (HXB.out W6 HBX.out)
          clear hrun hg hga3 hb3 hk3
          go_upto_region 24 with (at_builtin; refine Lib.wpList_append_run _ rfl _ _ _ _ rfl _ _ rfl rfl _ _ (HR.out _) ?_)
          obtain ⟨W7, hW7⟩ : ∃ W7, W7 = V3.setCell ⟨bo, 1, none⟩ (.slice a3 ((putK G.links (Nq.aheadL G.links ⟨b, a, q, true⟩) ⟨b, a, q, true⟩ k).length + 1) c3) := ⟨_, rfl⟩
          rw [← hW7]
          have hbo : bo < wr.heap.size := HBS.out.1
          have b7 : Below b0 W6 W7 := by rw [hW7]; exact (((gAl W6 _).mono (Nat.le_trans HBS.out.2 (Nat.le_of_lt HS6.out))).trans HB3.out).setCell HBG.out.2.2 _
          have hg7 : GrAt W7 b0 bo (.slice an0 G.nodes.length cn0) (.slice a3 ((putK G.links (Nq.aheadL G.links ⟨b, a, q, true⟩) ⟨b, a, q, true⟩ k).length + 1) c3) ⟨G.nodes, putK G.links (Nq.aheadL G.links ⟨b, a, q, true⟩) ⟨b, a, q, true⟩ k ++ [⟨b, a, q, true⟩]⟩ := by rw [hW7]; exact HG3.out
          have hy7 : W7.heap[wr.heap.size]? = some (.cells #[.int .i64 y.a, .int .i64 y.b, .float .f64 y.w, .bool y.up] 54 (0, 0)) := by
            rw [hW7, Below.heap_setCell _ _ _ _ (by show wr.heap.size ≠ bo; omega), HK3.out wr.heap.size (Nat.lt_of_lt_of_le HS6.out (gAl W6 _).size) HON.out, (gAl W6 _).block _ HS6.out]
            exact HY6.out
          obtain ⟨vl2, hvl2⟩ : ∃ v, v = Value.slice a3 ((putK G.links (Nq.aheadL G.links ⟨b, a, q, true⟩) ⟨b, a, q, true⟩ k).length + 1) c3 := ⟨_, rfl⟩
          obtain ⟨P, hP⟩ : ∃ P, P = putK G.links (Nq.aheadL G.links ⟨b, a, q, true⟩) ⟨b, a, q, true⟩ k ++ [(⟨b, a, q, true⟩ : Lk)] := ⟨_, rfl⟩
          have HX : Hid (putK G.links (Nq.aheadL G.links ⟨b, a, q, true⟩) ⟨b, a, q, true⟩ (k + 1) = P ++ [y]) := Lib.hid (by rw [hP]; exact HX.out)
          have HFI2 : Hid ((P.length + 1) * 32 ≤ 140737488355328) := Lib.hid (by rw [hP]; exact HFIT.out.2)
          rw [← hvl2, ← hP] at hg7
          have HGW : Hid (∀ V, Below W7.heap.size W7 V → GrAt V b0 bo (.slice an0 G.nodes.length cn0) vl2 ⟨G.nodes, P⟩) := Lib.hid (fun V hV => hg7.below hV)
          have e1 := hg7.cells.2.1
          have HB7 := Lib.hid b7
          clear hW7 b7 hg7 hvl2 hP HG3 HB3 HK3 d0 d1 x0 x1 x2 x3 HR f0 f1 f2 f3 HGA6 e0
          obtain ⟨f0, f1, f2, f3⟩ := cells_four hy7
          clear hy7
          obtain ⟨a8, c8, V8, hrun, hg, hga3, hb3⟩ := (HGW.out (W7.alloc (.cells #[.int .i64 y.a, .int .i64 y.b, .float .f64 y.w, .bool y.up] 54)) (gAl _ _)).addL y (vb := W7.heap.size) (heap_alloc_new W7 _) HFI2.out HWY.out
          have HR := Lib.hid hrun
          have HG8 := Lib.hid hga3
          have HB8 := Lib.hid hb3
          have d0 : V8.cell? ⟨bo, 1, none⟩ = some vl2 := by rw [cell_of_row V8 _ 1 _ _ (0, 0) hg]; rfl
          have d1 : V8.frozen? ⟨bo, 1, none⟩ = false := frozen_of_row V8 _ _ _ _ hg
          clear hrun hg hga3 hb3
          go_wp2_with (at_builtin; refine Lib.wpList_append_run _ rfl _ _ _ _ rfl _ _ rfl rfl _ _ (HR.out _) ?_)
          refine ⟨⟨k + 1, _, by simp, by rw [HNP1.out], by omega, by rw [HX.out]; exact HG8.out, ((((HBEL.out.trans (HB6.out.mono HBS.out.2)).trans HB7.out).trans ((gAl W7 _).mono (Nat.le_trans HBS.out.2 (Nat.le_trans (Nat.le_of_lt HS6.out) HB7.out.size)))).trans HB8.out).setCell HBG.out.2.2 _⟩, ?_⟩
          simp [RowKit.intOf]; omega
      · 
        rw [show decide ((Nq.aheadL G.links ⟨b, a, q, true⟩) < k) = true from decide_eq_true (by omega)]
        have HX := Lib.hid (HPG.out (by omega))
        have HNP1 : Hid (decide ((Nq.aheadL G.links ⟨b, a, q, true⟩) < k + 1) = true) := Lib.hid (decide_eq_true (by omega))
        
        clear HGT HPA HPG hA
        obtain ⟨a8, c8, V8, hrun, hg, hga3, hb3⟩ := (HGA6.out (W6.alloc (.cells #[.int .i64 y.a, .int .i64 y.b, .float .f64 y.w, .bool y.up] 54)) (gAl _ _)).addL y (vb := W6.heap.size) (heap_alloc_new W6 _) HFIT.out.1 HWY.out
        have HR := Lib.hid hrun
        have HG8 := Lib.hid hga3
        have HB8 := Lib.hid hb3
        have d0 : V8.cell? ⟨bo, 1, none⟩ = some vl := by rw [cell_of_row V8 _ 1 _ _ (0, 0) hg]; rfl
        have d1 : V8.frozen? ⟨bo, 1, none⟩ = false := frozen_of_row V8 _ _ _ _ hg
        clear hrun hg hga3 hb3
        go_wp2_with (at_builtin; refine Lib.wpList_append_run _ rfl _ _ _ _ rfl _ _ rfl rfl _ _ (HR.out _) ?_)
        refine ⟨⟨k + 1, _, by simp, by rw [HNP1.out], by omega, by rw [HX.out]; exact HG8.out, (((HBEL.out.trans (HB6.out.mono HBS.out.2)).trans ((gAl W6 _).mono (Nat.le_trans HBS.out.2 (Nat.le_of_lt HS6.out)))).trans HB8.out).setCell HBG.out.2.2 _⟩, ?_⟩
        simp [RowKit.intOf]; omega
      · have hngt : ¬ (y.a > b ∨ (y.a = b ∧ y.b > a)) := fun h => by have := HGT.out.1 h; omega
        have hg4 : ¬ b < y.a := fun h => hngt (Or.inl h)
        by_cases hg : y.a = b
        · have hg3 : (y.a == b) = true := by simpa using hg
          have hg5 : ¬ a < y.b := fun h => hngt (Or.inr ⟨hg, h⟩)
          clear hg hngt
          rw [show decide ((Nq.aheadL G.links ⟨b, a, q, true⟩) < k) = false from decide_eq_false (by omega)]
          have HX := Lib.hid (HPG.out (by omega))
          have HNP1 : Hid (decide ((Nq.aheadL G.links ⟨b, a, q, true⟩) < k + 1) = false) := Lib.hid (decide_eq_false (by omega))
          
          clear HGT HPA HPG hA
          obtain ⟨a8, c8, V8, hrun, hg, hga3, hb3⟩ := (HGA6.out (W6.alloc (.cells #[.int .i64 y.a, .int .i64 y.b, .float .f64 y.w, .bool y.up] 54)) (gAl _ _)).addL y (vb := W6.heap.size) (heap_alloc_new W6 _) HFIT.out.1 HWY.out
          have HR := Lib.hid hrun
          have HG8 := Lib.hid hga3
          have HB8 := Lib.hid hb3
          have d0 : V8.cell? ⟨bo, 1, none⟩ = some vl := by rw [cell_of_row V8 _ 1 _ _ (0, 0) hg]; rfl
          have d1 : V8.frozen? ⟨bo, 1, none⟩ = false := frozen_of_row V8 _ _ _ _ hg
          clear hrun hg hga3 hb3
          go_wp2_with (at_builtin; refine Lib.wpList_append_run _ rfl _ _ _ _ rfl _ _ rfl rfl _ _ (HR.out _) ?_)
          refine ⟨⟨k + 1, _, by simp, by rw [HNP1.out], by omega, by rw [HX.out]; exact HG8.out, (((HBEL.out.trans (HB6.out.mono HBS.out.2)).trans ((gAl W6 _).mono (Nat.le_trans HBS.out.2 (Nat.le_of_lt HS6.out)))).trans HB8.out).setCell HBG.out.2.2 _⟩, ?_⟩
          simp [RowKit.intOf]; omega
        · have hg3 : (y.a == b) = false := by simpa using hg
          clear hg hngt
          rw [show decide ((Nq.aheadL G.links ⟨b, a, q, true⟩) < k) = false from decide_eq_false (by omega)]
          have HX := Lib.hid (HPG.out (by omega))
          have HNP1 : Hid (decide ((Nq.aheadL G.links ⟨b, a, q, true⟩) < k + 1) = false) := Lib.hid (decide_eq_false (by omega))
          
          clear HGT HPA HPG hA
          obtain ⟨a8, c8, V8, hrun, hg, hga3, hb3⟩ := (HGA6.out (W6.alloc (.cells #[.int .i64 y.a, .int .i64 y.b, .float .f64 y.w, .bool y.up] 54)) (gAl _ _)).addL y (vb := W6.heap.size) (heap_alloc_new W6 _) HFIT.out.1 HWY.out
          have HR := Lib.hid hrun
          have HG8 := Lib.hid hga3
          have HB8 := Lib.hid hb3
          have d0 : V8.cell? ⟨bo, 1, none⟩ = some vl := by rw [cell_of_row V8 _ 1 _ _ (0, 0) hg]; rfl
          have d1 : V8.frozen? ⟨bo, 1, none⟩ = false := frozen_of_row V8 _ _ _ _ hg
          clear hrun hg hga3 hb3
          go_wp2_with (at_builtin; refine Lib.wpList_append_run _ rfl _ _ _ _ rfl _ _ rfl rfl _ _ (HR.out _) ?_)
          refine ⟨⟨k + 1, _, by simp, by rw [HNP1.out], by omega, by rw [HX.out]; exact HG8.out, (((HBEL.out.trans (HB6.out.mono HBS.out.2)).trans ((gAl W6 _).mono (Nat.le_trans HBS.out.2 (Nat.le_of_lt HS6.out)))).trans HB8.out).setCell HBG.out.2.2 _⟩, ?_⟩
          simp [RowKit.intOf]; omega
    · have hnk : ¬ (k : Int) < (G.links.length : Int) := by omega
      have hkl : k = G.links.length := by omega
      subst hkl
      by_cases hA : (Nq.aheadL G.links ⟨b, a, q, true⟩) < G.links.length
      · rw [show decide ((Nq.aheadL G.links ⟨b, a, q, true⟩) < G.links.length) = true from decide_eq_true hA]
        rw [part_end _ _ _ hA] at hga
        have hga2 : GrAt wr b0 bo (.slice an0 G.nodes.length cn0) vl { G with links := putLink G.links ⟨b, a, q, true⟩ } := hga
        obtain ⟨d0, d1, -, -⟩ := hga2.cells
        obtain ⟨al, cl, rfl⟩ := hga2.links.slice
        have HGA2 := Lib.hid hga2
        have HBE2 := Lib.hid (HBW.out wr hbel)
        have hres := HRS.out wr (HBW.out wr hbel)
        obtain ⟨x0, x1, x2, x3⟩ := cells_two hres
        have HRES := Lib.hid hres
        clear hres
        clear hlt hga hga2 hbel hA hle hblt
        go_wp2_with fail
        have hq1 := heap_setCell_same wr br 0 _ _ (.slice an0 G.nodes.length cn0) HRES.out
        have hq2 := heap_setCell_same _ br 1 _ _ (.slice al (putLink G.links ⟨b, a, q, true⟩).length cl) hq1
        refine bodyPost_ret (results_cell2 Try.results38 _ _ br 0 [.slice an0 G.nodes.length cn0, .slice al (putLink G.links ⟨b, a, q, true⟩).length cl] _ rfl ?_ Try.underlying25 (by rfl) (by kernel_rfl)) rfl ?_
        · intro j v hj
          match j with
          | 0 => simp at hj; subst hj; rw [cell_of_row _ _ _ _ _ (0, 0) hq2]; rfl
          | 1 => simp at hj; subst hj; rw [cell_of_row _ _ _ _ _ (0, 0) hq2]; rfl
          | j + 2 => simp at hj
        · rw [HP.out.1, HP.out.2]
          exact ⟨_, _, rfl, ((HGA2.out.v.mono (Nat.le_of_lt HBG.out.1)).set HRES.out).set hq1, ((HWB.out wr HBE2.out).setCell HBR.out.2.1 _).setCell HBR.out.2.1 _⟩
      · rw [show decide ((Nq.aheadL G.links ⟨b, a, q, true⟩) < G.links.length) = false from decide_eq_false hA]
        have hAe : (Nq.aheadL G.links ⟨b, a, q, true⟩) = G.links.length := by have := HAG.out.1; omega
        have HPL := Lib.hid (part_last G.links (Nq.aheadL G.links ⟨b, a, q, true⟩) ⟨b, a, q, true⟩ hAe)
        have HFIT : Hid (((putK G.links (Nq.aheadL G.links ⟨b, a, q, true⟩) ⟨b, a, q, true⟩ G.links.length).length + 1) * 32 ≤ 140737488355328) := Lib.hid (by have := part_len G.links (Nq.aheadL G.links ⟨b, a, q, true⟩) ⟨b, a, q, true⟩ G.links.length (Nat.le_refl _); have := HNL.out; omega)
        have HGAW : Hid (∀ V, Below wr.heap.size wr V → GrAt V b0 bo (.slice an0 G.nodes.length cn0) vl ⟨G.nodes, putK G.links (Nq.aheadL G.links ⟨b, a, q, true⟩) ⟨b, a, q, true⟩ G.links.length⟩) := Lib.hid (fun V hV => hga.below hV)
        have HBX := HBEL
        have HBS : Hid (b0 ≤ wr.heap.size) := Lib.hid hle
        clear hlt hga hbel hA hAe hle hblt
        obtain ⟨a3, c3, V3, hrun, hg, hga3, hb3, hk3⟩ := (HGAW.out (wr.alloc (.cells #[.int .i64 b, .int .i64 a, .float .f64 q, .bool true] 54)) (gAl _ _)).addL2 ⟨b, a, q, true⟩ (vb := wr.heap.size) (heap_alloc_new wr _) HFIT.out HQQ.out
        have HR := Lib.hid hrun
        have HG3 := Lib.hid hga3
        have HB3 := Lib.hid hb3
        have HK3 := Lib.hid hk3
        have d0 : V3.cell? ⟨bo, 1, none⟩ = some vl := by rw [cell_of_row V3 _ 1 _ _ (0, 0) hg]; rfl
        have d1 : V3.frozen? ⟨bo, 1, none⟩ = false := frozen_of_row V3 _ _ _ _ hg
        obtain ⟨x0, x1, x2, x3⟩ := cells_four (HXB.out wr HBX.out)
        clear hrun hg hga3 hb3 hk3
        go_upto_region 27 with (at_builtin; refine Lib.wpList_append_run _ rfl _ _ _ _ rfl _ _ rfl rfl _ _ (HR.out _) ?_)
        obtain ⟨W7, hW7⟩ : ∃ W7, W7 = V3.setCell ⟨bo, 1, none⟩ (.slice a3 ((putK G.links (Nq.aheadL G.links ⟨b, a, q, true⟩) ⟨b, a, q, true⟩ G.links.length).length + 1) c3) := ⟨_, rfl⟩
        rw [← hW7]
        have b7 : Below b0 W5 W7 := by rw [hW7]; exact ((HBEL.out.trans ((gAl wr _).mono HBS.out)).trans HB3.out).setCell HBG.out.2.2 _
        have hg7 := HG3.out
        rw [← hW7] at hg7
        simp only at hg7
        obtain ⟨N, hN⟩ : ∃ N, N = (putK G.links (Nq.aheadL G.links ⟨b, a, q, true⟩) ⟨b, a, q, true⟩ G.links.length).length + 1 := ⟨_, rfl⟩
        have HNN : Hid (N = (putLink G.links ⟨b, a, q, true⟩).length) := Lib.hid (by unfold putLink; rw [← HPL.out, List.length_append, hN]; rfl)
        rw [HPL.out, ← hN] at hg7
        rw [← hN]
        have hga2 : GrAt W7 b0 bo (.slice an0 G.nodes.length cn0) (.slice a3 N c3) { G with links := putLink G.links ⟨b, a, q, true⟩ } := hg7
        obtain ⟨h0, h1, -, -⟩ := hga2.cells
        have HGA2 := Lib.hid hga2
        have HB7 := Lib.hid (HBW.out _ b7)
        have hres := HRS.out W7 (HBW.out _ b7)
        obtain ⟨z0, z1, z2, z3⟩ := cells_two hres
        have HRES := Lib.hid hres
        clear hres
        clear hW7 b7 hg7 hga2 HG3 HB3 d0 d1 g0 g1 e0 e2 HR HGAW hN x0 x1 x2 x3
        go_wp2_with fail
        have hq1 := heap_setCell_same W7 br 0 _ _ (.slice an0 G.nodes.length cn0) HRES.out
        have hq2 := heap_setCell_same _ br 1 _ _ (.slice a3 N c3) hq1
        refine bodyPost_ret (results_cell2 Try.results38 _ _ br 0 [.slice an0 G.nodes.length cn0, .slice a3 N c3] _ rfl ?_ Try.underlying25 (by rfl) (by kernel_rfl)) rfl ?_
        · intro j v hj
          match j with
          | 0 => simp at hj; subst hj; rw [cell_of_row _ _ _ _ _ (0, 0) hq2]; rfl
          | 1 => simp at hj; subst hj; rw [cell_of_row _ _ _ _ _ (0, 0) hq2]; rfl
          | j + 2 => simp at hj
        · rw [HP.out.1, HP.out.2]
          exact ⟨_, _, rfl, ((HGA2.out.v.mono (Nat.le_of_lt HBG.out.1)).set HRES.out).set hq1, ((HWB.out W7 HB7.out).setCell HBR.out.2.1 _).setCell HBR.out.2.1 _⟩
end Go.Proofs.Ytgjpgpjdealbeaa
