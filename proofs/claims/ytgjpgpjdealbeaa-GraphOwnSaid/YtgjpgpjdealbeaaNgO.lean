/- Graphs: a link of another weight. -/
import Derived.Test.YtgjpgpjdealbeaaNgN
namespace Go.Proofs.Ytgjpgpjdealbeaa
open Go.RowKit Go.Lib Go.Fq Go.Iq Go.Nq Go.Ow
set_option linter.unusedVariables false
set_option linter.unusedSimpArgs false
set_option maxRecDepth 100000

set_option maxHeartbeats 8000000 in
theorem gWeigh_any (G : Gr) (kd a b : Int) (q : Nat) (base bg : Nat) (vn vl : Value) (w : World) (h : GrAt w base bg vn vl G) (hG : checkG G = 0) (hq : q < 2 ^ 64) :
    Calls Try.prog 64 #[.pointer (some ⟨bg, 0, none⟩), .agg #[.int .i64 kd, .int .i64 a, .int .i64 b, .float .f64 q]] w fun e w' => e = .returned (.int .i64 (weighE G a b q)) ∧ (∃ vn' vl', GrAt w' base bg vn' vl' (aft (weighE G a b q) ({ G with links := onLink (fun y => { y with w := q }) a b G.links }) G)) ∧ Below base w w' := by
  obtain ⟨n1, n2, n3, n4⟩ := check_zero.1 hG
  obtain ⟨na, nc, rfl, hNI, hNA⟩ := ownN_in h.nodes
  obtain ⟨la, lc, rfl, hLI, hLA⟩ := ownL_in h.links
  obtain ⟨hm1, hm2⟩ := links_iff.1 n4
  obtain ⟨W1, hW1⟩ : ∃ W1, W1 = w.alloc (.cells #[.int .i64 kd, .int .i64 a, .int .i64 b, .float .f64 q] 33) := ⟨_, rfl⟩
  have hb1 : Below w.heap.size w W1 := by rw [hW1]; exact gAl _ _
  have hs1 : w.heap.size < W1.heap.size := by rw [hW1]; simp
  have hcb : W1.heap[w.heap.size]? = some (.cells #[.int .i64 kd, .int .i64 a, .int .i64 b, .float .f64 q] 33 (0, 0)) := by rw [hW1]; exact heap_alloc_new w _
  have hbs : base ≤ w.heap.size := Nat.le_of_lt (Nat.lt_of_le_of_lt h.hb h.lt)
  have HGA : Hid (∀ V, Below W1.heap.size W1 V → GrAt V base bg (.slice na G.nodes.length nc) (.slice la G.links.length lc) G) := Lib.hid (fun V hV => h.below (gNx hb1 hV))
  have HCB : Hid (∀ V, Below W1.heap.size W1 V → V.heap[w.heap.size]? = some (.cells #[.int .i64 kd, .int .i64 a, .int .i64 b, .float .f64 q] 33 (0, 0))) := Lib.hid (fun V hV => (hV.block _ hs1).trans hcb)
  have KA : ∀ V, Below W1.heap.size W1 V → (V.cell? ⟨w.heap.size, 0, none⟩ = some (.int .i64 kd) ∧ V.cell? ⟨w.heap.size, 1, none⟩ = some (.int .i64 a) ∧ V.cell? ⟨w.heap.size, 2, none⟩ = some (.int .i64 b) ∧ V.cell? ⟨w.heap.size, 3, none⟩ = some (.float .f64 q)) ∧ V.cell? ⟨bg, 0, none⟩ = some (.slice na G.nodes.length nc) ∧ V.cell? ⟨bg, 1, none⟩ = some (.slice la G.links.length lc) := fun V hV => by
    have hh := HCB.out V hV
    exact ⟨⟨by rw [cell_of_row V _ 0 _ _ (0, 0) hh]; rfl, by rw [cell_of_row V _ 1 _ _ (0, 0) hh]; rfl, by rw [cell_of_row V _ 2 _ _ (0, 0) hh]; rfl, by rw [cell_of_row V _ 3 _ _ (0, 0) hh]; rfl⟩, (HGA.out V hV).cells.1, (HGA.out V hV).cells.2.1⟩
  have HKA := Lib.hid KA
  obtain ⟨⟨c0, c1, c2, c3⟩, c4, c5⟩ := KA W1 (Below.refl _ _)
  have HB1 := Lib.hid hb1
  have HBW : Hid (∀ V, Below W1.heap.size W1 V → Below base w V) := Lib.hid (fun V hV => (gNx hb1 hV).mono hbs)
  have HN3 := Lib.hid n3
  have HM1 := Lib.hid hm1
  have HM2 := Lib.hid hm2
  have HNI : Hid (∀ V, Below W1.heap.size W1 V → NodesIn V V.heap.size G.nodes na) := Lib.hid (fun V hV => hNI.kept (fun i hi => (gNx hb1 hV).block i hi) (gNx hb1 hV).size)
  have HLI : Hid (∀ V, Below W1.heap.size W1 V → LinksIn V V.heap.size G.links la) := Lib.hid (fun V hV => hLI.kept (fun i hi => (gNx hb1 hV).block i hi) (gNx hb1 hV).size)
  have HNL : Hid (G.nodes.length ≤ 256 ∧ G.links.length ≤ 4096) := Lib.hid ⟨n1, n2⟩
  have HFIN : Hid (∀ V, Below W1.heap.size W1 V → (∃ vn' vl', GrAt V base bg vn' vl' G) ∧ Below base w V) := Lib.hid (fun V hV => ⟨⟨_, _, HGA.out V hV⟩, HBW.out V hV⟩)
  have HBG : Hid (bg < w.heap.size ∧ base ≤ bg) := Lib.hid ⟨h.lt, h.hb⟩
  have HQ := Lib.hid hq
  have HNA := Lib.hid hNA
  have HLA := Lib.hid hLA
  clear h hG hq n1 n2 n3 n4 hNI hNA hLI hLA hm1 hm2 hb1 hs1 hcb hbs KA
  have HIT : Hid (∀ x V, Below W1.heap.size W1 V → Calls Try.prog 43 #[.agg #[.slice na G.nodes.length nc, .slice la G.links.length lc], .int .i64 x] V fun e w' => e = .returned (.bool (has G.nodes x)) ∧ Below V.heap.size V w') := Lib.hid (fun x V hV => gIsThere_any G.nodes na nc la G.links.length lc x V (HNI.out V hV) HN3.out (by have := HNL.out; omega))
  have HFL : Hid (∀ V, Below W1.heap.size W1 V → Calls Try.prog 78 #[.agg #[.slice na G.nodes.length nc, .slice la G.links.length lc], .int .i64 a, .int .i64 b] V fun e w' => e = .returned (.tuple #[.int .i64 (aheadL G.links ⟨min a b, max a b, 0, false⟩ : Int), .bool (hasL G.links a b)]) ∧ Below V.heap.size V w') := Lib.hid (fun V hV => gFindLink_any G.links la lc na G.nodes.length nc a b V (HLI.out V hV) HM2.out (by have := HNL.out; omega))
  have HBS : Hid (∀ V, Below W1.heap.size W1 V → base ≤ V.heap.size) := Lib.hid (fun V hV => Nat.le_trans HBG.out.2 (Nat.le_of_lt (HGA.out V hV).lt))
  have hst := g_storeL
  have HWT := Lib.hid (fun V => weight_any q V HQ.out)
  have HEa : Hid (weighE G a b q = if !hasL G.links a b then 4 else weightF q) := Lib.hid rfl
  clear HIT
  cases hf : hasL G.links a b with
  | false =>
    have HE1 : Hid (weighE G a b q = 4) := Lib.hid (by rw [HEa.out, hf]; rfl)
    rw [hf] at HFL
    clear HEa hf HLA
    generalize aheadL G.links ⟨min a b, max a b, 0, false⟩ = pos at *
    go_enter Try.func64, Try.ntmps64
    go_upto_region 1 with (fail)
    rw [← hW1]
    clear hW1
    refine wp_region_held_drew (S := fun V => Below W1.heap.size W1 V) (by kernel_rfl) (Below.drew (Below.refl _ _)) (fun hH => ?_)
    have B0 : Hid (Below W1.heap.size W1 W1.drew) := Lib.hid (Below.drew (Below.refl _ _))
    generalize W1.drew = V0 at *
    refine tk 0 (by assumption) rfl (by kernel_rfl) (fun _ _ _ h => h) (fun V hV => by go_simp; try with_reducible rfl) ?_
    try simp only [Act.put, List.setIfInBounds_toArray, List.set_cons_zero, List.set_cons_succ, List.getElem_toArray, List.getElem_cons_succ, List.getElem_cons_zero]
    refine tk 1 (by assumption) rfl (by kernel_rfl) (fun _ _ _ h => h) (fun V hV => by go_simp; try with_reducible rfl) ?_
    try simp only [Act.put, List.setIfInBounds_toArray, List.set_cons_zero, List.set_cons_succ, List.getElem_toArray, List.getElem_cons_succ, List.getElem_cons_zero]
    refine tk 2 (by assumption) rfl (by kernel_rfl) (fun _ _ _ h => h) (fun V hV => by obtain ⟨⟨c0, c1, c2, c3⟩, c4, c5⟩ := HKA.out V hV; go_simp; try with_reducible rfl) ?_
    try simp only [Act.put, List.setIfInBounds_toArray, List.set_cons_zero, List.set_cons_succ, List.getElem_toArray, List.getElem_cons_succ, List.getElem_cons_zero]
    refine tk 3 (by assumption) rfl (by kernel_rfl) (fun _ _ _ h => h) (fun V hV => by go_simp; try with_reducible rfl) ?_
    try simp only [Act.put, List.setIfInBounds_toArray, List.set_cons_zero, List.set_cons_succ, List.getElem_toArray, List.getElem_cons_succ, List.getElem_cons_zero]
    refine tk 4 (by assumption) rfl (by kernel_rfl) (fun _ _ _ h => h) (fun V hV => by obtain ⟨⟨c0, c1, c2, c3⟩, c4, c5⟩ := HKA.out V hV; go_simp; try with_reducible rfl) ?_
    try simp only [Act.put, List.setIfInBounds_toArray, List.set_cons_zero, List.set_cons_succ, List.getElem_toArray, List.getElem_cons_succ, List.getElem_cons_zero]
    refine tk 5 (by assumption) rfl (by kernel_rfl) (fun _ _ _ h => h) (fun V hV => by go_simp; try with_reducible rfl) ?_
    try simp only [Act.put, List.setIfInBounds_toArray, List.set_cons_zero, List.set_cons_succ, List.getElem_toArray, List.getElem_cons_succ, List.getElem_cons_zero]
    refine tk 6 (by assumption) rfl (by kernel_rfl) (fun _ _ _ h => h) (fun V hV => by obtain ⟨⟨c0, c1, c2, c3⟩, c4, c5⟩ := HKA.out V hV; go_simp; try with_reducible rfl) ?_
    try simp only [Act.put, List.setIfInBounds_toArray, List.set_cons_zero, List.set_cons_succ, List.getElem_toArray, List.getElem_cons_succ, List.getElem_cons_zero]
    refine wpAnyH_ready (rs := [7]) (by kernel_rfl) (by simp) ?_
    refine AllReadyH.cons (o := _) rfl (fun K hK => ?_) AllReadyH.nil
    go_simp
    refine (HFL.out _ B0.out).mono ?_
    rintro e V1 ⟨rfl, hb2⟩
    have B1 := Lib.hid (gNx B0.out hb2)
    clear hb2
    go_wp2_with fail
    refine hK.out _ _ B1.out (fun hH => ?_)
    clear hK K
    try simp only [Act.put, List.setIfInBounds_toArray, List.set_cons_zero, List.set_cons_succ, List.getElem_toArray, List.getElem_cons_succ, List.getElem_cons_zero]
    refine tk 8 (by assumption) rfl (by kernel_rfl) (fun _ _ _ h => h) (fun V hV => by go_simp; try with_reducible rfl) ?_
    try simp only [Act.put, List.setIfInBounds_toArray, List.set_cons_zero, List.set_cons_succ, List.getElem_toArray, List.getElem_cons_succ, List.getElem_cons_zero]
    refine tk 9 (by assumption) rfl (by kernel_rfl) (fun _ _ _ h => h) (fun V hV => by go_simp; try with_reducible rfl) ?_
    try simp only [Act.put, List.setIfInBounds_toArray, List.set_cons_zero, List.set_cons_succ, List.getElem_toArray, List.getElem_cons_succ, List.getElem_cons_zero]
    refine tk 10 (by assumption) rfl (by kernel_rfl) (fun _ _ _ h => h) (fun V hV => by go_simp; try with_reducible rfl) ?_
    try simp only [Act.put, List.setIfInBounds_toArray, List.set_cons_zero, List.set_cons_succ, List.getElem_toArray, List.getElem_cons_succ, List.getElem_cons_zero]
    refine tk 11 (by assumption) rfl (by kernel_rfl) (fun _ _ _ h => h) (fun V hV => by go_simp; try with_reducible rfl) ?_
    try simp only [Act.put, List.setIfInBounds_toArray, List.set_cons_zero, List.set_cons_succ, List.getElem_toArray, List.getElem_cons_succ, List.getElem_cons_zero]
    refine tk 12 (by assumption) rfl (by kernel_rfl) (fun _ _ _ h => h) (fun V hV => by go_simp; try with_reducible rfl) ?_
    try simp only [Act.put, List.setIfInBounds_toArray, List.set_cons_zero, List.set_cons_succ, List.getElem_toArray, List.getElem_cons_succ, List.getElem_cons_zero]
    refine wpAnyH_done (by kernel_rfl) ?_ _
    go_wp2_with fail
    go_ret
    rw [HE1.out]
    exact ⟨rfl, HFIN.out _ B1.out⟩
  | true =>
    have HE4 : Hid (weighE G a b q = weightF q) := Lib.hid (by rw [HEa.out, hf]; rfl)
    have HE3 : Hid (weightF q = 0 → weighE G a b q = 0) := Lib.hid (fun e => by rw [HE4.out, e])
    rw [hf] at HFL
    obtain ⟨hpl, hset⟩ := onLink_set HM2.out (t := ⟨min a b, max a b, 0, false⟩) rfl rfl (fun y => { y with w := q }) hf
    have hln : 0 < G.links.length := by omega
    obtain ⟨g, rfl, hbg⟩ := HLA.out hln
    have HROW : Hid (∀ V, Below W1.heap.size W1 V → (∃ u, V.cell? ⟨g, aheadL G.links ⟨min a b, max a b, 0, false⟩ * 4 + 2, none⟩ = some (.float .f64 u)) ∧ V.frozen? ⟨g, aheadL G.links ⟨min a b, max a b, 0, false⟩ * 4 + 2, none⟩ = false) := Lib.hid (fun V hV => by
      obtain ⟨g2, cap2, e2, hg2, -, hr, ht⟩ := (HGA.out V hV).links.range hln
      simp only [Value.slice.injEq, Option.some.injEq, Addr.mk.injEq, and_true, true_and] at e2
      obtain ⟨rfl, rfl⟩ := e2
      obtain ⟨-, -, r2, r3⟩ := lkRow_get G.links _ hpl
      exact ⟨⟨_, by have := hr _ _ r2; rw [Nat.zero_add] at this; exact this⟩, by have := (ht (aheadL G.links ⟨min a b, max a b, 0, false⟩ * 4 + 2) (by omega)).2; rw [Nat.zero_add] at this; exact this⟩)
    have HGNE : Hid (g ≠ bg ∧ g ≠ w.heap.size) := Lib.hid (by
      obtain ⟨-, -, cur, hcur⟩ := own_set (j := 0) (HGA.out W1 (Below.refl _ _)).links hln (.bool true)
      exact ⟨heap_ne hcur (HGA.out W1 (Below.refl _ _)).gb (by decide), heap_ne hcur (HCB.out W1 (Below.refl _ _)) (by decide)⟩)
    have HTURN : Hid (∀ V, Below W1.heap.size W1 V → GrAt (V.setCell ⟨g, aheadL G.links ⟨min a b, max a b, 0, false⟩ * 4 + 2, none⟩ (.float .f64 q)) base bg (.slice na G.nodes.length nc) (.slice (some ⟨g, 0, none⟩) G.links.length lc) { G with links := onLink (fun y => { y with w := q }) a b G.links } ∧ Below base V (V.setCell ⟨g, aheadL G.links ⟨min a b, max a b, 0, false⟩ * 4 + 2, none⟩ (.float .f64 q))) := Lib.hid (fun V hV => by
      refine (HGA.out V hV).turnL _ _ hln (by simp [onLink]) ?_ ?_
      · rw [hset]; exact lkRow_turn _ _ hpl _ 2 _ (by decide) rfl
      · intro y hy
        rw [hset] at hy
        rcases List.mem_or_eq_of_mem_set hy with hy | rfl
        · exact (HGA.out V hV).wts y hy
        · first | exact HQ.out | (have hz := (HGA.out V hV).wts _ (List.getElem_mem hpl); exact hz))
    have HPI : Hid ((aheadL G.links ⟨min a b, max a b, 0, false⟩ : Int) < (G.links.length : Int)) := Lib.hid (by omega)
    clear hset hpl hf hbg HLA
    clear HEa
    generalize aheadL G.links ⟨min a b, max a b, 0, false⟩ = pos at *
    generalize { G with links := onLink (fun y => { y with w := q }) a b G.links } = G2 at *
    go_enter Try.func64, Try.ntmps64
    go_upto_region 1 with (fail)
    rw [← hW1]
    clear hW1
    refine wp_region_held_drew (S := fun V => Below W1.heap.size W1 V) (by kernel_rfl) (Below.drew (Below.refl _ _)) (fun hH => ?_)
    have B0 : Hid (Below W1.heap.size W1 W1.drew) := Lib.hid (Below.drew (Below.refl _ _))
    generalize W1.drew = V0 at *
    refine tk 0 (by assumption) rfl (by kernel_rfl) (fun _ _ _ h => h) (fun V hV => by go_simp; try with_reducible rfl) ?_
    try simp only [Act.put, List.setIfInBounds_toArray, List.set_cons_zero, List.set_cons_succ, List.getElem_toArray, List.getElem_cons_succ, List.getElem_cons_zero]
    refine tk 1 (by assumption) rfl (by kernel_rfl) (fun _ _ _ h => h) (fun V hV => by go_simp; try with_reducible rfl) ?_
    try simp only [Act.put, List.setIfInBounds_toArray, List.set_cons_zero, List.set_cons_succ, List.getElem_toArray, List.getElem_cons_succ, List.getElem_cons_zero]
    refine tk 2 (by assumption) rfl (by kernel_rfl) (fun _ _ _ h => h) (fun V hV => by obtain ⟨⟨c0, c1, c2, c3⟩, c4, c5⟩ := HKA.out V hV; go_simp; try with_reducible rfl) ?_
    try simp only [Act.put, List.setIfInBounds_toArray, List.set_cons_zero, List.set_cons_succ, List.getElem_toArray, List.getElem_cons_succ, List.getElem_cons_zero]
    refine tk 3 (by assumption) rfl (by kernel_rfl) (fun _ _ _ h => h) (fun V hV => by go_simp; try with_reducible rfl) ?_
    try simp only [Act.put, List.setIfInBounds_toArray, List.set_cons_zero, List.set_cons_succ, List.getElem_toArray, List.getElem_cons_succ, List.getElem_cons_zero]
    refine tk 4 (by assumption) rfl (by kernel_rfl) (fun _ _ _ h => h) (fun V hV => by obtain ⟨⟨c0, c1, c2, c3⟩, c4, c5⟩ := HKA.out V hV; go_simp; try with_reducible rfl) ?_
    try simp only [Act.put, List.setIfInBounds_toArray, List.set_cons_zero, List.set_cons_succ, List.getElem_toArray, List.getElem_cons_succ, List.getElem_cons_zero]
    refine tk 5 (by assumption) rfl (by kernel_rfl) (fun _ _ _ h => h) (fun V hV => by go_simp; try with_reducible rfl) ?_
    try simp only [Act.put, List.setIfInBounds_toArray, List.set_cons_zero, List.set_cons_succ, List.getElem_toArray, List.getElem_cons_succ, List.getElem_cons_zero]
    refine tk 6 (by assumption) rfl (by kernel_rfl) (fun _ _ _ h => h) (fun V hV => by obtain ⟨⟨c0, c1, c2, c3⟩, c4, c5⟩ := HKA.out V hV; go_simp; try with_reducible rfl) ?_
    try simp only [Act.put, List.setIfInBounds_toArray, List.set_cons_zero, List.set_cons_succ, List.getElem_toArray, List.getElem_cons_succ, List.getElem_cons_zero]
    refine wpAnyH_ready (rs := [7]) (by kernel_rfl) (by simp) ?_
    refine AllReadyH.cons (o := _) rfl (fun K hK => ?_) AllReadyH.nil
    go_simp
    refine (HFL.out _ B0.out).mono ?_
    rintro e V1 ⟨rfl, hb2⟩
    have B1 := Lib.hid (gNx B0.out hb2)
    clear hb2
    go_wp2_with fail
    refine hK.out _ _ B1.out (fun hH => ?_)
    clear hK K
    try simp only [Act.put, List.setIfInBounds_toArray, List.set_cons_zero, List.set_cons_succ, List.getElem_toArray, List.getElem_cons_succ, List.getElem_cons_zero]
    refine tk 8 (by assumption) rfl (by kernel_rfl) (fun _ _ _ h => h) (fun V hV => by go_simp; try with_reducible rfl) ?_
    try simp only [Act.put, List.setIfInBounds_toArray, List.set_cons_zero, List.set_cons_succ, List.getElem_toArray, List.getElem_cons_succ, List.getElem_cons_zero]
    refine tk 9 (by assumption) rfl (by kernel_rfl) (fun _ _ _ h => h) (fun V hV => by go_simp; try with_reducible rfl) ?_
    try simp only [Act.put, List.setIfInBounds_toArray, List.set_cons_zero, List.set_cons_succ, List.getElem_toArray, List.getElem_cons_succ, List.getElem_cons_zero]
    refine tk 10 (by assumption) rfl (by kernel_rfl) (fun _ _ _ h => h) (fun V hV => by go_simp; try with_reducible rfl) ?_
    try simp only [Act.put, List.setIfInBounds_toArray, List.set_cons_zero, List.set_cons_succ, List.getElem_toArray, List.getElem_cons_succ, List.getElem_cons_zero]
    refine tk 11 (by assumption) rfl (by kernel_rfl) (fun _ _ _ h => h) (fun V hV => by go_simp; try with_reducible rfl) ?_
    try simp only [Act.put, List.setIfInBounds_toArray, List.set_cons_zero, List.set_cons_succ, List.getElem_toArray, List.getElem_cons_succ, List.getElem_cons_zero]
    refine tk 12 (by assumption) rfl (by kernel_rfl) (fun _ _ _ h => h) (fun V hV => by go_simp; try with_reducible rfl) ?_
    try simp only [Act.put, List.setIfInBounds_toArray, List.set_cons_zero, List.set_cons_succ, List.getElem_toArray, List.getElem_cons_succ, List.getElem_cons_zero]
    refine wpAnyH_done (by kernel_rfl) ?_ _
    obtain ⟨⟨c0, c1, c2, c3⟩, c4, c5⟩ := HKA.out V1 B1.out
    by_cases hwt : weightF q = 0
    · go_upto_region 7 with (go_at_call 29; refine (HWT.out _).mono ?_; rintro e w2 ⟨rfl, rfl⟩; rw [hwt])
      clear c0 c1 c2 c3 c4 c5
      have B0 : Hid (Below W1.heap.size W1 V1.drew) := Lib.hid (Below.drew B1.out)
      refine wp_region_held_drew (S := fun V => V.cell? ⟨bg, 1, none⟩ = some (.slice (some ⟨g, 0, none⟩) G.links.length lc) ∧ V.cell? ⟨w.heap.size, 3, none⟩ = some (.float .f64 q)) (by kernel_rfl) (by obtain ⟨⟨c0, c1, c2, c3⟩, c4, c5⟩ := HKA.out V1 B1.out; exact ⟨c5, c3⟩) (fun hH => ?_)
      generalize V1.drew = V0 at *
      have hpi := HPI.out
      have hp0 : (0 : Int) ≤ (pos : Int) := by omega
      refine tk 0 (by assumption) rfl (by kernel_rfl) (fun _ _ _ h => h) (fun V hV => by go_simp; try with_reducible rfl) ?_
      try simp only [Act.put, List.setIfInBounds_toArray, List.set_cons_zero, List.set_cons_succ, List.getElem_toArray, List.getElem_cons_succ, List.getElem_cons_zero]
      refine tk 1 (by assumption) rfl (by kernel_rfl) (fun _ _ _ h => h) (fun V hV => by go_simp; try with_reducible rfl) ?_
      try simp only [Act.put, List.setIfInBounds_toArray, List.set_cons_zero, List.set_cons_succ, List.getElem_toArray, List.getElem_cons_succ, List.getElem_cons_zero]
      refine tk 2 (by assumption) rfl (by kernel_rfl) (fun _ _ _ h => h) (fun V hV => by go_simp; try with_reducible rfl) ?_
      try simp only [Act.put, List.setIfInBounds_toArray, List.set_cons_zero, List.set_cons_succ, List.getElem_toArray, List.getElem_cons_succ, List.getElem_cons_zero]
      refine tk 3 (by assumption) rfl (by kernel_rfl) (fun _ _ _ h => h) (fun V hV => by obtain ⟨x0, x1⟩ := hV; go_simp; try with_reducible rfl) ?_
      try simp only [Act.put, List.setIfInBounds_toArray, List.set_cons_zero, List.set_cons_succ, List.getElem_toArray, List.getElem_cons_succ, List.getElem_cons_zero]
      refine tk 4 (by assumption) rfl (by kernel_rfl) (fun _ _ _ h => h) (fun V hV => by go_simp; try with_reducible rfl) ?_
      try simp only [Act.put, List.setIfInBounds_toArray, List.set_cons_zero, List.set_cons_succ, List.getElem_toArray, List.getElem_cons_succ, List.getElem_cons_zero]
      refine tk 5 (by assumption) rfl (by kernel_rfl) (fun _ _ _ h => h) (fun V hV => by go_simp; try with_reducible rfl) ?_
      try simp only [Act.put, List.setIfInBounds_toArray, List.set_cons_zero, List.set_cons_succ, List.getElem_toArray, List.getElem_cons_succ, List.getElem_cons_zero]
      refine tk 6 (by assumption) rfl (by kernel_rfl) (fun _ _ _ h => h) (fun V hV => by obtain ⟨x0, x1⟩ := hV; go_simp; try with_reducible rfl) ?_
      try simp only [Act.put, List.setIfInBounds_toArray, List.set_cons_zero, List.set_cons_succ, List.getElem_toArray, List.getElem_cons_succ, List.getElem_cons_zero]
      refine tk 7 (by assumption) rfl (by kernel_rfl) (fun _ _ _ h => h) (fun V hV => by go_simp; try with_reducible rfl) ?_
      try simp only [Act.put, List.setIfInBounds_toArray, List.set_cons_zero, List.set_cons_succ, List.getElem_toArray, List.getElem_cons_succ, List.getElem_cons_zero]
      refine tk 8 (by assumption) rfl (by kernel_rfl) (fun _ _ _ h => h) (fun V hV => by go_simp; try with_reducible rfl) ?_
      try simp only [Act.put, List.setIfInBounds_toArray, List.set_cons_zero, List.set_cons_succ, List.getElem_toArray, List.getElem_cons_succ, List.getElem_cons_zero]
      refine wpAnyH_ready (rs := [9]) (by kernel_rfl) (by simp) ?_
      refine AllReadyH.cons (o := _) rfl (fun K hK => ?_) AllReadyH.nil
      obtain ⟨u, k0⟩ := (HROW.out V0 B0.out).1
      have k1 := (HROW.out V0 B0.out).2
      go_simp
      refine hK.out _ _ ⟨by rw [World.cell?_setCell_other _ _ _ _ (by intro e; simp only [Addr.mk.injEq] at e; exact HGNE.out.1 e.1)]; exact hH.1, by rw [World.cell?_setCell_other _ _ _ _ (by intro e; simp only [Addr.mk.injEq] at e; exact HGNE.out.2 e.1)]; exact hH.2⟩ (fun hH2 => ?_)
      clear hK K
      try simp only [Act.put, List.setIfInBounds_toArray, List.set_cons_zero, List.set_cons_succ, List.getElem_toArray, List.getElem_cons_succ, List.getElem_cons_zero]
      refine wpAnyH_done (by kernel_rfl) ?_ _
      go_wp2_with fail
      go_ret
      rw [HE3.out hwt]
      exact ⟨rfl, ⟨_, _, (HTURN.out V0 B0.out).1⟩, (HBW.out V0 B0.out).trans (HTURN.out V0 B0.out).2⟩
    · have HE := Lib.hid HE3
      have hq0 : (weightF q != 0) = true := by simpa using hwt
      generalize weightF q = qe at *
      go_wp2_with (go_at_call 29; refine (HWT.out _).mono ?_; rintro e w2 ⟨rfl, rfl⟩)
      go_ret
      rw [HE4.out]
      refine ⟨rfl, ?_⟩
      rw [aft_ne hwt]
      exact HFIN.out _ B1.out
end Go.Proofs.Ytgjpgpjdealbeaa
