/- Graphs: deeds to a router. -/
import Derived.Test.YtgjpgpjdealbeaaNgP
namespace Go.Proofs.Ytgjpgpjdealbeaa
open Go.RowKit Go.Lib Go.Fq Go.Iq Go.Nq Go.Ow
set_option linter.unusedVariables false
set_option linter.unusedSimpArgs false
set_option maxRecDepth 100000

theorem gDo3_any (bk o : Nat) (x : Bool) (w : World) (hc : w.cell? ⟨bk, o + 2, none⟩ = some (.bool x)) (hf : w.frozen? ⟨bk, o + 2, none⟩ = false) :
    Calls Try.prog 69 #[.pointer (some ⟨bk, o, none⟩)] w fun e w' => e = .returned (.tuple #[]) ∧ w' = w.setCell ⟨bk, o + 2, none⟩ (.bool true) := by
  go_enter Try.func69, Try.ntmps69
  go_wp2_with fail
  refine bodyPost_end (results_none rfl _ _ _) rfl ?_
  exact ⟨rfl, rfl⟩
set_option maxHeartbeats 4000000 in
theorem gOnNode3_any (G : Gr) (kd a b : Int) (q : Nat) (base bg : Nat) (vn vl : Value) (w : World) (h : GrAt w base bg vn vl G) (hG : checkG G = 0) (hq : q < 2 ^ 64) (db : Nat) (hdb : w.cell? ⟨db, 0, none⟩ = some (.func (.func 69) #[] #[])) :
    Calls Try.prog 82 #[.pointer (some ⟨bg, 0, none⟩), .agg #[.int .i64 kd, .int .i64 a, .int .i64 b, .float .f64 q], .pointer (some ⟨db, 0, none⟩)] w fun e w' => e = .returned (.int .i64 (fndE (has G.nodes a))) ∧ (∃ vn' vl', GrAt w' base bg vn' vl' (aft (fndE (has G.nodes a)) ({ G with nodes := onNode (fun n => { n with mark := true }) a G.nodes }) G)) ∧ Below base w w' := by
  have hdl : db < w.heap.size := World.block_lt_of_cell? w _ hdb
  obtain ⟨n1, n2, n3, n4⟩ := check_zero.1 hG
  obtain ⟨na, nc, rfl, hNI, hNA⟩ := ownN_in h.nodes
  obtain ⟨la, lc, rfl, hLI, hLA⟩ := ownL_in h.links
  obtain ⟨hm1, hm2⟩ := links_iff.1 n4
  obtain ⟨W1, hW1⟩ : ∃ W1, W1 = w.alloc (.cells #[.int .i64 kd, .int .i64 a, .int .i64 b, .float .f64 q] 33) := ⟨_, rfl⟩
  have hb1 : Below w.heap.size w W1 := by rw [hW1]; exact gAl _ _
  have hs1 : w.heap.size < W1.heap.size := by rw [hW1]; simp
  have hcb : W1.heap[w.heap.size]? = some (.cells #[.int .i64 kd, .int .i64 a, .int .i64 b, .float .f64 q] 33 (0, 0)) := by rw [hW1]; exact heap_alloc_new w _
  have hbs : base ≤ w.heap.size := Nat.le_of_lt (Nat.lt_of_le_of_lt h.hb h.lt)
  have HGA : Hid (∀ V, Below W1.heap.size W1 V → GrAt V base bg (.slice na G.nodes.length nc) (.slice la G.links.length lc) G) := Lib.hid (fun V hV => h.below (gNx hb1 hV))
  have HCB : Hid (∀ V, Below W1.heap.size W1 V → V.heap[w.heap.size]? = some (.cells #[.int .i64 kd, .int .i64 a, .int .i64 b, .float .f64 q] 33 (0, 0))) := Lib.hid (fun V hV => (hV.block _ hs1).trans hcb)
  have KA : ∀ V, Below W1.heap.size W1 V → (V.cell? ⟨w.heap.size, 0, none⟩ = some (.int .i64 kd) ∧ V.cell? ⟨w.heap.size, 1, none⟩ = some (.int .i64 a) ∧ V.cell? ⟨w.heap.size, 2, none⟩ = some (.int .i64 b) ∧ V.cell? ⟨w.heap.size, 3, none⟩ = some (.float .f64 q)) ∧ V.cell? ⟨bg, 0, none⟩ = some (.slice na G.nodes.length nc) ∧ V.cell? ⟨bg, 1, none⟩ = some (.slice la G.links.length lc) := fun V hV => by
    have hh := HCB.out V hV
    exact ⟨⟨by rw [cell_of_row V _ 0 _ _ (0, 0) hh]; rfl, by rw [cell_of_row V _ 1 _ _ (0, 0) hh]; rfl, by rw [cell_of_row V _ 2 _ _ (0, 0) hh]; rfl, by rw [cell_of_row V _ 3 _ _ (0, 0) hh]; rfl⟩, (HGA.out V hV).cells.1, (HGA.out V hV).cells.2.1⟩
  have HKA := Lib.hid KA
  obtain ⟨⟨c0, c1, c2, c3⟩, c4, c5⟩ := KA W1 (Below.refl _ _)
  have HB1 := Lib.hid hb1
  have HBW : Hid (∀ V, Below W1.heap.size W1 V → Below base w V) := Lib.hid (fun V hV => (gNx hb1 hV).mono hbs)
  have HN3 := Lib.hid n3
  have HM1 := Lib.hid hm1
  have HM2 := Lib.hid hm2
  have HNI : Hid (∀ V, Below W1.heap.size W1 V → NodesIn V V.heap.size G.nodes na) := Lib.hid (fun V hV => hNI.kept (fun i hi => (gNx hb1 hV).block i hi) (gNx hb1 hV).size)
  have HLI : Hid (∀ V, Below W1.heap.size W1 V → LinksIn V V.heap.size G.links la) := Lib.hid (fun V hV => hLI.kept (fun i hi => (gNx hb1 hV).block i hi) (gNx hb1 hV).size)
  have HNL : Hid (G.nodes.length ≤ 256 ∧ G.links.length ≤ 4096) := Lib.hid ⟨n1, n2⟩
  have HFIN : Hid (∀ V, Below W1.heap.size W1 V → (∃ vn' vl', GrAt V base bg vn' vl' G) ∧ Below base w V) := Lib.hid (fun V hV => ⟨⟨_, _, HGA.out V hV⟩, HBW.out V hV⟩)
  have HBG : Hid (bg < w.heap.size ∧ base ≤ bg) := Lib.hid ⟨h.lt, h.hb⟩
  have HQ := Lib.hid hq
  have HNA := Lib.hid hNA
  have HLA := Lib.hid hLA
  clear h hG hq n1 n2 n3 n4 hNI hNA hLI hLA hm1 hm2 hb1 hs1 hcb hbs KA
  have HF : Hid (∀ V, Below W1.heap.size W1 V → Calls Try.prog 52 #[.agg #[.slice na G.nodes.length nc, .slice la G.links.length lc], .int .i64 a] V fun e w' => e = .returned (.tuple #[.int .i64 (Nq.ahead G.nodes a : Int), .bool (has G.nodes a)]) ∧ Below V.heap.size V w') := Lib.hid (fun V hV => gFindNode_any G.nodes na nc la G.links.length lc a V (HNI.out V hV) HN3.out (by have := HNL.out; omega))
  have HDB : Hid (∀ V, Below W1.heap.size W1 V → V.cell? ⟨db, 0, none⟩ = some (.func (.func 69) #[] #[])) := Lib.hid (fun V hV => ((gNx HB1.out hV).cell (p := ⟨db, 0, none⟩) hdl).trans hdb)
  have HDO := Lib.hid gDo3_any
  clear hdb hdl
  cases hf : has G.nodes a with
  | false =>
    have HE1 : Hid (fndE false = 4) := Lib.hid rfl
    rw [hf] at HF
    clear hf HLA
    generalize Nq.ahead G.nodes a = pos at *
    go_enter Try.func82, Try.ntmps82
    go_upto_region 1 with (fail)
    rw [← hW1]
    clear hW1
    refine wp_region_held_drew (S := fun V => Below W1.heap.size W1 V) (by kernel_rfl) (Below.drew (Below.refl _ _)) (fun hH => ?_)
    have B0 : Hid (Below W1.heap.size W1 W1.drew) := Lib.hid (Below.drew (Below.refl _ _))
    generalize W1.drew = V0 at *
    refine tk 0 (by assumption) rfl (by kernel_rfl) (fun _ _ _ h => h) (fun V hV => by go_simp; try with_reducible rfl) ?_
    try simp only [Act.put, List.setIfInBounds_toArray, List.set_cons_zero, List.set_cons_succ, List.getElem_toArray, List.getElem_cons_succ, List.getElem_cons_zero]
    refine tk 1 (by assumption) rfl (by kernel_rfl) (fun _ _ _ h => h) (fun V hV => by go_simp; try with_reducible rfl) ?_
    try simp only [Act.put, List.setIfInBounds_toArray, List.set_cons_zero, List.set_cons_succ, List.getElem_toArray, List.getElem_cons_succ, List.getElem_cons_zero]
    refine tk 2 (by assumption) rfl (by kernel_rfl) (fun _ _ _ h => h) (fun V hV => by obtain ⟨⟨c0, c1, c2, c3⟩, c4, c5⟩ := HKA.out V hV; go_simp; try with_reducible rfl) ?_
    try simp only [Act.put, List.setIfInBounds_toArray, List.set_cons_zero, List.set_cons_succ, List.getElem_toArray, List.getElem_cons_succ, List.getElem_cons_zero]
    refine tk 3 (by assumption) rfl (by kernel_rfl) (fun _ _ _ h => h) (fun V hV => by go_simp; try with_reducible rfl) ?_
    try simp only [Act.put, List.setIfInBounds_toArray, List.set_cons_zero, List.set_cons_succ, List.getElem_toArray, List.getElem_cons_succ, List.getElem_cons_zero]
    refine tk 4 (by assumption) rfl (by kernel_rfl) (fun _ _ _ h => h) (fun V hV => by obtain ⟨⟨c0, c1, c2, c3⟩, c4, c5⟩ := HKA.out V hV; go_simp; try with_reducible rfl) ?_
    try simp only [Act.put, List.setIfInBounds_toArray, List.set_cons_zero, List.set_cons_succ, List.getElem_toArray, List.getElem_cons_succ, List.getElem_cons_zero]
    refine wpAnyH_ready (rs := [5]) (by kernel_rfl) (by simp) ?_
    refine AllReadyH.cons (o := _) rfl (fun K hK => ?_) AllReadyH.nil
    go_simp
    refine (HF.out _ B0.out).mono ?_
    rintro e V1 ⟨rfl, hb2⟩
    have B1 := Lib.hid (gNx B0.out hb2)
    clear hb2
    go_wp2_with fail
    refine hK.out _ _ B1.out (fun hH => ?_)
    clear hK K
    try simp only [Act.put, List.setIfInBounds_toArray, List.set_cons_zero, List.set_cons_succ, List.getElem_toArray, List.getElem_cons_succ, List.getElem_cons_zero]
    refine tk 6 (by assumption) rfl (by kernel_rfl) (fun _ _ _ h => h) (fun V hV => by go_simp; try with_reducible rfl) ?_
    try simp only [Act.put, List.setIfInBounds_toArray, List.set_cons_zero, List.set_cons_succ, List.getElem_toArray, List.getElem_cons_succ, List.getElem_cons_zero]
    refine tk 7 (by assumption) rfl (by kernel_rfl) (fun _ _ _ h => h) (fun V hV => by go_simp; try with_reducible rfl) ?_
    try simp only [Act.put, List.setIfInBounds_toArray, List.set_cons_zero, List.set_cons_succ, List.getElem_toArray, List.getElem_cons_succ, List.getElem_cons_zero]
    refine tk 8 (by assumption) rfl (by kernel_rfl) (fun _ _ _ h => h) (fun V hV => by go_simp; try with_reducible rfl) ?_
    try simp only [Act.put, List.setIfInBounds_toArray, List.set_cons_zero, List.set_cons_succ, List.getElem_toArray, List.getElem_cons_succ, List.getElem_cons_zero]
    refine tk 9 (by assumption) rfl (by kernel_rfl) (fun _ _ _ h => h) (fun V hV => by go_simp; try with_reducible rfl) ?_
    try simp only [Act.put, List.setIfInBounds_toArray, List.set_cons_zero, List.set_cons_succ, List.getElem_toArray, List.getElem_cons_succ, List.getElem_cons_zero]
    refine tk 10 (by assumption) rfl (by kernel_rfl) (fun _ _ _ h => h) (fun V hV => by go_simp; try with_reducible rfl) ?_
    try simp only [Act.put, List.setIfInBounds_toArray, List.set_cons_zero, List.set_cons_succ, List.getElem_toArray, List.getElem_cons_succ, List.getElem_cons_zero]
    refine wpAnyH_done (by kernel_rfl) ?_ _
    go_wp2_with fail
    go_ret
    rw [HE1.out]
    exact ⟨rfl, HFIN.out _ B1.out⟩
  | true =>
    have HE4 : Hid (fndE true = 0) := Lib.hid rfl
    rw [hf] at HF
    obtain ⟨hpl, hset⟩ := onNode_set HN3.out (fun n => { n with mark := true }) hf
    have hln : 0 < G.nodes.length := by omega
    obtain ⟨g, rfl, hbg⟩ := HNA.out hln
    have HROW : Hid (∀ V, Below W1.heap.size W1 V → (∃ u, V.cell? ⟨g, Nq.ahead G.nodes a * 3 + 2, none⟩ = some (.bool u)) ∧ V.frozen? ⟨g, Nq.ahead G.nodes a * 3 + 2, none⟩ = false) := Lib.hid (fun V hV => by
      obtain ⟨g2, cap2, e2, hg2, -, hr, ht⟩ := (HGA.out V hV).nodes.range hln
      simp only [Value.slice.injEq, Option.some.injEq, Addr.mk.injEq, and_true, true_and] at e2
      obtain ⟨rfl, rfl⟩ := e2
      obtain ⟨-, r1, r2⟩ := ndRow_get G.nodes _ hpl
      exact ⟨⟨_, by have := hr _ _ r2; rw [Nat.zero_add] at this; exact this⟩, by have := (ht (Nq.ahead G.nodes a * 3 + 2) (by omega)).2; rw [Nat.zero_add] at this; exact this⟩)
    have HGNE : Hid (g ≠ bg ∧ g ≠ w.heap.size) := Lib.hid (by
      obtain ⟨-, -, cur, hcur⟩ := own_set (j := 0) (HGA.out W1 (Below.refl _ _)).nodes hln (.bool true)
      exact ⟨heap_ne hcur (HGA.out W1 (Below.refl _ _)).gb (by decide), heap_ne hcur (HCB.out W1 (Below.refl _ _)) (by decide)⟩)
    have HTURN : Hid (∀ V, Below W1.heap.size W1 V → GrAt (V.setCell ⟨g, Nq.ahead G.nodes a * 3 + 2, none⟩ (.bool true)) base bg (.slice (some ⟨g, 0, none⟩) G.nodes.length nc) (.slice la G.links.length lc) { G with nodes := onNode (fun n => { n with mark := true }) a G.nodes } ∧ Below base V (V.setCell ⟨g, Nq.ahead G.nodes a * 3 + 2, none⟩ (.bool true))) := Lib.hid (fun V hV => by
      refine (HGA.out V hV).turnN _ _ hln (by simp [onNode]) ?_
      rw [hset]; exact ndRow_turn _ _ hpl _ 2 _ (by decide) rfl)
    have HPI : Hid ((Nq.ahead G.nodes a : Int) < (G.nodes.length : Int)) := Lib.hid (by omega)
    have HGDB : Hid (g ≠ db) := Lib.hid (by
      rintro rfl
      obtain ⟨g2, cap2, e2, hg2, -, hr, ht⟩ := (HGA.out W1 (Below.refl _ _)).nodes.range hln
      simp only [Value.slice.injEq, Option.some.injEq, Addr.mk.injEq, and_true, true_and] at e2
      obtain ⟨rfl, rfl⟩ := e2
      have h1 := hr _ _ (ndRow_get G.nodes 0 hln).1
      rw [HDB.out W1 (Below.refl _ _)] at h1
      cases h1)
    clear hset hpl hf hbg HNA
    generalize Nq.ahead G.nodes a = pos at *
    generalize { G with nodes := onNode (fun n => { n with mark := true }) a G.nodes } = G2 at *
    go_enter Try.func82, Try.ntmps82
    go_upto_region 1 with (fail)
    rw [← hW1]
    clear hW1
    refine wp_region_held_drew (S := fun V => Below W1.heap.size W1 V) (by kernel_rfl) (Below.drew (Below.refl _ _)) (fun hH => ?_)
    have B0 : Hid (Below W1.heap.size W1 W1.drew) := Lib.hid (Below.drew (Below.refl _ _))
    generalize W1.drew = V0 at *
    refine tk 0 (by assumption) rfl (by kernel_rfl) (fun _ _ _ h => h) (fun V hV => by go_simp; try with_reducible rfl) ?_
    try simp only [Act.put, List.setIfInBounds_toArray, List.set_cons_zero, List.set_cons_succ, List.getElem_toArray, List.getElem_cons_succ, List.getElem_cons_zero]
    refine tk 1 (by assumption) rfl (by kernel_rfl) (fun _ _ _ h => h) (fun V hV => by go_simp; try with_reducible rfl) ?_
    try simp only [Act.put, List.setIfInBounds_toArray, List.set_cons_zero, List.set_cons_succ, List.getElem_toArray, List.getElem_cons_succ, List.getElem_cons_zero]
    refine tk 2 (by assumption) rfl (by kernel_rfl) (fun _ _ _ h => h) (fun V hV => by obtain ⟨⟨c0, c1, c2, c3⟩, c4, c5⟩ := HKA.out V hV; go_simp; try with_reducible rfl) ?_
    try simp only [Act.put, List.setIfInBounds_toArray, List.set_cons_zero, List.set_cons_succ, List.getElem_toArray, List.getElem_cons_succ, List.getElem_cons_zero]
    refine tk 3 (by assumption) rfl (by kernel_rfl) (fun _ _ _ h => h) (fun V hV => by go_simp; try with_reducible rfl) ?_
    try simp only [Act.put, List.setIfInBounds_toArray, List.set_cons_zero, List.set_cons_succ, List.getElem_toArray, List.getElem_cons_succ, List.getElem_cons_zero]
    refine tk 4 (by assumption) rfl (by kernel_rfl) (fun _ _ _ h => h) (fun V hV => by obtain ⟨⟨c0, c1, c2, c3⟩, c4, c5⟩ := HKA.out V hV; go_simp; try with_reducible rfl) ?_
    try simp only [Act.put, List.setIfInBounds_toArray, List.set_cons_zero, List.set_cons_succ, List.getElem_toArray, List.getElem_cons_succ, List.getElem_cons_zero]
    refine wpAnyH_ready (rs := [5]) (by kernel_rfl) (by simp) ?_
    refine AllReadyH.cons (o := _) rfl (fun K hK => ?_) AllReadyH.nil
    go_simp
    refine (HF.out _ B0.out).mono ?_
    rintro e V1 ⟨rfl, hb2⟩
    have B1 := Lib.hid (gNx B0.out hb2)
    clear hb2
    go_wp2_with fail
    refine hK.out _ _ B1.out (fun hH => ?_)
    clear hK K
    try simp only [Act.put, List.setIfInBounds_toArray, List.set_cons_zero, List.set_cons_succ, List.getElem_toArray, List.getElem_cons_succ, List.getElem_cons_zero]
    refine tk 6 (by assumption) rfl (by kernel_rfl) (fun _ _ _ h => h) (fun V hV => by go_simp; try with_reducible rfl) ?_
    try simp only [Act.put, List.setIfInBounds_toArray, List.set_cons_zero, List.set_cons_succ, List.getElem_toArray, List.getElem_cons_succ, List.getElem_cons_zero]
    refine tk 7 (by assumption) rfl (by kernel_rfl) (fun _ _ _ h => h) (fun V hV => by go_simp; try with_reducible rfl) ?_
    try simp only [Act.put, List.setIfInBounds_toArray, List.set_cons_zero, List.set_cons_succ, List.getElem_toArray, List.getElem_cons_succ, List.getElem_cons_zero]
    refine tk 8 (by assumption) rfl (by kernel_rfl) (fun _ _ _ h => h) (fun V hV => by go_simp; try with_reducible rfl) ?_
    try simp only [Act.put, List.setIfInBounds_toArray, List.set_cons_zero, List.set_cons_succ, List.getElem_toArray, List.getElem_cons_succ, List.getElem_cons_zero]
    refine tk 9 (by assumption) rfl (by kernel_rfl) (fun _ _ _ h => h) (fun V hV => by go_simp; try with_reducible rfl) ?_
    try simp only [Act.put, List.setIfInBounds_toArray, List.set_cons_zero, List.set_cons_succ, List.getElem_toArray, List.getElem_cons_succ, List.getElem_cons_zero]
    refine tk 10 (by assumption) rfl (by kernel_rfl) (fun _ _ _ h => h) (fun V hV => by go_simp; try with_reducible rfl) ?_
    try simp only [Act.put, List.setIfInBounds_toArray, List.set_cons_zero, List.set_cons_succ, List.getElem_toArray, List.getElem_cons_succ, List.getElem_cons_zero]
    refine wpAnyH_done (by kernel_rfl) ?_ _
    go_upto_region 4 with (fail)
    have B0 : Hid (Below W1.heap.size W1 V1.drew) := Lib.hid (Below.drew B1.out)
    refine wp_region_held_drew (S := fun V => V.cell? ⟨bg, 0, none⟩ = some (.slice (some ⟨g, 0, none⟩) G.nodes.length nc) ∧ V.cell? ⟨db, 0, none⟩ = some (.func (.func 69) #[] #[])) (by kernel_rfl) (by obtain ⟨⟨c0, c1, c2, c3⟩, c4, c5⟩ := HKA.out V1 B1.out; exact ⟨c4, HDB.out V1 B1.out⟩) (fun hH => ?_)
    generalize V1.drew = V0 at *
    have hpi := HPI.out
    have hp0 : (0 : Int) ≤ (pos : Int) := by omega
    refine tk 0 (by assumption) rfl (by kernel_rfl) (fun _ _ _ h => h) (fun V hV => by obtain ⟨x0, x1⟩ := hV; go_simp; try with_reducible rfl) ?_
    try simp only [Act.put, List.setIfInBounds_toArray, List.set_cons_zero, List.set_cons_succ, List.getElem_toArray, List.getElem_cons_succ, List.getElem_cons_zero]
    refine tk 1 (by assumption) rfl (by kernel_rfl) (fun _ _ _ h => h) (fun V hV => by go_simp; try with_reducible rfl) ?_
    try simp only [Act.put, List.setIfInBounds_toArray, List.set_cons_zero, List.set_cons_succ, List.getElem_toArray, List.getElem_cons_succ, List.getElem_cons_zero]
    refine tk 2 (by assumption) rfl (by kernel_rfl) (fun _ _ _ h => h) (fun V hV => by go_simp; try with_reducible rfl) ?_
    try simp only [Act.put, List.setIfInBounds_toArray, List.set_cons_zero, List.set_cons_succ, List.getElem_toArray, List.getElem_cons_succ, List.getElem_cons_zero]
    refine tk 3 (by assumption) rfl (by kernel_rfl) (fun _ _ _ h => h) (fun V hV => by go_simp; try with_reducible rfl) ?_
    try simp only [Act.put, List.setIfInBounds_toArray, List.set_cons_zero, List.set_cons_succ, List.getElem_toArray, List.getElem_cons_succ, List.getElem_cons_zero]
    refine tk 4 (by assumption) rfl (by kernel_rfl) (fun _ _ _ h => h) (fun V hV => by obtain ⟨x0, x1⟩ := hV; go_simp; try with_reducible rfl) ?_
    try simp only [Act.put, List.setIfInBounds_toArray, List.set_cons_zero, List.set_cons_succ, List.getElem_toArray, List.getElem_cons_succ, List.getElem_cons_zero]
    refine tk 5 (by assumption) rfl (by kernel_rfl) (fun _ _ _ h => h) (fun V hV => by go_simp; try with_reducible rfl) ?_
    try simp only [Act.put, List.setIfInBounds_toArray, List.set_cons_zero, List.set_cons_succ, List.getElem_toArray, List.getElem_cons_succ, List.getElem_cons_zero]
    refine tk 6 (by assumption) rfl (by kernel_rfl) (fun _ _ _ h => h) (fun V hV => by go_simp; try with_reducible rfl) ?_
    try simp only [Act.put, List.setIfInBounds_toArray, List.set_cons_zero, List.set_cons_succ, List.getElem_toArray, List.getElem_cons_succ, List.getElem_cons_zero]
    refine wpAnyH_ready (rs := [7]) (by kernel_rfl) (by simp) ?_
    refine AllReadyH.cons (o := _) rfl (fun K hK => ?_) AllReadyH.nil
    obtain ⟨u, k0⟩ := (HROW.out V0 B0.out).1
    have k1 := (HROW.out V0 B0.out).2
    go_simp
    refine (HDO.out _ _ _ _ k0 k1).mono ?_
    rintro e V2 ⟨rfl, rfl⟩
    go_wp2_with fail
    refine hK.out _ _ ⟨by rw [World.cell?_setCell_other _ _ _ _ (by intro e; simp only [Addr.mk.injEq] at e; exact HGNE.out.1 e.1)]; exact hH.1, by rw [World.cell?_setCell_other _ _ _ _ (by intro e; simp only [Addr.mk.injEq] at e; exact HGDB.out e.1)]; exact hH.2⟩ (fun hH2 => ?_)
    clear hK K
    try simp only [Act.put, List.setIfInBounds_toArray, List.set_cons_zero, List.set_cons_succ, List.getElem_toArray, List.getElem_cons_succ, List.getElem_cons_zero]
    refine wpAnyH_done (by kernel_rfl) ?_ _
    go_wp2_with fail
    go_ret
    rw [HE4.out]
    exact ⟨rfl, ⟨_, _, (HTURN.out V0 B0.out).1⟩, (HBW.out V0 B0.out).trans (HTURN.out V0 B0.out).2⟩
theorem gDo4_any (bk o : Nat) (x : Bool) (w : World) (hc : w.cell? ⟨bk, o + 2, none⟩ = some (.bool x)) (hf : w.frozen? ⟨bk, o + 2, none⟩ = false) :
    Calls Try.prog 70 #[.pointer (some ⟨bk, o, none⟩)] w fun e w' => e = .returned (.tuple #[]) ∧ w' = w.setCell ⟨bk, o + 2, none⟩ (.bool false) := by
  go_enter Try.func70, Try.ntmps70
  go_wp2_with fail
  refine bodyPost_end (results_none rfl _ _ _) rfl ?_
  exact ⟨rfl, rfl⟩
set_option maxHeartbeats 4000000 in
theorem gOnNode4_any (G : Gr) (kd a b : Int) (q : Nat) (base bg : Nat) (vn vl : Value) (w : World) (h : GrAt w base bg vn vl G) (hG : checkG G = 0) (hq : q < 2 ^ 64) (db : Nat) (hdb : w.cell? ⟨db, 0, none⟩ = some (.func (.func 70) #[] #[])) :
    Calls Try.prog 82 #[.pointer (some ⟨bg, 0, none⟩), .agg #[.int .i64 kd, .int .i64 a, .int .i64 b, .float .f64 q], .pointer (some ⟨db, 0, none⟩)] w fun e w' => e = .returned (.int .i64 (fndE (has G.nodes a))) ∧ (∃ vn' vl', GrAt w' base bg vn' vl' (aft (fndE (has G.nodes a)) ({ G with nodes := onNode (fun n => { n with mark := false }) a G.nodes }) G)) ∧ Below base w w' := by
  have hdl : db < w.heap.size := World.block_lt_of_cell? w _ hdb
  obtain ⟨n1, n2, n3, n4⟩ := check_zero.1 hG
  obtain ⟨na, nc, rfl, hNI, hNA⟩ := ownN_in h.nodes
  obtain ⟨la, lc, rfl, hLI, hLA⟩ := ownL_in h.links
  obtain ⟨hm1, hm2⟩ := links_iff.1 n4
  obtain ⟨W1, hW1⟩ : ∃ W1, W1 = w.alloc (.cells #[.int .i64 kd, .int .i64 a, .int .i64 b, .float .f64 q] 33) := ⟨_, rfl⟩
  have hb1 : Below w.heap.size w W1 := by rw [hW1]; exact gAl _ _
  have hs1 : w.heap.size < W1.heap.size := by rw [hW1]; simp
  have hcb : W1.heap[w.heap.size]? = some (.cells #[.int .i64 kd, .int .i64 a, .int .i64 b, .float .f64 q] 33 (0, 0)) := by rw [hW1]; exact heap_alloc_new w _
  have hbs : base ≤ w.heap.size := Nat.le_of_lt (Nat.lt_of_le_of_lt h.hb h.lt)
  have HGA : Hid (∀ V, Below W1.heap.size W1 V → GrAt V base bg (.slice na G.nodes.length nc) (.slice la G.links.length lc) G) := Lib.hid (fun V hV => h.below (gNx hb1 hV))
  have HCB : Hid (∀ V, Below W1.heap.size W1 V → V.heap[w.heap.size]? = some (.cells #[.int .i64 kd, .int .i64 a, .int .i64 b, .float .f64 q] 33 (0, 0))) := Lib.hid (fun V hV => (hV.block _ hs1).trans hcb)
  have KA : ∀ V, Below W1.heap.size W1 V → (V.cell? ⟨w.heap.size, 0, none⟩ = some (.int .i64 kd) ∧ V.cell? ⟨w.heap.size, 1, none⟩ = some (.int .i64 a) ∧ V.cell? ⟨w.heap.size, 2, none⟩ = some (.int .i64 b) ∧ V.cell? ⟨w.heap.size, 3, none⟩ = some (.float .f64 q)) ∧ V.cell? ⟨bg, 0, none⟩ = some (.slice na G.nodes.length nc) ∧ V.cell? ⟨bg, 1, none⟩ = some (.slice la G.links.length lc) := fun V hV => by
    have hh := HCB.out V hV
    exact ⟨⟨by rw [cell_of_row V _ 0 _ _ (0, 0) hh]; rfl, by rw [cell_of_row V _ 1 _ _ (0, 0) hh]; rfl, by rw [cell_of_row V _ 2 _ _ (0, 0) hh]; rfl, by rw [cell_of_row V _ 3 _ _ (0, 0) hh]; rfl⟩, (HGA.out V hV).cells.1, (HGA.out V hV).cells.2.1⟩
  have HKA := Lib.hid KA
  obtain ⟨⟨c0, c1, c2, c3⟩, c4, c5⟩ := KA W1 (Below.refl _ _)
  have HB1 := Lib.hid hb1
  have HBW : Hid (∀ V, Below W1.heap.size W1 V → Below base w V) := Lib.hid (fun V hV => (gNx hb1 hV).mono hbs)
  have HN3 := Lib.hid n3
  have HM1 := Lib.hid hm1
  have HM2 := Lib.hid hm2
  have HNI : Hid (∀ V, Below W1.heap.size W1 V → NodesIn V V.heap.size G.nodes na) := Lib.hid (fun V hV => hNI.kept (fun i hi => (gNx hb1 hV).block i hi) (gNx hb1 hV).size)
  have HLI : Hid (∀ V, Below W1.heap.size W1 V → LinksIn V V.heap.size G.links la) := Lib.hid (fun V hV => hLI.kept (fun i hi => (gNx hb1 hV).block i hi) (gNx hb1 hV).size)
  have HNL : Hid (G.nodes.length ≤ 256 ∧ G.links.length ≤ 4096) := Lib.hid ⟨n1, n2⟩
  have HFIN : Hid (∀ V, Below W1.heap.size W1 V → (∃ vn' vl', GrAt V base bg vn' vl' G) ∧ Below base w V) := Lib.hid (fun V hV => ⟨⟨_, _, HGA.out V hV⟩, HBW.out V hV⟩)
  have HBG : Hid (bg < w.heap.size ∧ base ≤ bg) := Lib.hid ⟨h.lt, h.hb⟩
  have HQ := Lib.hid hq
  have HNA := Lib.hid hNA
  have HLA := Lib.hid hLA
  clear h hG hq n1 n2 n3 n4 hNI hNA hLI hLA hm1 hm2 hb1 hs1 hcb hbs KA
  have HF : Hid (∀ V, Below W1.heap.size W1 V → Calls Try.prog 52 #[.agg #[.slice na G.nodes.length nc, .slice la G.links.length lc], .int .i64 a] V fun e w' => e = .returned (.tuple #[.int .i64 (Nq.ahead G.nodes a : Int), .bool (has G.nodes a)]) ∧ Below V.heap.size V w') := Lib.hid (fun V hV => gFindNode_any G.nodes na nc la G.links.length lc a V (HNI.out V hV) HN3.out (by have := HNL.out; omega))
  have HDB : Hid (∀ V, Below W1.heap.size W1 V → V.cell? ⟨db, 0, none⟩ = some (.func (.func 70) #[] #[])) := Lib.hid (fun V hV => ((gNx HB1.out hV).cell (p := ⟨db, 0, none⟩) hdl).trans hdb)
  have HDO := Lib.hid gDo4_any
  clear hdb hdl
  cases hf : has G.nodes a with
  | false =>
    have HE1 : Hid (fndE false = 4) := Lib.hid rfl
    rw [hf] at HF
    clear hf HLA
    generalize Nq.ahead G.nodes a = pos at *
    go_enter Try.func82, Try.ntmps82
    go_upto_region 1 with (fail)
    rw [← hW1]
    clear hW1
    refine wp_region_held_drew (S := fun V => Below W1.heap.size W1 V) (by kernel_rfl) (Below.drew (Below.refl _ _)) (fun hH => ?_)
    have B0 : Hid (Below W1.heap.size W1 W1.drew) := Lib.hid (Below.drew (Below.refl _ _))
    generalize W1.drew = V0 at *
    refine tk 0 (by assumption) rfl (by kernel_rfl) (fun _ _ _ h => h) (fun V hV => by go_simp; try with_reducible rfl) ?_
    try simp only [Act.put, List.setIfInBounds_toArray, List.set_cons_zero, List.set_cons_succ, List.getElem_toArray, List.getElem_cons_succ, List.getElem_cons_zero]
    refine tk 1 (by assumption) rfl (by kernel_rfl) (fun _ _ _ h => h) (fun V hV => by go_simp; try with_reducible rfl) ?_
    try simp only [Act.put, List.setIfInBounds_toArray, List.set_cons_zero, List.set_cons_succ, List.getElem_toArray, List.getElem_cons_succ, List.getElem_cons_zero]
    refine tk 2 (by assumption) rfl (by kernel_rfl) (fun _ _ _ h => h) (fun V hV => by obtain ⟨⟨c0, c1, c2, c3⟩, c4, c5⟩ := HKA.out V hV; go_simp; try with_reducible rfl) ?_
    try simp only [Act.put, List.setIfInBounds_toArray, List.set_cons_zero, List.set_cons_succ, List.getElem_toArray, List.getElem_cons_succ, List.getElem_cons_zero]
    refine tk 3 (by assumption) rfl (by kernel_rfl) (fun _ _ _ h => h) (fun V hV => by go_simp; try with_reducible rfl) ?_
    try simp only [Act.put, List.setIfInBounds_toArray, List.set_cons_zero, List.set_cons_succ, List.getElem_toArray, List.getElem_cons_succ, List.getElem_cons_zero]
    refine tk 4 (by assumption) rfl (by kernel_rfl) (fun _ _ _ h => h) (fun V hV => by obtain ⟨⟨c0, c1, c2, c3⟩, c4, c5⟩ := HKA.out V hV; go_simp; try with_reducible rfl) ?_
    try simp only [Act.put, List.setIfInBounds_toArray, List.set_cons_zero, List.set_cons_succ, List.getElem_toArray, List.getElem_cons_succ, List.getElem_cons_zero]
    refine wpAnyH_ready (rs := [5]) (by kernel_rfl) (by simp) ?_
    refine AllReadyH.cons (o := _) rfl (fun K hK => ?_) AllReadyH.nil
    go_simp
    refine (HF.out _ B0.out).mono ?_
    rintro e V1 ⟨rfl, hb2⟩
    have B1 := Lib.hid (gNx B0.out hb2)
    clear hb2
    go_wp2_with fail
    refine hK.out _ _ B1.out (fun hH => ?_)
    clear hK K
    try simp only [Act.put, List.setIfInBounds_toArray, List.set_cons_zero, List.set_cons_succ, List.getElem_toArray, List.getElem_cons_succ, List.getElem_cons_zero]
    refine tk 6 (by assumption) rfl (by kernel_rfl) (fun _ _ _ h => h) (fun V hV => by go_simp; try with_reducible rfl) ?_
    try simp only [Act.put, List.setIfInBounds_toArray, List.set_cons_zero, List.set_cons_succ, List.getElem_toArray, List.getElem_cons_succ, List.getElem_cons_zero]
    refine tk 7 (by assumption) rfl (by kernel_rfl) (fun _ _ _ h => h) (fun V hV => by go_simp; try with_reducible rfl) ?_
    try simp only [Act.put, List.setIfInBounds_toArray, List.set_cons_zero, List.set_cons_succ, List.getElem_toArray, List.getElem_cons_succ, List.getElem_cons_zero]
    refine tk 8 (by assumption) rfl (by kernel_rfl) (fun _ _ _ h => h) (fun V hV => by go_simp; try with_reducible rfl) ?_
    try simp only [Act.put, List.setIfInBounds_toArray, List.set_cons_zero, List.set_cons_succ, List.getElem_toArray, List.getElem_cons_succ, List.getElem_cons_zero]
    refine tk 9 (by assumption) rfl (by kernel_rfl) (fun _ _ _ h => h) (fun V hV => by go_simp; try with_reducible rfl) ?_
    try simp only [Act.put, List.setIfInBounds_toArray, List.set_cons_zero, List.set_cons_succ, List.getElem_toArray, List.getElem_cons_succ, List.getElem_cons_zero]
    refine tk 10 (by assumption) rfl (by kernel_rfl) (fun _ _ _ h => h) (fun V hV => by go_simp; try with_reducible rfl) ?_
    try simp only [Act.put, List.setIfInBounds_toArray, List.set_cons_zero, List.set_cons_succ, List.getElem_toArray, List.getElem_cons_succ, List.getElem_cons_zero]
    refine wpAnyH_done (by kernel_rfl) ?_ _
    go_wp2_with fail
    go_ret
    rw [HE1.out]
    exact ⟨rfl, HFIN.out _ B1.out⟩
  | true =>
    have HE4 : Hid (fndE true = 0) := Lib.hid rfl
    rw [hf] at HF
    obtain ⟨hpl, hset⟩ := onNode_set HN3.out (fun n => { n with mark := false }) hf
    have hln : 0 < G.nodes.length := by omega
    obtain ⟨g, rfl, hbg⟩ := HNA.out hln
    have HROW : Hid (∀ V, Below W1.heap.size W1 V → (∃ u, V.cell? ⟨g, Nq.ahead G.nodes a * 3 + 2, none⟩ = some (.bool u)) ∧ V.frozen? ⟨g, Nq.ahead G.nodes a * 3 + 2, none⟩ = false) := Lib.hid (fun V hV => by
      obtain ⟨g2, cap2, e2, hg2, -, hr, ht⟩ := (HGA.out V hV).nodes.range hln
      simp only [Value.slice.injEq, Option.some.injEq, Addr.mk.injEq, and_true, true_and] at e2
      obtain ⟨rfl, rfl⟩ := e2
      obtain ⟨-, r1, r2⟩ := ndRow_get G.nodes _ hpl
      exact ⟨⟨_, by have := hr _ _ r2; rw [Nat.zero_add] at this; exact this⟩, by have := (ht (Nq.ahead G.nodes a * 3 + 2) (by omega)).2; rw [Nat.zero_add] at this; exact this⟩)
    have HGNE : Hid (g ≠ bg ∧ g ≠ w.heap.size) := Lib.hid (by
      obtain ⟨-, -, cur, hcur⟩ := own_set (j := 0) (HGA.out W1 (Below.refl _ _)).nodes hln (.bool true)
      exact ⟨heap_ne hcur (HGA.out W1 (Below.refl _ _)).gb (by decide), heap_ne hcur (HCB.out W1 (Below.refl _ _)) (by decide)⟩)
    have HTURN : Hid (∀ V, Below W1.heap.size W1 V → GrAt (V.setCell ⟨g, Nq.ahead G.nodes a * 3 + 2, none⟩ (.bool false)) base bg (.slice (some ⟨g, 0, none⟩) G.nodes.length nc) (.slice la G.links.length lc) { G with nodes := onNode (fun n => { n with mark := false }) a G.nodes } ∧ Below base V (V.setCell ⟨g, Nq.ahead G.nodes a * 3 + 2, none⟩ (.bool false))) := Lib.hid (fun V hV => by
      refine (HGA.out V hV).turnN _ _ hln (by simp [onNode]) ?_
      rw [hset]; exact ndRow_turn _ _ hpl _ 2 _ (by decide) rfl)
    have HPI : Hid ((Nq.ahead G.nodes a : Int) < (G.nodes.length : Int)) := Lib.hid (by omega)
    have HGDB : Hid (g ≠ db) := Lib.hid (by
      rintro rfl
      obtain ⟨g2, cap2, e2, hg2, -, hr, ht⟩ := (HGA.out W1 (Below.refl _ _)).nodes.range hln
      simp only [Value.slice.injEq, Option.some.injEq, Addr.mk.injEq, and_true, true_and] at e2
      obtain ⟨rfl, rfl⟩ := e2
      have h1 := hr _ _ (ndRow_get G.nodes 0 hln).1
      rw [HDB.out W1 (Below.refl _ _)] at h1
      cases h1)
    clear hset hpl hf hbg HNA
    generalize Nq.ahead G.nodes a = pos at *
    generalize { G with nodes := onNode (fun n => { n with mark := false }) a G.nodes } = G2 at *
    go_enter Try.func82, Try.ntmps82
    go_upto_region 1 with (fail)
    rw [← hW1]
    clear hW1
    refine wp_region_held_drew (S := fun V => Below W1.heap.size W1 V) (by kernel_rfl) (Below.drew (Below.refl _ _)) (fun hH => ?_)
    have B0 : Hid (Below W1.heap.size W1 W1.drew) := Lib.hid (Below.drew (Below.refl _ _))
    generalize W1.drew = V0 at *
    refine tk 0 (by assumption) rfl (by kernel_rfl) (fun _ _ _ h => h) (fun V hV => by go_simp; try with_reducible rfl) ?_
    try simp only [Act.put, List.setIfInBounds_toArray, List.set_cons_zero, List.set_cons_succ, List.getElem_toArray, List.getElem_cons_succ, List.getElem_cons_zero]
    refine tk 1 (by assumption) rfl (by kernel_rfl) (fun _ _ _ h => h) (fun V hV => by go_simp; try with_reducible rfl) ?_
    try simp only [Act.put, List.setIfInBounds_toArray, List.set_cons_zero, List.set_cons_succ, List.getElem_toArray, List.getElem_cons_succ, List.getElem_cons_zero]
    refine tk 2 (by assumption) rfl (by kernel_rfl) (fun _ _ _ h => h) (fun V hV => by obtain ⟨⟨c0, c1, c2, c3⟩, c4, c5⟩ := HKA.out V hV; go_simp; try with_reducible rfl) ?_
    try simp only [Act.put, List.setIfInBounds_toArray, List.set_cons_zero, List.set_cons_succ, List.getElem_toArray, List.getElem_cons_succ, List.getElem_cons_zero]
    refine tk 3 (by assumption) rfl (by kernel_rfl) (fun _ _ _ h => h) (fun V hV => by go_simp; try with_reducible rfl) ?_
    try simp only [Act.put, List.setIfInBounds_toArray, List.set_cons_zero, List.set_cons_succ, List.getElem_toArray, List.getElem_cons_succ, List.getElem_cons_zero]
    refine tk 4 (by assumption) rfl (by kernel_rfl) (fun _ _ _ h => h) (fun V hV => by obtain ⟨⟨c0, c1, c2, c3⟩, c4, c5⟩ := HKA.out V hV; go_simp; try with_reducible rfl) ?_
    try simp only [Act.put, List.setIfInBounds_toArray, List.set_cons_zero, List.set_cons_succ, List.getElem_toArray, List.getElem_cons_succ, List.getElem_cons_zero]
    refine wpAnyH_ready (rs := [5]) (by kernel_rfl) (by simp) ?_
    refine AllReadyH.cons (o := _) rfl (fun K hK => ?_) AllReadyH.nil
    go_simp
    refine (HF.out _ B0.out).mono ?_
    rintro e V1 ⟨rfl, hb2⟩
    have B1 := Lib.hid (gNx B0.out hb2)
    clear hb2
    go_wp2_with fail
    refine hK.out _ _ B1.out (fun hH => ?_)
    clear hK K
    try simp only [Act.put, List.setIfInBounds_toArray, List.set_cons_zero, List.set_cons_succ, List.getElem_toArray, List.getElem_cons_succ, List.getElem_cons_zero]
    refine tk 6 (by assumption) rfl (by kernel_rfl) (fun _ _ _ h => h) (fun V hV => by go_simp; try with_reducible rfl) ?_
    try simp only [Act.put, List.setIfInBounds_toArray, List.set_cons_zero, List.set_cons_succ, List.getElem_toArray, List.getElem_cons_succ, List.getElem_cons_zero]
    refine tk 7 (by assumption) rfl (by kernel_rfl) (fun _ _ _ h => h) (fun V hV => by go_simp; try with_reducible rfl) ?_
    try simp only [Act.put, List.setIfInBounds_toArray, List.set_cons_zero, List.set_cons_succ, List.getElem_toArray, List.getElem_cons_succ, List.getElem_cons_zero]
    refine tk 8 (by assumption) rfl (by kernel_rfl) (fun _ _ _ h => h) (fun V hV => by go_simp; try with_reducible rfl) ?_
    try simp only [Act.put, List.setIfInBounds_toArray, List.set_cons_zero, List.set_cons_succ, List.getElem_toArray, List.getElem_cons_succ, List.getElem_cons_zero]
    refine tk 9 (by assumption) rfl (by kernel_rfl) (fun _ _ _ h => h) (fun V hV => by go_simp; try with_reducible rfl) ?_
    try simp only [Act.put, List.setIfInBounds_toArray, List.set_cons_zero, List.set_cons_succ, List.getElem_toArray, List.getElem_cons_succ, List.getElem_cons_zero]
    refine tk 10 (by assumption) rfl (by kernel_rfl) (fun _ _ _ h => h) (fun V hV => by go_simp; try with_reducible rfl) ?_
    try simp only [Act.put, List.setIfInBounds_toArray, List.set_cons_zero, List.set_cons_succ, List.getElem_toArray, List.getElem_cons_succ, List.getElem_cons_zero]
    refine wpAnyH_done (by kernel_rfl) ?_ _
    go_upto_region 4 with (fail)
    have B0 : Hid (Below W1.heap.size W1 V1.drew) := Lib.hid (Below.drew B1.out)
    refine wp_region_held_drew (S := fun V => V.cell? ⟨bg, 0, none⟩ = some (.slice (some ⟨g, 0, none⟩) G.nodes.length nc) ∧ V.cell? ⟨db, 0, none⟩ = some (.func (.func 70) #[] #[])) (by kernel_rfl) (by obtain ⟨⟨c0, c1, c2, c3⟩, c4, c5⟩ := HKA.out V1 B1.out; exact ⟨c4, HDB.out V1 B1.out⟩) (fun hH => ?_)
    generalize V1.drew = V0 at *
    have hpi := HPI.out
    have hp0 : (0 : Int) ≤ (pos : Int) := by omega
    refine tk 0 (by assumption) rfl (by kernel_rfl) (fun _ _ _ h => h) (fun V hV => by obtain ⟨x0, x1⟩ := hV; go_simp; try with_reducible rfl) ?_
    try simp only [Act.put, List.setIfInBounds_toArray, List.set_cons_zero, List.set_cons_succ, List.getElem_toArray, List.getElem_cons_succ, List.getElem_cons_zero]
    refine tk 1 (by assumption) rfl (by kernel_rfl) (fun _ _ _ h => h) (fun V hV => by go_simp; try with_reducible rfl) ?_
    try simp only [Act.put, List.setIfInBounds_toArray, List.set_cons_zero, List.set_cons_succ, List.getElem_toArray, List.getElem_cons_succ, List.getElem_cons_zero]
    refine tk 2 (by assumption) rfl (by kernel_rfl) (fun _ _ _ h => h) (fun V hV => by go_simp; try with_reducible rfl) ?_
    try simp only [Act.put, List.setIfInBounds_toArray, List.set_cons_zero, List.set_cons_succ, List.getElem_toArray, List.getElem_cons_succ, List.getElem_cons_zero]
    refine tk 3 (by assumption) rfl (by kernel_rfl) (fun _ _ _ h => h) (fun V hV => by go_simp; try with_reducible rfl) ?_
    try simp only [Act.put, List.setIfInBounds_toArray, List.set_cons_zero, List.set_cons_succ, List.getElem_toArray, List.getElem_cons_succ, List.getElem_cons_zero]
    refine tk 4 (by assumption) rfl (by kernel_rfl) (fun _ _ _ h => h) (fun V hV => by obtain ⟨x0, x1⟩ := hV; go_simp; try with_reducible rfl) ?_
    try simp only [Act.put, List.setIfInBounds_toArray, List.set_cons_zero, List.set_cons_succ, List.getElem_toArray, List.getElem_cons_succ, List.getElem_cons_zero]
    refine tk 5 (by assumption) rfl (by kernel_rfl) (fun _ _ _ h => h) (fun V hV => by go_simp; try with_reducible rfl) ?_
    try simp only [Act.put, List.setIfInBounds_toArray, List.set_cons_zero, List.set_cons_succ, List.getElem_toArray, List.getElem_cons_succ, List.getElem_cons_zero]
    refine tk 6 (by assumption) rfl (by kernel_rfl) (fun _ _ _ h => h) (fun V hV => by go_simp; try with_reducible rfl) ?_
    try simp only [Act.put, List.setIfInBounds_toArray, List.set_cons_zero, List.set_cons_succ, List.getElem_toArray, List.getElem_cons_succ, List.getElem_cons_zero]
    refine wpAnyH_ready (rs := [7]) (by kernel_rfl) (by simp) ?_
    refine AllReadyH.cons (o := _) rfl (fun K hK => ?_) AllReadyH.nil
    obtain ⟨u, k0⟩ := (HROW.out V0 B0.out).1
    have k1 := (HROW.out V0 B0.out).2
    go_simp
    refine (HDO.out _ _ _ _ k0 k1).mono ?_
    rintro e V2 ⟨rfl, rfl⟩
    go_wp2_with fail
    refine hK.out _ _ ⟨by rw [World.cell?_setCell_other _ _ _ _ (by intro e; simp only [Addr.mk.injEq] at e; exact HGNE.out.1 e.1)]; exact hH.1, by rw [World.cell?_setCell_other _ _ _ _ (by intro e; simp only [Addr.mk.injEq] at e; exact HGDB.out e.1)]; exact hH.2⟩ (fun hH2 => ?_)
    clear hK K
    try simp only [Act.put, List.setIfInBounds_toArray, List.set_cons_zero, List.set_cons_succ, List.getElem_toArray, List.getElem_cons_succ, List.getElem_cons_zero]
    refine wpAnyH_done (by kernel_rfl) ?_ _
    go_wp2_with fail
    go_ret
    rw [HE4.out]
    exact ⟨rfl, ⟨_, _, (HTURN.out V0 B0.out).1⟩, (HBW.out V0 B0.out).trans (HTURN.out V0 B0.out).2⟩
theorem gDo5_any (bk o : Nat) (x : Bool) (w : World) (hc : w.cell? ⟨bk, o + 1, none⟩ = some (.bool x)) (hf : w.frozen? ⟨bk, o + 1, none⟩ = false) :
    Calls Try.prog 71 #[.pointer (some ⟨bk, o, none⟩)] w fun e w' => e = .returned (.tuple #[]) ∧ w' = w.setCell ⟨bk, o + 1, none⟩ (.bool false) := by
  go_enter Try.func71, Try.ntmps71
  go_wp2_with fail
  refine bodyPost_end (results_none rfl _ _ _) rfl ?_
  exact ⟨rfl, rfl⟩
set_option maxHeartbeats 4000000 in
theorem gOnNode5_any (G : Gr) (kd a b : Int) (q : Nat) (base bg : Nat) (vn vl : Value) (w : World) (h : GrAt w base bg vn vl G) (hG : checkG G = 0) (hq : q < 2 ^ 64) (db : Nat) (hdb : w.cell? ⟨db, 0, none⟩ = some (.func (.func 71) #[] #[])) :
    Calls Try.prog 82 #[.pointer (some ⟨bg, 0, none⟩), .agg #[.int .i64 kd, .int .i64 a, .int .i64 b, .float .f64 q], .pointer (some ⟨db, 0, none⟩)] w fun e w' => e = .returned (.int .i64 (fndE (has G.nodes a))) ∧ (∃ vn' vl', GrAt w' base bg vn' vl' (aft (fndE (has G.nodes a)) ({ G with nodes := onNode (fun n => { n with up := false }) a G.nodes }) G)) ∧ Below base w w' := by
  have hdl : db < w.heap.size := World.block_lt_of_cell? w _ hdb
  obtain ⟨n1, n2, n3, n4⟩ := check_zero.1 hG
  obtain ⟨na, nc, rfl, hNI, hNA⟩ := ownN_in h.nodes
  obtain ⟨la, lc, rfl, hLI, hLA⟩ := ownL_in h.links
  obtain ⟨hm1, hm2⟩ := links_iff.1 n4
  obtain ⟨W1, hW1⟩ : ∃ W1, W1 = w.alloc (.cells #[.int .i64 kd, .int .i64 a, .int .i64 b, .float .f64 q] 33) := ⟨_, rfl⟩
  have hb1 : Below w.heap.size w W1 := by rw [hW1]; exact gAl _ _
  have hs1 : w.heap.size < W1.heap.size := by rw [hW1]; simp
  have hcb : W1.heap[w.heap.size]? = some (.cells #[.int .i64 kd, .int .i64 a, .int .i64 b, .float .f64 q] 33 (0, 0)) := by rw [hW1]; exact heap_alloc_new w _
  have hbs : base ≤ w.heap.size := Nat.le_of_lt (Nat.lt_of_le_of_lt h.hb h.lt)
  have HGA : Hid (∀ V, Below W1.heap.size W1 V → GrAt V base bg (.slice na G.nodes.length nc) (.slice la G.links.length lc) G) := Lib.hid (fun V hV => h.below (gNx hb1 hV))
  have HCB : Hid (∀ V, Below W1.heap.size W1 V → V.heap[w.heap.size]? = some (.cells #[.int .i64 kd, .int .i64 a, .int .i64 b, .float .f64 q] 33 (0, 0))) := Lib.hid (fun V hV => (hV.block _ hs1).trans hcb)
  have KA : ∀ V, Below W1.heap.size W1 V → (V.cell? ⟨w.heap.size, 0, none⟩ = some (.int .i64 kd) ∧ V.cell? ⟨w.heap.size, 1, none⟩ = some (.int .i64 a) ∧ V.cell? ⟨w.heap.size, 2, none⟩ = some (.int .i64 b) ∧ V.cell? ⟨w.heap.size, 3, none⟩ = some (.float .f64 q)) ∧ V.cell? ⟨bg, 0, none⟩ = some (.slice na G.nodes.length nc) ∧ V.cell? ⟨bg, 1, none⟩ = some (.slice la G.links.length lc) := fun V hV => by
    have hh := HCB.out V hV
    exact ⟨⟨by rw [cell_of_row V _ 0 _ _ (0, 0) hh]; rfl, by rw [cell_of_row V _ 1 _ _ (0, 0) hh]; rfl, by rw [cell_of_row V _ 2 _ _ (0, 0) hh]; rfl, by rw [cell_of_row V _ 3 _ _ (0, 0) hh]; rfl⟩, (HGA.out V hV).cells.1, (HGA.out V hV).cells.2.1⟩
  have HKA := Lib.hid KA
  obtain ⟨⟨c0, c1, c2, c3⟩, c4, c5⟩ := KA W1 (Below.refl _ _)
  have HB1 := Lib.hid hb1
  have HBW : Hid (∀ V, Below W1.heap.size W1 V → Below base w V) := Lib.hid (fun V hV => (gNx hb1 hV).mono hbs)
  have HN3 := Lib.hid n3
  have HM1 := Lib.hid hm1
  have HM2 := Lib.hid hm2
  have HNI : Hid (∀ V, Below W1.heap.size W1 V → NodesIn V V.heap.size G.nodes na) := Lib.hid (fun V hV => hNI.kept (fun i hi => (gNx hb1 hV).block i hi) (gNx hb1 hV).size)
  have HLI : Hid (∀ V, Below W1.heap.size W1 V → LinksIn V V.heap.size G.links la) := Lib.hid (fun V hV => hLI.kept (fun i hi => (gNx hb1 hV).block i hi) (gNx hb1 hV).size)
  have HNL : Hid (G.nodes.length ≤ 256 ∧ G.links.length ≤ 4096) := Lib.hid ⟨n1, n2⟩
  have HFIN : Hid (∀ V, Below W1.heap.size W1 V → (∃ vn' vl', GrAt V base bg vn' vl' G) ∧ Below base w V) := Lib.hid (fun V hV => ⟨⟨_, _, HGA.out V hV⟩, HBW.out V hV⟩)
  have HBG : Hid (bg < w.heap.size ∧ base ≤ bg) := Lib.hid ⟨h.lt, h.hb⟩
  have HQ := Lib.hid hq
  have HNA := Lib.hid hNA
  have HLA := Lib.hid hLA
  clear h hG hq n1 n2 n3 n4 hNI hNA hLI hLA hm1 hm2 hb1 hs1 hcb hbs KA
  have HF : Hid (∀ V, Below W1.heap.size W1 V → Calls Try.prog 52 #[.agg #[.slice na G.nodes.length nc, .slice la G.links.length lc], .int .i64 a] V fun e w' => e = .returned (.tuple #[.int .i64 (Nq.ahead G.nodes a : Int), .bool (has G.nodes a)]) ∧ Below V.heap.size V w') := Lib.hid (fun V hV => gFindNode_any G.nodes na nc la G.links.length lc a V (HNI.out V hV) HN3.out (by have := HNL.out; omega))
  have HDB : Hid (∀ V, Below W1.heap.size W1 V → V.cell? ⟨db, 0, none⟩ = some (.func (.func 71) #[] #[])) := Lib.hid (fun V hV => ((gNx HB1.out hV).cell (p := ⟨db, 0, none⟩) hdl).trans hdb)
  have HDO := Lib.hid gDo5_any
  clear hdb hdl
  cases hf : has G.nodes a with
  | false =>
    have HE1 : Hid (fndE false = 4) := Lib.hid rfl
    rw [hf] at HF
    clear hf HLA
    generalize Nq.ahead G.nodes a = pos at *
    go_enter Try.func82, Try.ntmps82
    go_upto_region 1 with (fail)
    rw [← hW1]
    clear hW1
    refine wp_region_held_drew (S := fun V => Below W1.heap.size W1 V) (by kernel_rfl) (Below.drew (Below.refl _ _)) (fun hH => ?_)
    have B0 : Hid (Below W1.heap.size W1 W1.drew) := Lib.hid (Below.drew (Below.refl _ _))
    generalize W1.drew = V0 at *
    refine tk 0 (by assumption) rfl (by kernel_rfl) (fun _ _ _ h => h) (fun V hV => by go_simp; try with_reducible rfl) ?_
    try simp only [Act.put, List.setIfInBounds_toArray, List.set_cons_zero, List.set_cons_succ, List.getElem_toArray, List.getElem_cons_succ, List.getElem_cons_zero]
    refine tk 1 (by assumption) rfl (by kernel_rfl) (fun _ _ _ h => h) (fun V hV => by go_simp; try with_reducible rfl) ?_
    try simp only [Act.put, List.setIfInBounds_toArray, List.set_cons_zero, List.set_cons_succ, List.getElem_toArray, List.getElem_cons_succ, List.getElem_cons_zero]
    refine tk 2 (by assumption) rfl (by kernel_rfl) (fun _ _ _ h => h) (fun V hV => by obtain ⟨⟨c0, c1, c2, c3⟩, c4, c5⟩ := HKA.out V hV; go_simp; try with_reducible rfl) ?_
    try simp only [Act.put, List.setIfInBounds_toArray, List.set_cons_zero, List.set_cons_succ, List.getElem_toArray, List.getElem_cons_succ, List.getElem_cons_zero]
    refine tk 3 (by assumption) rfl (by kernel_rfl) (fun _ _ _ h => h) (fun V hV => by go_simp; try with_reducible rfl) ?_
    try simp only [Act.put, List.setIfInBounds_toArray, List.set_cons_zero, List.set_cons_succ, List.getElem_toArray, List.getElem_cons_succ, List.getElem_cons_zero]
    refine tk 4 (by assumption) rfl (by kernel_rfl) (fun _ _ _ h => h) (fun V hV => by obtain ⟨⟨c0, c1, c2, c3⟩, c4, c5⟩ := HKA.out V hV; go_simp; try with_reducible rfl) ?_
    try simp only [Act.put, List.setIfInBounds_toArray, List.set_cons_zero, List.set_cons_succ, List.getElem_toArray, List.getElem_cons_succ, List.getElem_cons_zero]
    refine wpAnyH_ready (rs := [5]) (by kernel_rfl) (by simp) ?_
    refine AllReadyH.cons (o := _) rfl (fun K hK => ?_) AllReadyH.nil
    go_simp
    refine (HF.out _ B0.out).mono ?_
    rintro e V1 ⟨rfl, hb2⟩
    have B1 := Lib.hid (gNx B0.out hb2)
    clear hb2
    go_wp2_with fail
    refine hK.out _ _ B1.out (fun hH => ?_)
    clear hK K
    try simp only [Act.put, List.setIfInBounds_toArray, List.set_cons_zero, List.set_cons_succ, List.getElem_toArray, List.getElem_cons_succ, List.getElem_cons_zero]
    refine tk 6 (by assumption) rfl (by kernel_rfl) (fun _ _ _ h => h) (fun V hV => by go_simp; try with_reducible rfl) ?_
    try simp only [Act.put, List.setIfInBounds_toArray, List.set_cons_zero, List.set_cons_succ, List.getElem_toArray, List.getElem_cons_succ, List.getElem_cons_zero]
    refine tk 7 (by assumption) rfl (by kernel_rfl) (fun _ _ _ h => h) (fun V hV => by go_simp; try with_reducible rfl) ?_
    try simp only [Act.put, List.setIfInBounds_toArray, List.set_cons_zero, List.set_cons_succ, List.getElem_toArray, List.getElem_cons_succ, List.getElem_cons_zero]
    refine tk 8 (by assumption) rfl (by kernel_rfl) (fun _ _ _ h => h) (fun V hV => by go_simp; try with_reducible rfl) ?_
    try simp only [Act.put, List.setIfInBounds_toArray, List.set_cons_zero, List.set_cons_succ, List.getElem_toArray, List.getElem_cons_succ, List.getElem_cons_zero]
    refine tk 9 (by assumption) rfl (by kernel_rfl) (fun _ _ _ h => h) (fun V hV => by go_simp; try with_reducible rfl) ?_
    try simp only [Act.put, List.setIfInBounds_toArray, List.set_cons_zero, List.set_cons_succ, List.getElem_toArray, List.getElem_cons_succ, List.getElem_cons_zero]
    refine tk 10 (by assumption) rfl (by kernel_rfl) (fun _ _ _ h => h) (fun V hV => by go_simp; try with_reducible rfl) ?_
    try simp only [Act.put, List.setIfInBounds_toArray, List.set_cons_zero, List.set_cons_succ, List.getElem_toArray, List.getElem_cons_succ, List.getElem_cons_zero]
    refine wpAnyH_done (by kernel_rfl) ?_ _
    go_wp2_with fail
    go_ret
    rw [HE1.out]
    exact ⟨rfl, HFIN.out _ B1.out⟩
  | true =>
    have HE4 : Hid (fndE true = 0) := Lib.hid rfl
    rw [hf] at HF
    obtain ⟨hpl, hset⟩ := onNode_set HN3.out (fun n => { n with up := false }) hf
    have hln : 0 < G.nodes.length := by omega
    obtain ⟨g, rfl, hbg⟩ := HNA.out hln
    have HROW : Hid (∀ V, Below W1.heap.size W1 V → (∃ u, V.cell? ⟨g, Nq.ahead G.nodes a * 3 + 1, none⟩ = some (.bool u)) ∧ V.frozen? ⟨g, Nq.ahead G.nodes a * 3 + 1, none⟩ = false) := Lib.hid (fun V hV => by
      obtain ⟨g2, cap2, e2, hg2, -, hr, ht⟩ := (HGA.out V hV).nodes.range hln
      simp only [Value.slice.injEq, Option.some.injEq, Addr.mk.injEq, and_true, true_and] at e2
      obtain ⟨rfl, rfl⟩ := e2
      obtain ⟨-, r1, r2⟩ := ndRow_get G.nodes _ hpl
      exact ⟨⟨_, by have := hr _ _ r1; rw [Nat.zero_add] at this; exact this⟩, by have := (ht (Nq.ahead G.nodes a * 3 + 1) (by omega)).2; rw [Nat.zero_add] at this; exact this⟩)
    have HGNE : Hid (g ≠ bg ∧ g ≠ w.heap.size) := Lib.hid (by
      obtain ⟨-, -, cur, hcur⟩ := own_set (j := 0) (HGA.out W1 (Below.refl _ _)).nodes hln (.bool true)
      exact ⟨heap_ne hcur (HGA.out W1 (Below.refl _ _)).gb (by decide), heap_ne hcur (HCB.out W1 (Below.refl _ _)) (by decide)⟩)
    have HTURN : Hid (∀ V, Below W1.heap.size W1 V → GrAt (V.setCell ⟨g, Nq.ahead G.nodes a * 3 + 1, none⟩ (.bool false)) base bg (.slice (some ⟨g, 0, none⟩) G.nodes.length nc) (.slice la G.links.length lc) { G with nodes := onNode (fun n => { n with up := false }) a G.nodes } ∧ Below base V (V.setCell ⟨g, Nq.ahead G.nodes a * 3 + 1, none⟩ (.bool false))) := Lib.hid (fun V hV => by
      refine (HGA.out V hV).turnN _ _ hln (by simp [onNode]) ?_
      rw [hset]; exact ndRow_turn _ _ hpl _ 1 _ (by decide) rfl)
    have HPI : Hid ((Nq.ahead G.nodes a : Int) < (G.nodes.length : Int)) := Lib.hid (by omega)
    have HGDB : Hid (g ≠ db) := Lib.hid (by
      rintro rfl
      obtain ⟨g2, cap2, e2, hg2, -, hr, ht⟩ := (HGA.out W1 (Below.refl _ _)).nodes.range hln
      simp only [Value.slice.injEq, Option.some.injEq, Addr.mk.injEq, and_true, true_and] at e2
      obtain ⟨rfl, rfl⟩ := e2
      have h1 := hr _ _ (ndRow_get G.nodes 0 hln).1
      rw [HDB.out W1 (Below.refl _ _)] at h1
      cases h1)
    clear hset hpl hf hbg HNA
    generalize Nq.ahead G.nodes a = pos at *
    generalize { G with nodes := onNode (fun n => { n with up := false }) a G.nodes } = G2 at *
    go_enter Try.func82, Try.ntmps82
    go_upto_region 1 with (fail)
    rw [← hW1]
    clear hW1
    refine wp_region_held_drew (S := fun V => Below W1.heap.size W1 V) (by kernel_rfl) (Below.drew (Below.refl _ _)) (fun hH => ?_)
    have B0 : Hid (Below W1.heap.size W1 W1.drew) := Lib.hid (Below.drew (Below.refl _ _))
    generalize W1.drew = V0 at *
    refine tk 0 (by assumption) rfl (by kernel_rfl) (fun _ _ _ h => h) (fun V hV => by go_simp; try with_reducible rfl) ?_
    try simp only [Act.put, List.setIfInBounds_toArray, List.set_cons_zero, List.set_cons_succ, List.getElem_toArray, List.getElem_cons_succ, List.getElem_cons_zero]
    refine tk 1 (by assumption) rfl (by kernel_rfl) (fun _ _ _ h => h) (fun V hV => by go_simp; try with_reducible rfl) ?_
    try simp only [Act.put, List.setIfInBounds_toArray, List.set_cons_zero, List.set_cons_succ, List.getElem_toArray, List.getElem_cons_succ, List.getElem_cons_zero]
    refine tk 2 (by assumption) rfl (by kernel_rfl) (fun _ _ _ h => h) (fun V hV => by obtain ⟨⟨c0, c1, c2, c3⟩, c4, c5⟩ := HKA.out V hV; go_simp; try with_reducible rfl) ?_
    try simp only [Act.put, List.setIfInBounds_toArray, List.set_cons_zero, List.set_cons_succ, List.getElem_toArray, List.getElem_cons_succ, List.getElem_cons_zero]
    refine tk 3 (by assumption) rfl (by kernel_rfl) (fun _ _ _ h => h) (fun V hV => by go_simp; try with_reducible rfl) ?_
    try simp only [Act.put, List.setIfInBounds_toArray, List.set_cons_zero, List.set_cons_succ, List.getElem_toArray, List.getElem_cons_succ, List.getElem_cons_zero]
    refine tk 4 (by assumption) rfl (by kernel_rfl) (fun _ _ _ h => h) (fun V hV => by obtain ⟨⟨c0, c1, c2, c3⟩, c4, c5⟩ := HKA.out V hV; go_simp; try with_reducible rfl) ?_
    try simp only [Act.put, List.setIfInBounds_toArray, List.set_cons_zero, List.set_cons_succ, List.getElem_toArray, List.getElem_cons_succ, List.getElem_cons_zero]
    refine wpAnyH_ready (rs := [5]) (by kernel_rfl) (by simp) ?_
    refine AllReadyH.cons (o := _) rfl (fun K hK => ?_) AllReadyH.nil
    go_simp
    refine (HF.out _ B0.out).mono ?_
    rintro e V1 ⟨rfl, hb2⟩
    have B1 := Lib.hid (gNx B0.out hb2)
    clear hb2
    go_wp2_with fail
    refine hK.out _ _ B1.out (fun hH => ?_)
    clear hK K
    try simp only [Act.put, List.setIfInBounds_toArray, List.set_cons_zero, List.set_cons_succ, List.getElem_toArray, List.getElem_cons_succ, List.getElem_cons_zero]
    refine tk 6 (by assumption) rfl (by kernel_rfl) (fun _ _ _ h => h) (fun V hV => by go_simp; try with_reducible rfl) ?_
    try simp only [Act.put, List.setIfInBounds_toArray, List.set_cons_zero, List.set_cons_succ, List.getElem_toArray, List.getElem_cons_succ, List.getElem_cons_zero]
    refine tk 7 (by assumption) rfl (by kernel_rfl) (fun _ _ _ h => h) (fun V hV => by go_simp; try with_reducible rfl) ?_
    try simp only [Act.put, List.setIfInBounds_toArray, List.set_cons_zero, List.set_cons_succ, List.getElem_toArray, List.getElem_cons_succ, List.getElem_cons_zero]
    refine tk 8 (by assumption) rfl (by kernel_rfl) (fun _ _ _ h => h) (fun V hV => by go_simp; try with_reducible rfl) ?_
    try simp only [Act.put, List.setIfInBounds_toArray, List.set_cons_zero, List.set_cons_succ, List.getElem_toArray, List.getElem_cons_succ, List.getElem_cons_zero]
    refine tk 9 (by assumption) rfl (by kernel_rfl) (fun _ _ _ h => h) (fun V hV => by go_simp; try with_reducible rfl) ?_
    try simp only [Act.put, List.setIfInBounds_toArray, List.set_cons_zero, List.set_cons_succ, List.getElem_toArray, List.getElem_cons_succ, List.getElem_cons_zero]
    refine tk 10 (by assumption) rfl (by kernel_rfl) (fun _ _ _ h => h) (fun V hV => by go_simp; try with_reducible rfl) ?_
    try simp only [Act.put, List.setIfInBounds_toArray, List.set_cons_zero, List.set_cons_succ, List.getElem_toArray, List.getElem_cons_succ, List.getElem_cons_zero]
    refine wpAnyH_done (by kernel_rfl) ?_ _
    go_upto_region 4 with (fail)
    have B0 : Hid (Below W1.heap.size W1 V1.drew) := Lib.hid (Below.drew B1.out)
    refine wp_region_held_drew (S := fun V => V.cell? ⟨bg, 0, none⟩ = some (.slice (some ⟨g, 0, none⟩) G.nodes.length nc) ∧ V.cell? ⟨db, 0, none⟩ = some (.func (.func 71) #[] #[])) (by kernel_rfl) (by obtain ⟨⟨c0, c1, c2, c3⟩, c4, c5⟩ := HKA.out V1 B1.out; exact ⟨c4, HDB.out V1 B1.out⟩) (fun hH => ?_)
    generalize V1.drew = V0 at *
    have hpi := HPI.out
    have hp0 : (0 : Int) ≤ (pos : Int) := by omega
    refine tk 0 (by assumption) rfl (by kernel_rfl) (fun _ _ _ h => h) (fun V hV => by obtain ⟨x0, x1⟩ := hV; go_simp; try with_reducible rfl) ?_
    try simp only [Act.put, List.setIfInBounds_toArray, List.set_cons_zero, List.set_cons_succ, List.getElem_toArray, List.getElem_cons_succ, List.getElem_cons_zero]
    refine tk 1 (by assumption) rfl (by kernel_rfl) (fun _ _ _ h => h) (fun V hV => by go_simp; try with_reducible rfl) ?_
    try simp only [Act.put, List.setIfInBounds_toArray, List.set_cons_zero, List.set_cons_succ, List.getElem_toArray, List.getElem_cons_succ, List.getElem_cons_zero]
    refine tk 2 (by assumption) rfl (by kernel_rfl) (fun _ _ _ h => h) (fun V hV => by go_simp; try with_reducible rfl) ?_
    try simp only [Act.put, List.setIfInBounds_toArray, List.set_cons_zero, List.set_cons_succ, List.getElem_toArray, List.getElem_cons_succ, List.getElem_cons_zero]
    refine tk 3 (by assumption) rfl (by kernel_rfl) (fun _ _ _ h => h) (fun V hV => by go_simp; try with_reducible rfl) ?_
    try simp only [Act.put, List.setIfInBounds_toArray, List.set_cons_zero, List.set_cons_succ, List.getElem_toArray, List.getElem_cons_succ, List.getElem_cons_zero]
    refine tk 4 (by assumption) rfl (by kernel_rfl) (fun _ _ _ h => h) (fun V hV => by obtain ⟨x0, x1⟩ := hV; go_simp; try with_reducible rfl) ?_
    try simp only [Act.put, List.setIfInBounds_toArray, List.set_cons_zero, List.set_cons_succ, List.getElem_toArray, List.getElem_cons_succ, List.getElem_cons_zero]
    refine tk 5 (by assumption) rfl (by kernel_rfl) (fun _ _ _ h => h) (fun V hV => by go_simp; try with_reducible rfl) ?_
    try simp only [Act.put, List.setIfInBounds_toArray, List.set_cons_zero, List.set_cons_succ, List.getElem_toArray, List.getElem_cons_succ, List.getElem_cons_zero]
    refine tk 6 (by assumption) rfl (by kernel_rfl) (fun _ _ _ h => h) (fun V hV => by go_simp; try with_reducible rfl) ?_
    try simp only [Act.put, List.setIfInBounds_toArray, List.set_cons_zero, List.set_cons_succ, List.getElem_toArray, List.getElem_cons_succ, List.getElem_cons_zero]
    refine wpAnyH_ready (rs := [7]) (by kernel_rfl) (by simp) ?_
    refine AllReadyH.cons (o := _) rfl (fun K hK => ?_) AllReadyH.nil
    obtain ⟨u, k0⟩ := (HROW.out V0 B0.out).1
    have k1 := (HROW.out V0 B0.out).2
    go_simp
    refine (HDO.out _ _ _ _ k0 k1).mono ?_
    rintro e V2 ⟨rfl, rfl⟩
    go_wp2_with fail
    refine hK.out _ _ ⟨by rw [World.cell?_setCell_other _ _ _ _ (by intro e; simp only [Addr.mk.injEq] at e; exact HGNE.out.1 e.1)]; exact hH.1, by rw [World.cell?_setCell_other _ _ _ _ (by intro e; simp only [Addr.mk.injEq] at e; exact HGDB.out e.1)]; exact hH.2⟩ (fun hH2 => ?_)
    clear hK K
    try simp only [Act.put, List.setIfInBounds_toArray, List.set_cons_zero, List.set_cons_succ, List.getElem_toArray, List.getElem_cons_succ, List.getElem_cons_zero]
    refine wpAnyH_done (by kernel_rfl) ?_ _
    go_wp2_with fail
    go_ret
    rw [HE4.out]
    exact ⟨rfl, ⟨_, _, (HTURN.out V0 B0.out).1⟩, (HBW.out V0 B0.out).trans (HTURN.out V0 B0.out).2⟩
theorem gDo6_any (bk o : Nat) (x : Bool) (w : World) (hc : w.cell? ⟨bk, o + 1, none⟩ = some (.bool x)) (hf : w.frozen? ⟨bk, o + 1, none⟩ = false) :
    Calls Try.prog 72 #[.pointer (some ⟨bk, o, none⟩)] w fun e w' => e = .returned (.tuple #[]) ∧ w' = w.setCell ⟨bk, o + 1, none⟩ (.bool true) := by
  go_enter Try.func72, Try.ntmps72
  go_wp2_with fail
  refine bodyPost_end (results_none rfl _ _ _) rfl ?_
  exact ⟨rfl, rfl⟩
set_option maxHeartbeats 4000000 in
theorem gOnNode6_any (G : Gr) (kd a b : Int) (q : Nat) (base bg : Nat) (vn vl : Value) (w : World) (h : GrAt w base bg vn vl G) (hG : checkG G = 0) (hq : q < 2 ^ 64) (db : Nat) (hdb : w.cell? ⟨db, 0, none⟩ = some (.func (.func 72) #[] #[])) :
    Calls Try.prog 82 #[.pointer (some ⟨bg, 0, none⟩), .agg #[.int .i64 kd, .int .i64 a, .int .i64 b, .float .f64 q], .pointer (some ⟨db, 0, none⟩)] w fun e w' => e = .returned (.int .i64 (fndE (has G.nodes a))) ∧ (∃ vn' vl', GrAt w' base bg vn' vl' (aft (fndE (has G.nodes a)) ({ G with nodes := onNode (fun n => { n with up := true }) a G.nodes }) G)) ∧ Below base w w' := by
  have hdl : db < w.heap.size := World.block_lt_of_cell? w _ hdb
  obtain ⟨n1, n2, n3, n4⟩ := check_zero.1 hG
  obtain ⟨na, nc, rfl, hNI, hNA⟩ := ownN_in h.nodes
  obtain ⟨la, lc, rfl, hLI, hLA⟩ := ownL_in h.links
  obtain ⟨hm1, hm2⟩ := links_iff.1 n4
  obtain ⟨W1, hW1⟩ : ∃ W1, W1 = w.alloc (.cells #[.int .i64 kd, .int .i64 a, .int .i64 b, .float .f64 q] 33) := ⟨_, rfl⟩
  have hb1 : Below w.heap.size w W1 := by rw [hW1]; exact gAl _ _
  have hs1 : w.heap.size < W1.heap.size := by rw [hW1]; simp
  have hcb : W1.heap[w.heap.size]? = some (.cells #[.int .i64 kd, .int .i64 a, .int .i64 b, .float .f64 q] 33 (0, 0)) := by rw [hW1]; exact heap_alloc_new w _
  have hbs : base ≤ w.heap.size := Nat.le_of_lt (Nat.lt_of_le_of_lt h.hb h.lt)
  have HGA : Hid (∀ V, Below W1.heap.size W1 V → GrAt V base bg (.slice na G.nodes.length nc) (.slice la G.links.length lc) G) := Lib.hid (fun V hV => h.below (gNx hb1 hV))
  have HCB : Hid (∀ V, Below W1.heap.size W1 V → V.heap[w.heap.size]? = some (.cells #[.int .i64 kd, .int .i64 a, .int .i64 b, .float .f64 q] 33 (0, 0))) := Lib.hid (fun V hV => (hV.block _ hs1).trans hcb)
  have KA : ∀ V, Below W1.heap.size W1 V → (V.cell? ⟨w.heap.size, 0, none⟩ = some (.int .i64 kd) ∧ V.cell? ⟨w.heap.size, 1, none⟩ = some (.int .i64 a) ∧ V.cell? ⟨w.heap.size, 2, none⟩ = some (.int .i64 b) ∧ V.cell? ⟨w.heap.size, 3, none⟩ = some (.float .f64 q)) ∧ V.cell? ⟨bg, 0, none⟩ = some (.slice na G.nodes.length nc) ∧ V.cell? ⟨bg, 1, none⟩ = some (.slice la G.links.length lc) := fun V hV => by
    have hh := HCB.out V hV
    exact ⟨⟨by rw [cell_of_row V _ 0 _ _ (0, 0) hh]; rfl, by rw [cell_of_row V _ 1 _ _ (0, 0) hh]; rfl, by rw [cell_of_row V _ 2 _ _ (0, 0) hh]; rfl, by rw [cell_of_row V _ 3 _ _ (0, 0) hh]; rfl⟩, (HGA.out V hV).cells.1, (HGA.out V hV).cells.2.1⟩
  have HKA := Lib.hid KA
  obtain ⟨⟨c0, c1, c2, c3⟩, c4, c5⟩ := KA W1 (Below.refl _ _)
  have HB1 := Lib.hid hb1
  have HBW : Hid (∀ V, Below W1.heap.size W1 V → Below base w V) := Lib.hid (fun V hV => (gNx hb1 hV).mono hbs)
  have HN3 := Lib.hid n3
  have HM1 := Lib.hid hm1
  have HM2 := Lib.hid hm2
  have HNI : Hid (∀ V, Below W1.heap.size W1 V → NodesIn V V.heap.size G.nodes na) := Lib.hid (fun V hV => hNI.kept (fun i hi => (gNx hb1 hV).block i hi) (gNx hb1 hV).size)
  have HLI : Hid (∀ V, Below W1.heap.size W1 V → LinksIn V V.heap.size G.links la) := Lib.hid (fun V hV => hLI.kept (fun i hi => (gNx hb1 hV).block i hi) (gNx hb1 hV).size)
  have HNL : Hid (G.nodes.length ≤ 256 ∧ G.links.length ≤ 4096) := Lib.hid ⟨n1, n2⟩
  have HFIN : Hid (∀ V, Below W1.heap.size W1 V → (∃ vn' vl', GrAt V base bg vn' vl' G) ∧ Below base w V) := Lib.hid (fun V hV => ⟨⟨_, _, HGA.out V hV⟩, HBW.out V hV⟩)
  have HBG : Hid (bg < w.heap.size ∧ base ≤ bg) := Lib.hid ⟨h.lt, h.hb⟩
  have HQ := Lib.hid hq
  have HNA := Lib.hid hNA
  have HLA := Lib.hid hLA
  clear h hG hq n1 n2 n3 n4 hNI hNA hLI hLA hm1 hm2 hb1 hs1 hcb hbs KA
  have HF : Hid (∀ V, Below W1.heap.size W1 V → Calls Try.prog 52 #[.agg #[.slice na G.nodes.length nc, .slice la G.links.length lc], .int .i64 a] V fun e w' => e = .returned (.tuple #[.int .i64 (Nq.ahead G.nodes a : Int), .bool (has G.nodes a)]) ∧ Below V.heap.size V w') := Lib.hid (fun V hV => gFindNode_any G.nodes na nc la G.links.length lc a V (HNI.out V hV) HN3.out (by have := HNL.out; omega))
  have HDB : Hid (∀ V, Below W1.heap.size W1 V → V.cell? ⟨db, 0, none⟩ = some (.func (.func 72) #[] #[])) := Lib.hid (fun V hV => ((gNx HB1.out hV).cell (p := ⟨db, 0, none⟩) hdl).trans hdb)
  have HDO := Lib.hid gDo6_any
  clear hdb hdl
  cases hf : has G.nodes a with
  | false =>
    have HE1 : Hid (fndE false = 4) := Lib.hid rfl
    rw [hf] at HF
    clear hf HLA
    generalize Nq.ahead G.nodes a = pos at *
    go_enter Try.func82, Try.ntmps82
    go_upto_region 1 with (fail)
    rw [← hW1]
    clear hW1
    refine wp_region_held_drew (S := fun V => Below W1.heap.size W1 V) (by kernel_rfl) (Below.drew (Below.refl _ _)) (fun hH => ?_)
    have B0 : Hid (Below W1.heap.size W1 W1.drew) := Lib.hid (Below.drew (Below.refl _ _))
    generalize W1.drew = V0 at *
    refine tk 0 (by assumption) rfl (by kernel_rfl) (fun _ _ _ h => h) (fun V hV => by go_simp; try with_reducible rfl) ?_
    try simp only [Act.put, List.setIfInBounds_toArray, List.set_cons_zero, List.set_cons_succ, List.getElem_toArray, List.getElem_cons_succ, List.getElem_cons_zero]
    refine tk 1 (by assumption) rfl (by kernel_rfl) (fun _ _ _ h => h) (fun V hV => by go_simp; try with_reducible rfl) ?_
    try simp only [Act.put, List.setIfInBounds_toArray, List.set_cons_zero, List.set_cons_succ, List.getElem_toArray, List.getElem_cons_succ, List.getElem_cons_zero]
    refine tk 2 (by assumption) rfl (by kernel_rfl) (fun _ _ _ h => h) (fun V hV => by obtain ⟨⟨c0, c1, c2, c3⟩, c4, c5⟩ := HKA.out V hV; go_simp; try with_reducible rfl) ?_
    try simp only [Act.put, List.setIfInBounds_toArray, List.set_cons_zero, List.set_cons_succ, List.getElem_toArray, List.getElem_cons_succ, List.getElem_cons_zero]
    refine tk 3 (by assumption) rfl (by kernel_rfl) (fun _ _ _ h => h) (fun V hV => by go_simp; try with_reducible rfl) ?_
    try simp only [Act.put, List.setIfInBounds_toArray, List.set_cons_zero, List.set_cons_succ, List.getElem_toArray, List.getElem_cons_succ, List.getElem_cons_zero]
    refine tk 4 (by assumption) rfl (by kernel_rfl) (fun _ _ _ h => h) (fun V hV => by obtain ⟨⟨c0, c1, c2, c3⟩, c4, c5⟩ := HKA.out V hV; go_simp; try with_reducible rfl) ?_
    try simp only [Act.put, List.setIfInBounds_toArray, List.set_cons_zero, List.set_cons_succ, List.getElem_toArray, List.getElem_cons_succ, List.getElem_cons_zero]
    refine wpAnyH_ready (rs := [5]) (by kernel_rfl) (by simp) ?_
    refine AllReadyH.cons (o := _) rfl (fun K hK => ?_) AllReadyH.nil
    go_simp
    refine (HF.out _ B0.out).mono ?_
    rintro e V1 ⟨rfl, hb2⟩
    have B1 := Lib.hid (gNx B0.out hb2)
    clear hb2
    go_wp2_with fail
    refine hK.out _ _ B1.out (fun hH => ?_)
    clear hK K
    try simp only [Act.put, List.setIfInBounds_toArray, List.set_cons_zero, List.set_cons_succ, List.getElem_toArray, List.getElem_cons_succ, List.getElem_cons_zero]
    refine tk 6 (by assumption) rfl (by kernel_rfl) (fun _ _ _ h => h) (fun V hV => by go_simp; try with_reducible rfl) ?_
    try simp only [Act.put, List.setIfInBounds_toArray, List.set_cons_zero, List.set_cons_succ, List.getElem_toArray, List.getElem_cons_succ, List.getElem_cons_zero]
    refine tk 7 (by assumption) rfl (by kernel_rfl) (fun _ _ _ h => h) (fun V hV => by go_simp; try with_reducible rfl) ?_
    try simp only [Act.put, List.setIfInBounds_toArray, List.set_cons_zero, List.set_cons_succ, List.getElem_toArray, List.getElem_cons_succ, List.getElem_cons_zero]
    refine tk 8 (by assumption) rfl (by kernel_rfl) (fun _ _ _ h => h) (fun V hV => by go_simp; try with_reducible rfl) ?_
    try simp only [Act.put, List.setIfInBounds_toArray, List.set_cons_zero, List.set_cons_succ, List.getElem_toArray, List.getElem_cons_succ, List.getElem_cons_zero]
    refine tk 9 (by assumption) rfl (by kernel_rfl) (fun _ _ _ h => h) (fun V hV => by go_simp; try with_reducible rfl) ?_
    try simp only [Act.put, List.setIfInBounds_toArray, List.set_cons_zero, List.set_cons_succ, List.getElem_toArray, List.getElem_cons_succ, List.getElem_cons_zero]
    refine tk 10 (by assumption) rfl (by kernel_rfl) (fun _ _ _ h => h) (fun V hV => by go_simp; try with_reducible rfl) ?_
    try simp only [Act.put, List.setIfInBounds_toArray, List.set_cons_zero, List.set_cons_succ, List.getElem_toArray, List.getElem_cons_succ, List.getElem_cons_zero]
    refine wpAnyH_done (by kernel_rfl) ?_ _
    go_wp2_with fail
    go_ret
    rw [HE1.out]
    exact ⟨rfl, HFIN.out _ B1.out⟩
  | true =>
    have HE4 : Hid (fndE true = 0) := Lib.hid rfl
    rw [hf] at HF
    obtain ⟨hpl, hset⟩ := onNode_set HN3.out (fun n => { n with up := true }) hf
    have hln : 0 < G.nodes.length := by omega
    obtain ⟨g, rfl, hbg⟩ := HNA.out hln
    have HROW : Hid (∀ V, Below W1.heap.size W1 V → (∃ u, V.cell? ⟨g, Nq.ahead G.nodes a * 3 + 1, none⟩ = some (.bool u)) ∧ V.frozen? ⟨g, Nq.ahead G.nodes a * 3 + 1, none⟩ = false) := Lib.hid (fun V hV => by
      obtain ⟨g2, cap2, e2, hg2, -, hr, ht⟩ := (HGA.out V hV).nodes.range hln
      simp only [Value.slice.injEq, Option.some.injEq, Addr.mk.injEq, and_true, true_and] at e2
      obtain ⟨rfl, rfl⟩ := e2
      obtain ⟨-, r1, r2⟩ := ndRow_get G.nodes _ hpl
      exact ⟨⟨_, by have := hr _ _ r1; rw [Nat.zero_add] at this; exact this⟩, by have := (ht (Nq.ahead G.nodes a * 3 + 1) (by omega)).2; rw [Nat.zero_add] at this; exact this⟩)
    have HGNE : Hid (g ≠ bg ∧ g ≠ w.heap.size) := Lib.hid (by
      obtain ⟨-, -, cur, hcur⟩ := own_set (j := 0) (HGA.out W1 (Below.refl _ _)).nodes hln (.bool true)
      exact ⟨heap_ne hcur (HGA.out W1 (Below.refl _ _)).gb (by decide), heap_ne hcur (HCB.out W1 (Below.refl _ _)) (by decide)⟩)
    have HTURN : Hid (∀ V, Below W1.heap.size W1 V → GrAt (V.setCell ⟨g, Nq.ahead G.nodes a * 3 + 1, none⟩ (.bool true)) base bg (.slice (some ⟨g, 0, none⟩) G.nodes.length nc) (.slice la G.links.length lc) { G with nodes := onNode (fun n => { n with up := true }) a G.nodes } ∧ Below base V (V.setCell ⟨g, Nq.ahead G.nodes a * 3 + 1, none⟩ (.bool true))) := Lib.hid (fun V hV => by
      refine (HGA.out V hV).turnN _ _ hln (by simp [onNode]) ?_
      rw [hset]; exact ndRow_turn _ _ hpl _ 1 _ (by decide) rfl)
    have HPI : Hid ((Nq.ahead G.nodes a : Int) < (G.nodes.length : Int)) := Lib.hid (by omega)
    have HGDB : Hid (g ≠ db) := Lib.hid (by
      rintro rfl
      obtain ⟨g2, cap2, e2, hg2, -, hr, ht⟩ := (HGA.out W1 (Below.refl _ _)).nodes.range hln
      simp only [Value.slice.injEq, Option.some.injEq, Addr.mk.injEq, and_true, true_and] at e2
      obtain ⟨rfl, rfl⟩ := e2
      have h1 := hr _ _ (ndRow_get G.nodes 0 hln).1
      rw [HDB.out W1 (Below.refl _ _)] at h1
      cases h1)
    clear hset hpl hf hbg HNA
    generalize Nq.ahead G.nodes a = pos at *
    generalize { G with nodes := onNode (fun n => { n with up := true }) a G.nodes } = G2 at *
    go_enter Try.func82, Try.ntmps82
    go_upto_region 1 with (fail)
    rw [← hW1]
    clear hW1
    refine wp_region_held_drew (S := fun V => Below W1.heap.size W1 V) (by kernel_rfl) (Below.drew (Below.refl _ _)) (fun hH => ?_)
    have B0 : Hid (Below W1.heap.size W1 W1.drew) := Lib.hid (Below.drew (Below.refl _ _))
    generalize W1.drew = V0 at *
    refine tk 0 (by assumption) rfl (by kernel_rfl) (fun _ _ _ h => h) (fun V hV => by go_simp; try with_reducible rfl) ?_
    try simp only [Act.put, List.setIfInBounds_toArray, List.set_cons_zero, List.set_cons_succ, List.getElem_toArray, List.getElem_cons_succ, List.getElem_cons_zero]
    refine tk 1 (by assumption) rfl (by kernel_rfl) (fun _ _ _ h => h) (fun V hV => by go_simp; try with_reducible rfl) ?_
    try simp only [Act.put, List.setIfInBounds_toArray, List.set_cons_zero, List.set_cons_succ, List.getElem_toArray, List.getElem_cons_succ, List.getElem_cons_zero]
    refine tk 2 (by assumption) rfl (by kernel_rfl) (fun _ _ _ h => h) (fun V hV => by obtain ⟨⟨c0, c1, c2, c3⟩, c4, c5⟩ := HKA.out V hV; go_simp; try with_reducible rfl) ?_
    try simp only [Act.put, List.setIfInBounds_toArray, List.set_cons_zero, List.set_cons_succ, List.getElem_toArray, List.getElem_cons_succ, List.getElem_cons_zero]
    refine tk 3 (by assumption) rfl (by kernel_rfl) (fun _ _ _ h => h) (fun V hV => by go_simp; try with_reducible rfl) ?_
    try simp only [Act.put, List.setIfInBounds_toArray, List.set_cons_zero, List.set_cons_succ, List.getElem_toArray, List.getElem_cons_succ, List.getElem_cons_zero]
    refine tk 4 (by assumption) rfl (by kernel_rfl) (fun _ _ _ h => h) (fun V hV => by obtain ⟨⟨c0, c1, c2, c3⟩, c4, c5⟩ := HKA.out V hV; go_simp; try with_reducible rfl) ?_
    try simp only [Act.put, List.setIfInBounds_toArray, List.set_cons_zero, List.set_cons_succ, List.getElem_toArray, List.getElem_cons_succ, List.getElem_cons_zero]
    refine wpAnyH_ready (rs := [5]) (by kernel_rfl) (by simp) ?_
    refine AllReadyH.cons (o := _) rfl (fun K hK => ?_) AllReadyH.nil
    go_simp
    refine (HF.out _ B0.out).mono ?_
    rintro e V1 ⟨rfl, hb2⟩
    have B1 := Lib.hid (gNx B0.out hb2)
    clear hb2
    go_wp2_with fail
    refine hK.out _ _ B1.out (fun hH => ?_)
    clear hK K
    try simp only [Act.put, List.setIfInBounds_toArray, List.set_cons_zero, List.set_cons_succ, List.getElem_toArray, List.getElem_cons_succ, List.getElem_cons_zero]
    refine tk 6 (by assumption) rfl (by kernel_rfl) (fun _ _ _ h => h) (fun V hV => by go_simp; try with_reducible rfl) ?_
    try simp only [Act.put, List.setIfInBounds_toArray, List.set_cons_zero, List.set_cons_succ, List.getElem_toArray, List.getElem_cons_succ, List.getElem_cons_zero]
    refine tk 7 (by assumption) rfl (by kernel_rfl) (fun _ _ _ h => h) (fun V hV => by go_simp; try with_reducible rfl) ?_
    try simp only [Act.put, List.setIfInBounds_toArray, List.set_cons_zero, List.set_cons_succ, List.getElem_toArray, List.getElem_cons_succ, List.getElem_cons_zero]
    refine tk 8 (by assumption) rfl (by kernel_rfl) (fun _ _ _ h => h) (fun V hV => by go_simp; try with_reducible rfl) ?_
    try simp only [Act.put, List.setIfInBounds_toArray, List.set_cons_zero, List.set_cons_succ, List.getElem_toArray, List.getElem_cons_succ, List.getElem_cons_zero]
    refine tk 9 (by assumption) rfl (by kernel_rfl) (fun _ _ _ h => h) (fun V hV => by go_simp; try with_reducible rfl) ?_
    try simp only [Act.put, List.setIfInBounds_toArray, List.set_cons_zero, List.set_cons_succ, List.getElem_toArray, List.getElem_cons_succ, List.getElem_cons_zero]
    refine tk 10 (by assumption) rfl (by kernel_rfl) (fun _ _ _ h => h) (fun V hV => by go_simp; try with_reducible rfl) ?_
    try simp only [Act.put, List.setIfInBounds_toArray, List.set_cons_zero, List.set_cons_succ, List.getElem_toArray, List.getElem_cons_succ, List.getElem_cons_zero]
    refine wpAnyH_done (by kernel_rfl) ?_ _
    go_upto_region 4 with (fail)
    have B0 : Hid (Below W1.heap.size W1 V1.drew) := Lib.hid (Below.drew B1.out)
    refine wp_region_held_drew (S := fun V => V.cell? ⟨bg, 0, none⟩ = some (.slice (some ⟨g, 0, none⟩) G.nodes.length nc) ∧ V.cell? ⟨db, 0, none⟩ = some (.func (.func 72) #[] #[])) (by kernel_rfl) (by obtain ⟨⟨c0, c1, c2, c3⟩, c4, c5⟩ := HKA.out V1 B1.out; exact ⟨c4, HDB.out V1 B1.out⟩) (fun hH => ?_)
    generalize V1.drew = V0 at *
    have hpi := HPI.out
    have hp0 : (0 : Int) ≤ (pos : Int) := by omega
    refine tk 0 (by assumption) rfl (by kernel_rfl) (fun _ _ _ h => h) (fun V hV => by obtain ⟨x0, x1⟩ := hV; go_simp; try with_reducible rfl) ?_
    try simp only [Act.put, List.setIfInBounds_toArray, List.set_cons_zero, List.set_cons_succ, List.getElem_toArray, List.getElem_cons_succ, List.getElem_cons_zero]
    refine tk 1 (by assumption) rfl (by kernel_rfl) (fun _ _ _ h => h) (fun V hV => by go_simp; try with_reducible rfl) ?_
    try simp only [Act.put, List.setIfInBounds_toArray, List.set_cons_zero, List.set_cons_succ, List.getElem_toArray, List.getElem_cons_succ, List.getElem_cons_zero]
    refine tk 2 (by assumption) rfl (by kernel_rfl) (fun _ _ _ h => h) (fun V hV => by go_simp; try with_reducible rfl) ?_
    try simp only [Act.put, List.setIfInBounds_toArray, List.set_cons_zero, List.set_cons_succ, List.getElem_toArray, List.getElem_cons_succ, List.getElem_cons_zero]
    refine tk 3 (by assumption) rfl (by kernel_rfl) (fun _ _ _ h => h) (fun V hV => by go_simp; try with_reducible rfl) ?_
    try simp only [Act.put, List.setIfInBounds_toArray, List.set_cons_zero, List.set_cons_succ, List.getElem_toArray, List.getElem_cons_succ, List.getElem_cons_zero]
    refine tk 4 (by assumption) rfl (by kernel_rfl) (fun _ _ _ h => h) (fun V hV => by obtain ⟨x0, x1⟩ := hV; go_simp; try with_reducible rfl) ?_
    try simp only [Act.put, List.setIfInBounds_toArray, List.set_cons_zero, List.set_cons_succ, List.getElem_toArray, List.getElem_cons_succ, List.getElem_cons_zero]
    refine tk 5 (by assumption) rfl (by kernel_rfl) (fun _ _ _ h => h) (fun V hV => by go_simp; try with_reducible rfl) ?_
    try simp only [Act.put, List.setIfInBounds_toArray, List.set_cons_zero, List.set_cons_succ, List.getElem_toArray, List.getElem_cons_succ, List.getElem_cons_zero]
    refine tk 6 (by assumption) rfl (by kernel_rfl) (fun _ _ _ h => h) (fun V hV => by go_simp; try with_reducible rfl) ?_
    try simp only [Act.put, List.setIfInBounds_toArray, List.set_cons_zero, List.set_cons_succ, List.getElem_toArray, List.getElem_cons_succ, List.getElem_cons_zero]
    refine wpAnyH_ready (rs := [7]) (by kernel_rfl) (by simp) ?_
    refine AllReadyH.cons (o := _) rfl (fun K hK => ?_) AllReadyH.nil
    obtain ⟨u, k0⟩ := (HROW.out V0 B0.out).1
    have k1 := (HROW.out V0 B0.out).2
    go_simp
    refine (HDO.out _ _ _ _ k0 k1).mono ?_
    rintro e V2 ⟨rfl, rfl⟩
    go_wp2_with fail
    refine hK.out _ _ ⟨by rw [World.cell?_setCell_other _ _ _ _ (by intro e; simp only [Addr.mk.injEq] at e; exact HGNE.out.1 e.1)]; exact hH.1, by rw [World.cell?_setCell_other _ _ _ _ (by intro e; simp only [Addr.mk.injEq] at e; exact HGDB.out e.1)]; exact hH.2⟩ (fun hH2 => ?_)
    clear hK K
    try simp only [Act.put, List.setIfInBounds_toArray, List.set_cons_zero, List.set_cons_succ, List.getElem_toArray, List.getElem_cons_succ, List.getElem_cons_zero]
    refine wpAnyH_done (by kernel_rfl) ?_ _
    go_wp2_with fail
    go_ret
    rw [HE4.out]
    exact ⟨rfl, ⟨_, _, (HTURN.out V0 B0.out).1⟩, (HBW.out V0 B0.out).trans (HTURN.out V0 B0.out).2⟩
end Go.Proofs.Ytgjpgpjdealbeaa
