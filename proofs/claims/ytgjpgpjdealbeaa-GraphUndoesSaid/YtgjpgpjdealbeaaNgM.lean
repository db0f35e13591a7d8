/- Graphs: a router more. -/
import Derived.Test.YtgjpgpjdealbeaaNgL
namespace Go.Proofs.Ytgjpgpjdealbeaa
open Go.RowKit Go.Lib Go.Fq Go.Iq Go.Nq Go.Ow
set_option linter.unusedVariables false
set_option linter.unusedSimpArgs false
set_option maxRecDepth 100000

set_option maxHeartbeats 4000000 in
theorem gAddNode_any (G : Gr) (kd a b : Int) (q : Nat) (base bg : Nat) (vn vl : Value) (w : World) (h : GrAt w base bg vn vl G) (hG : checkG G = 0) (hq : q < 2 ^ 64) :
    Calls Try.prog 62 #[.pointer (some ⟨bg, 0, none⟩), .agg #[.int .i64 kd, .int .i64 a, .int .i64 b, .float .f64 q]] w fun e w' => e = .returned (.int .i64 (addE G a)) ∧ (∃ vn' vl', GrAt w' base bg vn' vl' (aft (addE G a) ({ G with nodes := putNode G.nodes ⟨a, true, false⟩ }) G)) ∧ Below base w w' := by
  obtain ⟨n1, n2, n3, n4⟩ := check_zero.1 hG
  obtain ⟨na, nc, rfl, hNI, hNA⟩ := ownN_in h.nodes
  obtain ⟨la, lc, rfl, hLI, hLA⟩ := ownL_in h.links
  obtain ⟨hm1, hm2⟩ := links_iff.1 n4
  obtain ⟨W1, hW1⟩ : ∃ W1, W1 = w.alloc (.cells #[.int .i64 kd, .int .i64 a, .int .i64 b, .float .f64 q] 33) := ⟨_, rfl⟩
  have hb1 : Below w.heap.size w W1 := by rw [hW1]; exact gAl _ _
  have hs1 : w.heap.size < W1.heap.size := by rw [hW1]; simp
  have hcb : W1.heap[w.heap.size]? = some (.cells #[.int .i64 kd, .int .i64 a, .int .i64 b, .float .f64 q] 33 (0, 0)) := by rw [hW1]; exact heap_alloc_new w _
  have hbs : base ≤ w.heap.size := Nat.le_of_lt (Nat.lt_of_le_of_lt h.hb h.lt)
  have HGA : Hid (∀ V, Below W1.heap.size W1 V → GrAt V base bg (.slice na G.nodes.length nc) (.slice la G.links.length lc) G) := Lib.hid (fun V hV => h.below (gNx hb1 hV))
  have HCB : Hid (∀ V, Below W1.heap.size W1 V → V.heap[w.heap.size]? = some (.cells #[.int .i64 kd, .int .i64 a, .int .i64 b, .float .f64 q] 33 (0, 0))) := Lib.hid (fun V hV => (hV.block _ hs1).trans hcb)
  have KA : ∀ V, Below W1.heap.size W1 V → (V.cell? ⟨w.heap.size, 0, none⟩ = some (.int .i64 kd) ∧ V.cell? ⟨w.heap.size, 1, none⟩ = some (.int .i64 a) ∧ V.cell? ⟨w.heap.size, 2, none⟩ = some (.int .i64 b) ∧ V.cell? ⟨w.heap.size, 3, none⟩ = some (.float .f64 q)) ∧ V.cell? ⟨bg, 0, none⟩ = some (.slice na G.nodes.length nc) ∧ V.cell? ⟨bg, 1, none⟩ = some (.slice la G.links.length lc) := fun V hV => by
    have hh := HCB.out V hV
    exact ⟨⟨by rw [cell_of_row V _ 0 _ _ (0, 0) hh]; rfl, by rw [cell_of_row V _ 1 _ _ (0, 0) hh]; rfl, by rw [cell_of_row V _ 2 _ _ (0, 0) hh]; rfl, by rw [cell_of_row V _ 3 _ _ (0, 0) hh]; rfl⟩, (HGA.out V hV).cells.1, (HGA.out V hV).cells.2.1⟩
  have HKA := Lib.hid KA
  obtain ⟨⟨c0, c1, c2, c3⟩, c4, c5⟩ := KA W1 (Below.refl _ _)
  have HB1 := Lib.hid hb1
  have HBW : Hid (∀ V, Below W1.heap.size W1 V → Below base w V) := Lib.hid (fun V hV => (gNx hb1 hV).mono hbs)
  have HN3 := Lib.hid n3
  have HM1 := Lib.hid hm1
  have HM2 := Lib.hid hm2
  have HNI : Hid (∀ V, Below W1.heap.size W1 V → NodesIn V V.heap.size G.nodes na) := Lib.hid (fun V hV => hNI.kept (fun i hi => (gNx hb1 hV).block i hi) (gNx hb1 hV).size)
  have HLI : Hid (∀ V, Below W1.heap.size W1 V → LinksIn V V.heap.size G.links la) := Lib.hid (fun V hV => hLI.kept (fun i hi => (gNx hb1 hV).block i hi) (gNx hb1 hV).size)
  have HNL : Hid (G.nodes.length ≤ 256 ∧ G.links.length ≤ 4096) := Lib.hid ⟨n1, n2⟩
  have HFIN : Hid (∀ V, Below W1.heap.size W1 V → (∃ vn' vl', GrAt V base bg vn' vl' G) ∧ Below base w V) := Lib.hid (fun V hV => ⟨⟨_, _, HGA.out V hV⟩, HBW.out V hV⟩)
  have HBG : Hid (bg < w.heap.size ∧ base ≤ bg) := Lib.hid ⟨h.lt, h.hb⟩
  have HQ := Lib.hid hq
  have HNA := Lib.hid hNA
  have HLA := Lib.hid hLA
  clear h hG hq n1 n2 n3 n4 hNI hNA hLI hLA hm1 hm2 hb1 hs1 hcb hbs KA
  have HEa : Hid (addE G a = if !idB a then 70 else if has G.nodes a then 72 else if 256 ≤ G.nodes.length then 2 else 0) := Lib.hid rfl
  have HF : Hid (∀ V, Below W1.heap.size W1 V → Calls Try.prog 52 #[.agg #[.slice na G.nodes.length nc, .slice la G.links.length lc], .int .i64 a] V fun e w' => e = .returned (.tuple #[.int .i64 (Nq.ahead G.nodes a : Int), .bool (has G.nodes a)]) ∧ Below V.heap.size V w') := Lib.hid (fun V hV => gFindNode_any G.nodes na nc la G.links.length lc a V (HNI.out V hV) HN3.out (by have := HNL.out; omega))
  have HAH := Lib.hid (ahead_spec HN3.out a).1
  have HBS : Hid (∀ V, Below W1.heap.size W1 V → base ≤ V.heap.size) := Lib.hid (fun V hV => Nat.le_trans HBG.out.2 (Nat.le_of_lt (HGA.out V hV).lt))
  have HNE : Hid (∀ V, Below W1.heap.size W1 V → 0 < G.nodes.length → ∀ n c, Value.slice na G.nodes.length nc ≠ .slice (some ⟨V.heap.size, 0, none⟩) n c) := Lib.hid (fun V hV h0 n c e => by
    obtain ⟨g, cap, e2, hg, -⟩ := (HGA.out V hV).nodes.range h0
    rw [e2] at e
    simp only [Value.slice.injEq, Option.some.injEq, Addr.mk.injEq] at e
    omega)
  have HINS := Lib.hid (fun (vb : Nat) (V : World) hown hbv hvb hne => gInsertNd_any G.nodes (Nq.ahead G.nodes a) ⟨a, true, false⟩ (.slice na G.nodes.length nc) base vb V hown hbv HAH.out (by have := HNL.out; omega) hvb hne)
  have HPL : Hid ((putNode G.nodes ⟨a, true, false⟩).length = G.nodes.length + 1) := Lib.hid (by have := HAH.out; simp [putNode]; omega)
  have HPE : Hid (putNode G.nodes ⟨a, true, false⟩ = G.nodes.take (Nq.ahead G.nodes a) ++ ⟨a, true, false⟩ :: G.nodes.drop (Nq.ahead G.nodes a)) := Lib.hid rfl
  rw [HPE.out] at HPL ⊢
  rcases idE_cases a with ⟨hi, hib⟩ | ⟨hi, hib⟩
  · have HE1 : Hid (has G.nodes a = true → addE G a = 72) := Lib.hid (fun e => by rw [HEa.out, hib, e]; rfl)
    have HE2 : Hid (has G.nodes a = false → (256 ≤ G.nodes.length → addE G a = 2) ∧ (¬ 256 ≤ G.nodes.length → addE G a = 0)) := Lib.hid (fun e => ⟨fun e2 => by rw [HEa.out, hib, e, if_pos e2]; rfl, fun e2 => by rw [HEa.out, hib, e, if_neg e2]; rfl⟩)
    clear HEa hib HPE
    generalize has G.nodes a = fnd at *
    generalize Nq.ahead G.nodes a = pos at *
    go_enter Try.func62, Try.ntmps62
    go_upto_region 1 with (fail)
    rw [← hW1]
    clear hW1
    go_upto_region 3 with (go_at_call 26; refine (checkId_any _ _).mono ?_; rintro e w2 ⟨rfl, rfl⟩; rw [hi])
    refine wp_region_held_drew (S := fun V => Below W1.heap.size W1 V) (by kernel_rfl) (Below.drew (Below.refl _ _)) (fun hH => ?_)
    have B0 : Hid (Below W1.heap.size W1 W1.drew) := Lib.hid (Below.drew (Below.refl _ _))
    generalize W1.drew = V0 at *
    refine tk 0 (by assumption) rfl (by kernel_rfl) (fun _ _ _ h => h) (fun V hV => by go_simp; try with_reducible rfl) ?_
    try simp only [Act.put, List.setIfInBounds_toArray, List.set_cons_zero, List.set_cons_succ, List.getElem_toArray, List.getElem_cons_succ, List.getElem_cons_zero]
    refine tk 1 (by assumption) rfl (by kernel_rfl) (fun _ _ _ h => h) (fun V hV => by go_simp; try with_reducible rfl) ?_
    try simp only [Act.put, List.setIfInBounds_toArray, List.set_cons_zero, List.set_cons_succ, List.getElem_toArray, List.getElem_cons_succ, List.getElem_cons_zero]
    refine tk 2 (by assumption) rfl (by kernel_rfl) (fun _ _ _ h => h) (fun V hV => by obtain ⟨⟨c0, c1, c2, c3⟩, c4, c5⟩ := HKA.out V hV; go_simp; try with_reducible rfl) ?_
    try simp only [Act.put, List.setIfInBounds_toArray, List.set_cons_zero, List.set_cons_succ, List.getElem_toArray, List.getElem_cons_succ, List.getElem_cons_zero]
    refine tk 3 (by assumption) rfl (by kernel_rfl) (fun _ _ _ h => h) (fun V hV => by go_simp; try with_reducible rfl) ?_
    try simp only [Act.put, List.setIfInBounds_toArray, List.set_cons_zero, List.set_cons_succ, List.getElem_toArray, List.getElem_cons_succ, List.getElem_cons_zero]
    refine tk 4 (by assumption) rfl (by kernel_rfl) (fun _ _ _ h => h) (fun V hV => by obtain ⟨⟨c0, c1, c2, c3⟩, c4, c5⟩ := HKA.out V hV; go_simp; try with_reducible rfl) ?_
    try simp only [Act.put, List.setIfInBounds_toArray, List.set_cons_zero, List.set_cons_succ, List.getElem_toArray, List.getElem_cons_succ, List.getElem_cons_zero]
    refine wpAnyH_ready (rs := [5]) (by kernel_rfl) (by simp) ?_
    refine AllReadyH.cons (o := _) rfl (fun K hK => ?_) AllReadyH.nil
    go_simp
    refine (HF.out _ B0.out).mono ?_
    rintro e V1 ⟨rfl, hb2⟩
    have B1 := Lib.hid (gNx B0.out hb2)
    clear hb2
    go_wp2_with fail
    refine hK.out _ _ B1.out (fun hH => ?_)
    clear hK K
    try simp only [Act.put, List.setIfInBounds_toArray, List.set_cons_zero, List.set_cons_succ, List.getElem_toArray, List.getElem_cons_succ, List.getElem_cons_zero]
    refine tk 6 (by assumption) rfl (by kernel_rfl) (fun _ _ _ h => h) (fun V hV => by go_simp; try with_reducible rfl) ?_
    try simp only [Act.put, List.setIfInBounds_toArray, List.set_cons_zero, List.set_cons_succ, List.getElem_toArray, List.getElem_cons_succ, List.getElem_cons_zero]
    refine tk 7 (by assumption) rfl (by kernel_rfl) (fun _ _ _ h => h) (fun V hV => by go_simp; try with_reducible rfl) ?_
    try simp only [Act.put, List.setIfInBounds_toArray, List.set_cons_zero, List.set_cons_succ, List.getElem_toArray, List.getElem_cons_succ, List.getElem_cons_zero]
    refine tk 8 (by assumption) rfl (by kernel_rfl) (fun _ _ _ h => h) (fun V hV => by go_simp; try with_reducible rfl) ?_
    try simp only [Act.put, List.setIfInBounds_toArray, List.set_cons_zero, List.set_cons_succ, List.getElem_toArray, List.getElem_cons_succ, List.getElem_cons_zero]
    refine tk 9 (by assumption) rfl (by kernel_rfl) (fun _ _ _ h => h) (fun V hV => by go_simp; try with_reducible rfl) ?_
    try simp only [Act.put, List.setIfInBounds_toArray, List.set_cons_zero, List.set_cons_succ, List.getElem_toArray, List.getElem_cons_succ, List.getElem_cons_zero]
    refine tk 10 (by assumption) rfl (by kernel_rfl) (fun _ _ _ h => h) (fun V hV => by go_simp; try with_reducible rfl) ?_
    try simp only [Act.put, List.setIfInBounds_toArray, List.set_cons_zero, List.set_cons_succ, List.getElem_toArray, List.getElem_cons_succ, List.getElem_cons_zero]
    refine wpAnyH_done (by kernel_rfl) ?_ _
    cases fnd with
    | true =>
      have HE := Lib.hid (HE1.out rfl)
      clear HE1 HE2
      go_wp2_with fail
      go_ret
      try rw [HE.out]
      exact ⟨rfl, HFIN.out _ B1.out⟩
    | false =>
      obtain ⟨⟨c0, c1, c2, c3⟩, c4, c5⟩ := HKA.out V1 B1.out
      by_cases hfu : 256 ≤ G.nodes.length
      · have hfi : (256 : Int) ≤ (G.nodes.length : Int) := by omega
        have HE := Lib.hid ((HE2.out rfl).1 hfu)
        clear HE1 HE2 hfu
        go_wp2_with fail
        go_ret
        try rw [HE.out]
        exact ⟨rfl, HFIN.out _ B1.out⟩
      · have hfi : ¬ (256 : Int) ≤ (G.nodes.length : Int) := by omega
        have HE := Lib.hid ((HE2.out rfl).2 hfu)
        clear HE1 HE2 hfu
        go_upto_region 8 with (fail)
        clear c0 c1 c2 c3 c4 c5
        refine wp_region_held_drew (S := fun V => V.cell? ⟨w.heap.size, 1, none⟩ = some (.int .i64 a)) (by kernel_rfl) (HKA.out V1 B1.out).1.2.1 (fun hH => ?_)
        have B0 : Hid (Below W1.heap.size W1 V1.drew) := Lib.hid (Below.drew B1.out)
        generalize V1.drew = V0 at *
        have HSV := Lib.hid (HKA.out V0 B0.out).1.2.1
        have HC4 := Lib.hid (HKA.out V0 B0.out).2.1
        refine tk 0 (by assumption) rfl (by kernel_rfl) (fun _ _ _ h => h) (fun V hV => by go_simp; try with_reducible rfl) ?_
        try simp only [Act.put, List.setIfInBounds_toArray, List.set_cons_zero, List.set_cons_succ, List.getElem_toArray, List.getElem_cons_succ, List.getElem_cons_zero]
        refine tk 1 (by assumption) rfl (by kernel_rfl) (fun _ _ _ h => h) (fun V hV => by go_simp; try with_reducible rfl) ?_
        try simp only [Act.put, List.setIfInBounds_toArray, List.set_cons_zero, List.set_cons_succ, List.getElem_toArray, List.getElem_cons_succ, List.getElem_cons_zero]
        refine tk 2 (by assumption) rfl (by kernel_rfl) (fun _ _ _ h => h) (fun V hV => by go_simp; try with_reducible rfl) ?_
        try simp only [Act.put, List.setIfInBounds_toArray, List.set_cons_zero, List.set_cons_succ, List.getElem_toArray, List.getElem_cons_succ, List.getElem_cons_zero]
        refine tk 3 (by assumption) rfl (by kernel_rfl) (fun _ _ _ h => h) (fun V hV => by go_simp; try with_reducible rfl) ?_
        try simp only [Act.put, List.setIfInBounds_toArray, List.set_cons_zero, List.set_cons_succ, List.getElem_toArray, List.getElem_cons_succ, List.getElem_cons_zero]
        refine tk 5 (by assumption) rfl (by kernel_rfl) (fun _ _ _ h => h) (fun V hV => by go_simp; try with_reducible rfl) ?_
        try simp only [Act.put, List.setIfInBounds_toArray, List.set_cons_zero, List.set_cons_succ, List.getElem_toArray, List.getElem_cons_succ, List.getElem_cons_zero]
        refine tk 6 (by assumption) rfl (by kernel_rfl) (fun _ _ _ h => h) (fun V hV => by go_simp; try with_reducible rfl) ?_
        try simp only [Act.put, List.setIfInBounds_toArray, List.set_cons_zero, List.set_cons_succ, List.getElem_toArray, List.getElem_cons_succ, List.getElem_cons_zero]
        refine tk 7 (by assumption) rfl (by kernel_rfl) (fun _ _ _ h => h) (fun V hV => by have hx : V.cell? ⟨w.heap.size, 1, none⟩ = some (.int .i64 a) := hV; go_simp; try with_reducible rfl) ?_
        try simp only [Act.put, List.setIfInBounds_toArray, List.set_cons_zero, List.set_cons_succ, List.getElem_toArray, List.getElem_cons_succ, List.getElem_cons_zero]
        refine tk 8 (by assumption) rfl (by kernel_rfl) (fun _ _ _ h => h) (fun V hV => by go_simp; try with_reducible rfl) ?_
        try simp only [Act.put, List.setIfInBounds_toArray, List.set_cons_zero, List.set_cons_succ, List.getElem_toArray, List.getElem_cons_succ, List.getElem_cons_zero]
        refine wpAnyH_ready (rs := [4, 9]) (by kernel_rfl) (by simp) ?_
        refine AllReadyH.cons (o := _) rfl (fun K hK => ?_) (AllReadyH.cons (o := _) rfl (fun K hK => ?_) (AllReadyH.nil))
        · have hx := HC4.out
          go_simp
          refine hK.out _ _ HSV.out (fun hH => ?_)
          clear hK K
          try simp only [Act.put, List.setIfInBounds_toArray, List.set_cons_zero, List.set_cons_succ, List.getElem_toArray, List.getElem_cons_succ, List.getElem_cons_zero]
          refine wpAnyH_ready (rs := [9]) (by kernel_rfl) (by simp) ?_
          refine AllReadyH.cons (o := _) rfl (fun K hK => ?_) AllReadyH.nil
          go_simp
          obtain ⟨V9, hV9⟩ : ∃ V9, V9 = V0.alloc (.cells #[.int .i64 a, .bool true, .bool false] 52) := ⟨_, rfl⟩
          rw [← hV9]
          have B9 : Hid (Below V0.heap.size V0 V9) := Lib.hid (by rw [hV9]; exact gAl _ _)
          have HV9 : Hid (V9.heap[V0.heap.size]? = some (.cells (ndC ⟨a, true, false⟩).toArray 52 (0, 0))) := Lib.hid (by rw [hV9]; exact heap_alloc_new V0 _)
          have HC4 := Lib.hid (HKA.out V9 (gNx B0.out B9.out)).2.1
          have HSV := Lib.hid (HKA.out V9 (gNx B0.out B9.out)).1.2.1
          clear hV9
          refine hK.out _ _ HSV.out (fun hH => ?_)
          clear hK K
          try simp only [Act.put, List.setIfInBounds_toArray, List.set_cons_zero, List.set_cons_succ, List.getElem_toArray, List.getElem_cons_succ, List.getElem_cons_zero]
          refine wpAnyH_ready (rs := [10]) (by kernel_rfl) (by simp) ?_
          refine AllReadyH.cons (o := _) rfl (fun K hK => ?_) AllReadyH.nil
          go_simp
          refine (HINS.out _ V9 (HGA.out V9 (gNx B0.out B9.out)).nodes (HBS.out V9 (gNx B0.out B9.out)) HV9.out (HNE.out V0 B0.out)).mono ?_
          rintro e V10 ⟨v2, rfl, ho, hw⟩
          obtain ⟨va, vc, rfl⟩ := ho.slice
          have HO := Lib.hid ho
          have HW := Lib.hid hw
          have HCX := Lib.hid (hw.kept (HCB.out V9 (gNx B0.out B9.out)) (by decide))
          have HGX := Lib.hid (hw.kept (HGA.out V9 (gNx B0.out B9.out)).gb (by decide))
          clear ho hw
          have HS10 : Hid (V10.cell? ⟨w.heap.size, 1, none⟩ = some (.int .i64 a)) := Lib.hid (by rw [cell_of_row V10 _ 1 _ _ (0, 0) HCX.out]; rfl)
          go_wp2_with fail
          refine hK.out _ _ HS10.out (fun hH => ?_)
          clear hK K
          try simp only [Act.put, List.setIfInBounds_toArray, List.set_cons_zero, List.set_cons_succ, List.getElem_toArray, List.getElem_cons_succ, List.getElem_cons_zero]
          refine tk 11 (by assumption) rfl (by kernel_rfl) (fun _ _ _ h => h) (fun V hV => by go_simp; try with_reducible rfl) ?_
          try simp only [Act.put, List.setIfInBounds_toArray, List.set_cons_zero, List.set_cons_succ, List.getElem_toArray, List.getElem_cons_succ, List.getElem_cons_zero]
          refine tk 12 (by assumption) rfl (by kernel_rfl) (fun _ _ _ h => h) (fun V hV => by go_simp; try with_reducible rfl) ?_
          try simp only [Act.put, List.setIfInBounds_toArray, List.set_cons_zero, List.set_cons_succ, List.getElem_toArray, List.getElem_cons_succ, List.getElem_cons_zero]
          refine wpAnyH_ready (rs := [13]) (by kernel_rfl) (by simp) ?_
          refine AllReadyH.cons (o := _) rfl (fun K hK => ?_) AllReadyH.nil
          have d0 : V10.cell? ⟨bg, 0, none⟩ = some (.slice na G.nodes.length nc) := by rw [cell_of_row V10 _ 0 _ _ (0, 0) HGX.out]; rfl
          have d1 : V10.frozen? ⟨bg, 0, none⟩ = false := frozen_of_row V10 _ _ _ _ HGX.out
          go_simp
          refine hK.out _ _ (by rw [World.cell?_setCell_other _ _ _ _ (by intro e; simp only [Addr.mk.injEq] at e; have := HBG.out; omega)]; exact HS10.out) (fun hH => ?_)
          clear hK K
          try simp only [Act.put, List.setIfInBounds_toArray, List.set_cons_zero, List.set_cons_succ, List.getElem_toArray, List.getElem_cons_succ, List.getElem_cons_zero]
          refine wpAnyH_done (by kernel_rfl) ?_ _
          go_wp2_with fail
          go_ret
          try rw [HE.out]
          refine ⟨rfl, ⟨.slice va (G.nodes.length + 1) vc, .slice la G.links.length lc, ?_⟩, ?_⟩
          · rw [aft_0]
            exact (HGA.out V9 (gNx B0.out B9.out)).putN HW.out (by rw [HPL.out]; exact HO.out)
          · exact (HBW.out V9 (gNx B0.out B9.out)).trans ((HW.out.below (HBS.out V9 (gNx B0.out B9.out))).setCell HBG.out.2 _)
        · go_simp
          obtain ⟨V9, hV9⟩ : ∃ V9, V9 = V0.alloc (.cells #[.int .i64 a, .bool true, .bool false] 52) := ⟨_, rfl⟩
          rw [← hV9]
          have B9 : Hid (Below V0.heap.size V0 V9) := Lib.hid (by rw [hV9]; exact gAl _ _)
          have HV9 : Hid (V9.heap[V0.heap.size]? = some (.cells (ndC ⟨a, true, false⟩).toArray 52 (0, 0))) := Lib.hid (by rw [hV9]; exact heap_alloc_new V0 _)
          have HC4 := Lib.hid (HKA.out V9 (gNx B0.out B9.out)).2.1
          have HSV := Lib.hid (HKA.out V9 (gNx B0.out B9.out)).1.2.1
          clear hV9
          refine hK.out _ _ HSV.out (fun hH => ?_)
          clear hK K
          try simp only [Act.put, List.setIfInBounds_toArray, List.set_cons_zero, List.set_cons_succ, List.getElem_toArray, List.getElem_cons_succ, List.getElem_cons_zero]
          refine wpAnyH_ready (rs := [4]) (by kernel_rfl) (by simp) ?_
          refine AllReadyH.cons (o := _) rfl (fun K hK => ?_) AllReadyH.nil
          have hx := HC4.out
          go_simp
          refine hK.out _ _ HSV.out (fun hH => ?_)
          clear hK K
          try simp only [Act.put, List.setIfInBounds_toArray, List.set_cons_zero, List.set_cons_succ, List.getElem_toArray, List.getElem_cons_succ, List.getElem_cons_zero]
          refine wpAnyH_ready (rs := [10]) (by kernel_rfl) (by simp) ?_
          refine AllReadyH.cons (o := _) rfl (fun K hK => ?_) AllReadyH.nil
          go_simp
          refine (HINS.out _ V9 (HGA.out V9 (gNx B0.out B9.out)).nodes (HBS.out V9 (gNx B0.out B9.out)) HV9.out (HNE.out V0 B0.out)).mono ?_
          rintro e V10 ⟨v2, rfl, ho, hw⟩
          obtain ⟨va, vc, rfl⟩ := ho.slice
          have HO := Lib.hid ho
          have HW := Lib.hid hw
          have HCX := Lib.hid (hw.kept (HCB.out V9 (gNx B0.out B9.out)) (by decide))
          have HGX := Lib.hid (hw.kept (HGA.out V9 (gNx B0.out B9.out)).gb (by decide))
          clear ho hw
          have HS10 : Hid (V10.cell? ⟨w.heap.size, 1, none⟩ = some (.int .i64 a)) := Lib.hid (by rw [cell_of_row V10 _ 1 _ _ (0, 0) HCX.out]; rfl)
          go_wp2_with fail
          refine hK.out _ _ HS10.out (fun hH => ?_)
          clear hK K
          try simp only [Act.put, List.setIfInBounds_toArray, List.set_cons_zero, List.set_cons_succ, List.getElem_toArray, List.getElem_cons_succ, List.getElem_cons_zero]
          refine tk 11 (by assumption) rfl (by kernel_rfl) (fun _ _ _ h => h) (fun V hV => by go_simp; try with_reducible rfl) ?_
          try simp only [Act.put, List.setIfInBounds_toArray, List.set_cons_zero, List.set_cons_succ, List.getElem_toArray, List.getElem_cons_succ, List.getElem_cons_zero]
          refine tk 12 (by assumption) rfl (by kernel_rfl) (fun _ _ _ h => h) (fun V hV => by go_simp; try with_reducible rfl) ?_
          try simp only [Act.put, List.setIfInBounds_toArray, List.set_cons_zero, List.set_cons_succ, List.getElem_toArray, List.getElem_cons_succ, List.getElem_cons_zero]
          refine wpAnyH_ready (rs := [13]) (by kernel_rfl) (by simp) ?_
          refine AllReadyH.cons (o := _) rfl (fun K hK => ?_) AllReadyH.nil
          have d0 : V10.cell? ⟨bg, 0, none⟩ = some (.slice na G.nodes.length nc) := by rw [cell_of_row V10 _ 0 _ _ (0, 0) HGX.out]; rfl
          have d1 : V10.frozen? ⟨bg, 0, none⟩ = false := frozen_of_row V10 _ _ _ _ HGX.out
          go_simp
          refine hK.out _ _ (by rw [World.cell?_setCell_other _ _ _ _ (by intro e; simp only [Addr.mk.injEq] at e; have := HBG.out; omega)]; exact HS10.out) (fun hH => ?_)
          clear hK K
          try simp only [Act.put, List.setIfInBounds_toArray, List.set_cons_zero, List.set_cons_succ, List.getElem_toArray, List.getElem_cons_succ, List.getElem_cons_zero]
          refine wpAnyH_done (by kernel_rfl) ?_ _
          go_wp2_with fail
          go_ret
          try rw [HE.out]
          refine ⟨rfl, ⟨.slice va (G.nodes.length + 1) vc, .slice la G.links.length lc, ?_⟩, ?_⟩
          · rw [aft_0]
            exact (HGA.out V9 (gNx B0.out B9.out)).putN HW.out (by rw [HPL.out]; exact HO.out)
          · exact (HBW.out V9 (gNx B0.out B9.out)).trans ((HW.out.below (HBS.out V9 (gNx B0.out B9.out))).setCell HBG.out.2 _)
  · have HE : Hid (addE G a = 70) := Lib.hid (by rw [HEa.out, hib]; rfl)
    rw [HE.out]
    clear HE HEa hib
    go_enter Try.func62, Try.ntmps62
    go_upto_region 1 with (fail)
    rw [← hW1]
    clear hW1
    go_wp2_with (go_at_call 26; refine (checkId_any _ _).mono ?_; rintro e w2 ⟨rfl, rfl⟩; rw [hi])
    go_ret
    exact ⟨rfl, HFIN.out _ (Below.refl _ _)⟩
end Go.Proofs.Ytgjpgpjdealbeaa
