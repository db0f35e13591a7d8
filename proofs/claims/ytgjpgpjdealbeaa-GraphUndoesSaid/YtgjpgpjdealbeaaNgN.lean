/- Graphs: a link more. -/
import Derived.Test.YtgjpgpjdealbeaaNgM
namespace Go.Proofs.Ytgjpgpjdealbeaa
open Go.RowKit Go.Lib Go.Fq Go.Iq Go.Nq Go.Ow
set_option linter.unusedVariables false
set_option linter.unusedSimpArgs false
set_option maxRecDepth 100000

set_option maxHeartbeats 8000000 in
theorem gAddLink_any (G : Gr) (kd a b : Int) (q : Nat) (base bg : Nat) (vn vl : Value) (w : World) (h : GrAt w base bg vn vl G) (hG : checkG G = 0) (hq : q < 2 ^ 64) :
    Calls Try.prog 63 #[.pointer (some ⟨bg, 0, none⟩), .agg #[.int .i64 kd, .int .i64 a, .int .i64 b, .float .f64 q]] w fun e w' => e = .returned (.int .i64 (linkE G a b q)) ∧ (∃ vn' vl', GrAt w' base bg vn' vl' (aft (linkE G a b q) ({ G with links := putLink G.links ⟨min a b, max a b, q, true⟩ }) G)) ∧ Below base w w' := by
  obtain ⟨n1, n2, n3, n4⟩ := check_zero.1 hG
  obtain ⟨na, nc, rfl, hNI, hNA⟩ := ownN_in h.nodes
  obtain ⟨la, lc, rfl, hLI, hLA⟩ := ownL_in h.links
  obtain ⟨hm1, hm2⟩ := links_iff.1 n4
  obtain ⟨W1, hW1⟩ : ∃ W1, W1 = w.alloc (.cells #[.int .i64 kd, .int .i64 a, .int .i64 b, .float .f64 q] 33) := ⟨_, rfl⟩
  have hb1 : Below w.heap.size w W1 := by rw [hW1]; exact gAl _ _
  have hs1 : w.heap.size < W1.heap.size := by rw [hW1]; simp
  have hcb : W1.heap[w.heap.size]? = some (.cells #[.int .i64 kd, .int .i64 a, .int .i64 b, .float .f64 q] 33 (0, 0)) := by rw [hW1]; exact heap_alloc_new w _
  have hbs : base ≤ w.heap.size := Nat.le_of_lt (Nat.lt_of_le_of_lt h.hb h.lt)
  have HGA : Hid (∀ V, Below W1.heap.size W1 V → GrAt V base bg (.slice na G.nodes.length nc) (.slice la G.links.length lc) G) := Lib.hid (fun V hV => h.below (gNx hb1 hV))
  have HCB : Hid (∀ V, Below W1.heap.size W1 V → V.heap[w.heap.size]? = some (.cells #[.int .i64 kd, .int .i64 a, .int .i64 b, .float .f64 q] 33 (0, 0))) := Lib.hid (fun V hV => (hV.block _ hs1).trans hcb)
  have KA : ∀ V, Below W1.heap.size W1 V → (V.cell? ⟨w.heap.size, 0, none⟩ = some (.int .i64 kd) ∧ V.cell? ⟨w.heap.size, 1, none⟩ = some (.int .i64 a) ∧ V.cell? ⟨w.heap.size, 2, none⟩ = some (.int .i64 b) ∧ V.cell? ⟨w.heap.size, 3, none⟩ = some (.float .f64 q)) ∧ V.cell? ⟨bg, 0, none⟩ = some (.slice na G.nodes.length nc) ∧ V.cell? ⟨bg, 1, none⟩ = some (.slice la G.links.length lc) := fun V hV => by
    have hh := HCB.out V hV
    exact ⟨⟨by rw [cell_of_row V _ 0 _ _ (0, 0) hh]; rfl, by rw [cell_of_row V _ 1 _ _ (0, 0) hh]; rfl, by rw [cell_of_row V _ 2 _ _ (0, 0) hh]; rfl, by rw [cell_of_row V _ 3 _ _ (0, 0) hh]; rfl⟩, (HGA.out V hV).cells.1, (HGA.out V hV).cells.2.1⟩
  have HKA := Lib.hid KA
  obtain ⟨⟨c0, c1, c2, c3⟩, c4, c5⟩ := KA W1 (Below.refl _ _)
  have HB1 := Lib.hid hb1
  have HBW : Hid (∀ V, Below W1.heap.size W1 V → Below base w V) := Lib.hid (fun V hV => (gNx hb1 hV).mono hbs)
  have HN3 := Lib.hid n3
  have HM1 := Lib.hid hm1
  have HM2 := Lib.hid hm2
  have HNI : Hid (∀ V, Below W1.heap.size W1 V → NodesIn V V.heap.size G.nodes na) := Lib.hid (fun V hV => hNI.kept (fun i hi => (gNx hb1 hV).block i hi) (gNx hb1 hV).size)
  have HLI : Hid (∀ V, Below W1.heap.size W1 V → LinksIn V V.heap.size G.links la) := Lib.hid (fun V hV => hLI.kept (fun i hi => (gNx hb1 hV).block i hi) (gNx hb1 hV).size)
  have HNL : Hid (G.nodes.length ≤ 256 ∧ G.links.length ≤ 4096) := Lib.hid ⟨n1, n2⟩
  have HFIN : Hid (∀ V, Below W1.heap.size W1 V → (∃ vn' vl', GrAt V base bg vn' vl' G) ∧ Below base w V) := Lib.hid (fun V hV => ⟨⟨_, _, HGA.out V hV⟩, HBW.out V hV⟩)
  have HBG : Hid (bg < w.heap.size ∧ base ≤ bg) := Lib.hid ⟨h.lt, h.hb⟩
  have HQ := Lib.hid hq
  have HNA := Lib.hid hNA
  have HLA := Lib.hid hLA
  clear h hG hq n1 n2 n3 n4 hNI hNA hLI hLA hm1 hm2 hb1 hs1 hcb hbs KA
  have HIT : Hid (∀ x V, Below W1.heap.size W1 V → Calls Try.prog 43 #[.agg #[.slice na G.nodes.length nc, .slice la G.links.length lc], .int .i64 x] V fun e w' => e = .returned (.bool (has G.nodes x)) ∧ Below V.heap.size V w') := Lib.hid (fun x V hV => gIsThere_any G.nodes na nc la G.links.length lc x V (HNI.out V hV) HN3.out (by have := HNL.out; omega))
  have HFL : Hid (∀ V, Below W1.heap.size W1 V → Calls Try.prog 78 #[.agg #[.slice na G.nodes.length nc, .slice la G.links.length lc], .int .i64 a, .int .i64 b] V fun e w' => e = .returned (.tuple #[.int .i64 (aheadL G.links ⟨min a b, max a b, 0, false⟩ : Int), .bool (hasL G.links a b)]) ∧ Below V.heap.size V w') := Lib.hid (fun V hV => gFindLink_any G.links la lc na G.nodes.length nc a b V (HLI.out V hV) HM2.out (by have := HNL.out; omega))
  have HBS : Hid (∀ V, Below W1.heap.size W1 V → base ≤ V.heap.size) := Lib.hid (fun V hV => Nat.le_trans HBG.out.2 (Nat.le_of_lt (HGA.out V hV).lt))
  have hst := g_storeL
  have HEa : Hid (linkE G a b q = if !(has G.nodes a && has G.nodes b) then 70 else if a = b then 71 else if hasL G.links a b then 72 else if weightF q ≠ 0 then weightF q else if 4096 ≤ G.links.length then 2 else 0) := Lib.hid rfl
  have HAH := Lib.hid (aheadL_spec HM2.out ⟨min a b, max a b, 0, false⟩).1
  have HNE : Hid (∀ V, Below W1.heap.size W1 V → 0 < G.links.length → ∀ n c, Value.slice la G.links.length lc ≠ .slice (some ⟨V.heap.size, 0, none⟩) n c) := Lib.hid (fun V hV h0 n c e => by
    obtain ⟨g, cap, e2, hg, -⟩ := (HGA.out V hV).links.range h0
    rw [e2] at e
    simp only [Value.slice.injEq, Option.some.injEq, Addr.mk.injEq] at e
    omega)
  have HINS := Lib.hid (fun (vb : Nat) (V : World) hown hbv hvb hne => gInsertLk_any G.links (aheadL G.links ⟨min a b, max a b, 0, false⟩) ⟨min a b, max a b, q, true⟩ (.slice la G.links.length lc) base vb V hown hbv HAH.out (by have := HNL.out; omega) hvb hne)
  have HLO := Lib.hid (fun V => gLinkOf_any a b V)
  have HWT := Lib.hid (fun V => weight_any q V HQ.out)
  have HPE : Hid (putLink G.links ⟨min a b, max a b, q, true⟩ = G.links.take (aheadL G.links ⟨min a b, max a b, 0, false⟩) ++ ⟨min a b, max a b, q, true⟩ :: G.links.drop (aheadL G.links ⟨min a b, max a b, 0, false⟩)) := Lib.hid rfl
  have HPL : Hid ((putLink G.links ⟨min a b, max a b, q, true⟩).length = G.links.length + 1) := Lib.hid (by rw [HPE.out]; have := HAH.out; simp; omega)
  have HPW : Hid (∀ y ∈ putLink G.links ⟨min a b, max a b, q, true⟩, y.w < 2 ^ 64) := Lib.hid (by
    intro y hy
    rw [HPE.out] at hy
    rcases put_mem.1 hy with rfl | hy
    · exact HQ.out
    · exact (HGA.out W1 (Below.refl _ _)).wts y hy)
  rw [HPE.out] at HPL HPW ⊢
  have HE2 : Hid (has G.nodes a = true → has G.nodes b = true → a = b → linkE G a b q = 71) := Lib.hid (fun e1 e2 e3 => by rw [HEa.out, e1, e2, if_pos e3]; rfl)
  have HE3 : Hid (has G.nodes a = true → has G.nodes b = true → ¬ a = b → hasL G.links a b = true → linkE G a b q = 72) := Lib.hid (fun e1 e2 e3 e4 => by rw [HEa.out, e1, e2, if_neg e3, e4]; rfl)
  have HE4 : Hid (has G.nodes a = true → has G.nodes b = true → ¬ a = b → hasL G.links a b = false → ¬ weightF q = 0 → linkE G a b q = weightF q) := Lib.hid (fun e1 e2 e3 e4 e5 => by rw [HEa.out, e1, e2, if_neg e3, e4, if_pos e5]; rfl)
  have HE5 : Hid (has G.nodes a = true → has G.nodes b = true → ¬ a = b → hasL G.links a b = false → weightF q = 0 → 4096 ≤ G.links.length → linkE G a b q = 2) := Lib.hid (fun e1 e2 e3 e4 e5 e6 => by rw [HEa.out, e1, e2, if_neg (by decide), if_neg e3, e4, if_neg (by decide), if_neg (fun h => h e5), if_pos e6])
  have HE6 : Hid (has G.nodes a = true → has G.nodes b = true → ¬ a = b → hasL G.links a b = false → weightF q = 0 → ¬ 4096 ≤ G.links.length → linkE G a b q = 0) := Lib.hid (fun e1 e2 e3 e4 e5 e6 => by rw [HEa.out, e1, e2, if_neg (by decide), if_neg e3, e4, if_neg (by decide), if_neg (fun h => h e5), if_neg e6])
  have HE1 : Hid ((has G.nodes a && has G.nodes b) = false → linkE G a b q = 70) := Lib.hid (fun e => by rw [HEa.out, e]; rfl)
  clear HEa HPE
  have HITa := Lib.hid (HIT.out a)
  have HITb := Lib.hid (HIT.out b)
  clear HIT
  generalize has G.nodes a = ha at *
  generalize has G.nodes b = hb at *
  generalize hasL G.links a b = fnd at *
  generalize aheadL G.links ⟨min a b, max a b, 0, false⟩ = pos at *
  generalize min a b = mn at *
  generalize max a b = mx at *
  cases ha with
  | false =>
    replace HE1 := Lib.hid (HE1.out rfl)
    clear HE2 HE3 HE4 HE5 HE6
    go_enter Try.func63, Try.ntmps63
    go_upto_region 1 with (fail)
    rw [← hW1]
    clear hW1
    refine wp_region_held_drew (S := fun V => Below W1.heap.size W1 V) (by kernel_rfl) (Below.drew (Below.refl _ _)) (fun hH => ?_)
    have B0 : Hid (Below W1.heap.size W1 W1.drew) := Lib.hid (Below.drew (Below.refl _ _))
    generalize W1.drew = V0 at *
    refine tk 0 (by assumption) rfl (by kernel_rfl) (fun _ _ _ h => h) (fun V hV => by go_simp; try with_reducible rfl) ?_
    try simp only [Act.put, List.setIfInBounds_toArray, List.set_cons_zero, List.set_cons_succ, List.getElem_toArray, List.getElem_cons_succ, List.getElem_cons_zero]
    refine tk 1 (by assumption) rfl (by kernel_rfl) (fun _ _ _ h => h) (fun V hV => by go_simp; try with_reducible rfl) ?_
    try simp only [Act.put, List.setIfInBounds_toArray, List.set_cons_zero, List.set_cons_succ, List.getElem_toArray, List.getElem_cons_succ, List.getElem_cons_zero]
    refine tk 2 (by assumption) rfl (by kernel_rfl) (fun _ _ _ h => h) (fun V hV => by obtain ⟨⟨c0, c1, c2, c3⟩, c4, c5⟩ := HKA.out V hV; go_simp; try with_reducible rfl) ?_
    try simp only [Act.put, List.setIfInBounds_toArray, List.set_cons_zero, List.set_cons_succ, List.getElem_toArray, List.getElem_cons_succ, List.getElem_cons_zero]
    refine tk 3 (by assumption) rfl (by kernel_rfl) (fun _ _ _ h => h) (fun V hV => by go_simp; try with_reducible rfl) ?_
    try simp only [Act.put, List.setIfInBounds_toArray, List.set_cons_zero, List.set_cons_succ, List.getElem_toArray, List.getElem_cons_succ, List.getElem_cons_zero]
    refine tk 4 (by assumption) rfl (by kernel_rfl) (fun _ _ _ h => h) (fun V hV => by obtain ⟨⟨c0, c1, c2, c3⟩, c4, c5⟩ := HKA.out V hV; go_simp; try with_reducible rfl) ?_
    try simp only [Act.put, List.setIfInBounds_toArray, List.set_cons_zero, List.set_cons_succ, List.getElem_toArray, List.getElem_cons_succ, List.getElem_cons_zero]
    refine wpAnyH_ready (rs := [5]) (by kernel_rfl) (by simp) ?_
    refine AllReadyH.cons (o := _) rfl (fun K hK => ?_) AllReadyH.nil
    go_simp
    refine (HITa.out _ B0.out).mono ?_
    rintro e V1 ⟨rfl, hb2⟩
    have B1 := Lib.hid (gNx B0.out hb2)
    clear hb2
    go_wp2_with fail
    refine hK.out _ _ B1.out (fun hH => ?_)
    clear hK K
    try simp only [Act.put, List.setIfInBounds_toArray, List.set_cons_zero, List.set_cons_succ, List.getElem_toArray, List.getElem_cons_succ, List.getElem_cons_zero]
    refine tk 6 (by assumption) rfl (by kernel_rfl) (fun _ _ _ h => h) (fun V hV => by go_simp; try with_reducible rfl) ?_
    try simp only [Act.put, List.setIfInBounds_toArray, List.set_cons_zero, List.set_cons_succ, List.getElem_toArray, List.getElem_cons_succ, List.getElem_cons_zero]
    refine tk 7 (by assumption) rfl (by kernel_rfl) (fun _ _ _ h => h) (fun V hV => by go_simp; try with_reducible rfl) ?_
    try simp only [Act.put, List.setIfInBounds_toArray, List.set_cons_zero, List.set_cons_succ, List.getElem_toArray, List.getElem_cons_succ, List.getElem_cons_zero]
    refine wpAnyH_take (i := 8) (oi := _) (v := undef) rfl (by kernel_rfl) (by kernel_rfl) (by kernel_rfl) (fun _ _ _ h => h) (Or.inr ⟨by kernel_rfl, rfl⟩) (by assumption) ?_
    try simp only [Act.put, List.setIfInBounds_toArray, List.set_cons_zero, List.set_cons_succ, List.getElem_toArray, List.getElem_cons_succ, List.getElem_cons_zero]
    refine wpAnyH_take (i := 9) (oi := _) (v := undef) rfl (by kernel_rfl) (by kernel_rfl) (by kernel_rfl) (fun _ _ _ h => h) (Or.inr ⟨by kernel_rfl, rfl⟩) (by assumption) ?_
    try simp only [Act.put, List.setIfInBounds_toArray, List.set_cons_zero, List.set_cons_succ, List.getElem_toArray, List.getElem_cons_succ, List.getElem_cons_zero]
    refine wpAnyH_take (i := 10) (oi := _) (v := undef) rfl (by kernel_rfl) (by kernel_rfl) (by kernel_rfl) (fun _ _ _ h => h) (Or.inr ⟨by kernel_rfl, rfl⟩) (by assumption) ?_
    try simp only [Act.put, List.setIfInBounds_toArray, List.set_cons_zero, List.set_cons_succ, List.getElem_toArray, List.getElem_cons_succ, List.getElem_cons_zero]
    refine wpAnyH_take (i := 11) (oi := _) (v := undef) rfl (by kernel_rfl) (by kernel_rfl) (by kernel_rfl) (fun _ _ _ h => h) (Or.inr ⟨by kernel_rfl, rfl⟩) (by assumption) ?_
    try simp only [Act.put, List.setIfInBounds_toArray, List.set_cons_zero, List.set_cons_succ, List.getElem_toArray, List.getElem_cons_succ, List.getElem_cons_zero]
    refine wpAnyH_take (i := 12) (oi := _) (v := undef) rfl (by kernel_rfl) (by kernel_rfl) (by kernel_rfl) (fun _ _ _ h => h) (Or.inr ⟨by kernel_rfl, rfl⟩) (by assumption) ?_
    try simp only [Act.put, List.setIfInBounds_toArray, List.set_cons_zero, List.set_cons_succ, List.getElem_toArray, List.getElem_cons_succ, List.getElem_cons_zero]
    refine wpAnyH_take (i := 13) (oi := _) (v := undef) rfl (by kernel_rfl) (by kernel_rfl) (by kernel_rfl) (fun _ _ _ h => h) (Or.inr ⟨by kernel_rfl, rfl⟩) (by assumption) ?_
    try simp only [Act.put, List.setIfInBounds_toArray, List.set_cons_zero, List.set_cons_succ, List.getElem_toArray, List.getElem_cons_succ, List.getElem_cons_zero]
    refine wpAnyH_take (i := 14) (oi := _) (v := undef) rfl (by kernel_rfl) (by kernel_rfl) (by kernel_rfl) (fun _ _ _ h => h) (Or.inr ⟨by kernel_rfl, rfl⟩) (by assumption) ?_
    try simp only [Act.put, List.setIfInBounds_toArray, List.set_cons_zero, List.set_cons_succ, List.getElem_toArray, List.getElem_cons_succ, List.getElem_cons_zero]
    refine tk 15 (by assumption) rfl (by kernel_rfl) (fun _ _ _ h => h) (fun V hV => by go_simp; try with_reducible rfl) ?_
    try simp only [Act.put, List.setIfInBounds_toArray, List.set_cons_zero, List.set_cons_succ, List.getElem_toArray, List.getElem_cons_succ, List.getElem_cons_zero]
    refine tk 16 (by assumption) rfl (by kernel_rfl) (fun _ _ _ h => h) (fun V hV => by go_simp; try with_reducible rfl) ?_
    try simp only [Act.put, List.setIfInBounds_toArray, List.set_cons_zero, List.set_cons_succ, List.getElem_toArray, List.getElem_cons_succ, List.getElem_cons_zero]
    refine wpAnyH_done (by kernel_rfl) ?_ _
    go_wp2_with fail
    go_ret
    rw [HE1.out]
    exact ⟨rfl, HFIN.out _ B1.out⟩
  | true =>
    cases hb with
    | false =>
      replace HE1 := Lib.hid (HE1.out rfl)
      clear HE2 HE3 HE4 HE5 HE6
      go_enter Try.func63, Try.ntmps63
      go_upto_region 1 with (fail)
      rw [← hW1]
      clear hW1
      refine wp_region_held_drew (S := fun V => Below W1.heap.size W1 V) (by kernel_rfl) (Below.drew (Below.refl _ _)) (fun hH => ?_)
      have B0 : Hid (Below W1.heap.size W1 W1.drew) := Lib.hid (Below.drew (Below.refl _ _))
      generalize W1.drew = V0 at *
      refine tk 0 (by assumption) rfl (by kernel_rfl) (fun _ _ _ h => h) (fun V hV => by go_simp; try with_reducible rfl) ?_
      try simp only [Act.put, List.setIfInBounds_toArray, List.set_cons_zero, List.set_cons_succ, List.getElem_toArray, List.getElem_cons_succ, List.getElem_cons_zero]
      refine tk 1 (by assumption) rfl (by kernel_rfl) (fun _ _ _ h => h) (fun V hV => by go_simp; try with_reducible rfl) ?_
      try simp only [Act.put, List.setIfInBounds_toArray, List.set_cons_zero, List.set_cons_succ, List.getElem_toArray, List.getElem_cons_succ, List.getElem_cons_zero]
      refine tk 2 (by assumption) rfl (by kernel_rfl) (fun _ _ _ h => h) (fun V hV => by obtain ⟨⟨c0, c1, c2, c3⟩, c4, c5⟩ := HKA.out V hV; go_simp; try with_reducible rfl) ?_
      try simp only [Act.put, List.setIfInBounds_toArray, List.set_cons_zero, List.set_cons_succ, List.getElem_toArray, List.getElem_cons_succ, List.getElem_cons_zero]
      refine tk 3 (by assumption) rfl (by kernel_rfl) (fun _ _ _ h => h) (fun V hV => by go_simp; try with_reducible rfl) ?_
      try simp only [Act.put, List.setIfInBounds_toArray, List.set_cons_zero, List.set_cons_succ, List.getElem_toArray, List.getElem_cons_succ, List.getElem_cons_zero]
      refine tk 4 (by assumption) rfl (by kernel_rfl) (fun _ _ _ h => h) (fun V hV => by obtain ⟨⟨c0, c1, c2, c3⟩, c4, c5⟩ := HKA.out V hV; go_simp; try with_reducible rfl) ?_
      try simp only [Act.put, List.setIfInBounds_toArray, List.set_cons_zero, List.set_cons_succ, List.getElem_toArray, List.getElem_cons_succ, List.getElem_cons_zero]
      refine wpAnyH_ready (rs := [5]) (by kernel_rfl) (by simp) ?_
      refine AllReadyH.cons (o := _) rfl (fun K hK => ?_) AllReadyH.nil
      go_simp
      refine (HITa.out _ B0.out).mono ?_
      rintro e V1 ⟨rfl, hb2⟩
      have B1 := Lib.hid (gNx B0.out hb2)
      clear hb2
      go_wp2_with fail
      refine hK.out _ _ B1.out (fun hH => ?_)
      clear hK K
      try simp only [Act.put, List.setIfInBounds_toArray, List.set_cons_zero, List.set_cons_succ, List.getElem_toArray, List.getElem_cons_succ, List.getElem_cons_zero]
      refine tk 6 (by assumption) rfl (by kernel_rfl) (fun _ _ _ h => h) (fun V hV => by go_simp; try with_reducible rfl) ?_
      try simp only [Act.put, List.setIfInBounds_toArray, List.set_cons_zero, List.set_cons_succ, List.getElem_toArray, List.getElem_cons_succ, List.getElem_cons_zero]
      refine tk 7 (by assumption) rfl (by kernel_rfl) (fun _ _ _ h => h) (fun V hV => by go_simp; try with_reducible rfl) ?_
      try simp only [Act.put, List.setIfInBounds_toArray, List.set_cons_zero, List.set_cons_succ, List.getElem_toArray, List.getElem_cons_succ, List.getElem_cons_zero]
      refine tk 8 (by assumption) rfl (by kernel_rfl) (fun _ _ _ h => h) (fun V hV => by go_simp; try with_reducible rfl) ?_
      try simp only [Act.put, List.setIfInBounds_toArray, List.set_cons_zero, List.set_cons_succ, List.getElem_toArray, List.getElem_cons_succ, List.getElem_cons_zero]
      refine tk 9 (by assumption) rfl (by kernel_rfl) (fun _ _ _ h => h) (fun V hV => by go_simp; try with_reducible rfl) ?_
      try simp only [Act.put, List.setIfInBounds_toArray, List.set_cons_zero, List.set_cons_succ, List.getElem_toArray, List.getElem_cons_succ, List.getElem_cons_zero]
      refine tk 10 (by assumption) rfl (by kernel_rfl) (fun _ _ _ h => h) (fun V hV => by obtain ⟨⟨c0, c1, c2, c3⟩, c4, c5⟩ := HKA.out V hV; go_simp; try with_reducible rfl) ?_
      try simp only [Act.put, List.setIfInBounds_toArray, List.set_cons_zero, List.set_cons_succ, List.getElem_toArray, List.getElem_cons_succ, List.getElem_cons_zero]
      refine tk 11 (by assumption) rfl (by kernel_rfl) (fun _ _ _ h => h) (fun V hV => by go_simp; try with_reducible rfl) ?_
      try simp only [Act.put, List.setIfInBounds_toArray, List.set_cons_zero, List.set_cons_succ, List.getElem_toArray, List.getElem_cons_succ, List.getElem_cons_zero]
      refine tk 12 (by assumption) rfl (by kernel_rfl) (fun _ _ _ h => h) (fun V hV => by obtain ⟨⟨c0, c1, c2, c3⟩, c4, c5⟩ := HKA.out V hV; go_simp; try with_reducible rfl) ?_
      try simp only [Act.put, List.setIfInBounds_toArray, List.set_cons_zero, List.set_cons_succ, List.getElem_toArray, List.getElem_cons_succ, List.getElem_cons_zero]
      refine wpAnyH_ready (rs := [13]) (by kernel_rfl) (by simp) ?_
      refine AllReadyH.cons (o := _) rfl (fun K hK => ?_) AllReadyH.nil
      go_simp
      refine (HITb.out _ B1.out).mono ?_
      rintro e V1b ⟨rfl, hb2⟩
      have B1b := Lib.hid (gNx B1.out hb2)
      clear hb2
      go_wp2_with fail
      refine hK.out _ _ B1b.out (fun hH => ?_)
      clear hK K
      try simp only [Act.put, List.setIfInBounds_toArray, List.set_cons_zero, List.set_cons_succ, List.getElem_toArray, List.getElem_cons_succ, List.getElem_cons_zero]
      refine tk 14 (by assumption) rfl (by kernel_rfl) (fun _ _ _ h => h) (fun V hV => by go_simp; try with_reducible rfl) ?_
      try simp only [Act.put, List.setIfInBounds_toArray, List.set_cons_zero, List.set_cons_succ, List.getElem_toArray, List.getElem_cons_succ, List.getElem_cons_zero]
      refine tk 15 (by assumption) rfl (by kernel_rfl) (fun _ _ _ h => h) (fun V hV => by go_simp; try with_reducible rfl) ?_
      try simp only [Act.put, List.setIfInBounds_toArray, List.set_cons_zero, List.set_cons_succ, List.getElem_toArray, List.getElem_cons_succ, List.getElem_cons_zero]
      refine tk 16 (by assumption) rfl (by kernel_rfl) (fun _ _ _ h => h) (fun V hV => by go_simp; try with_reducible rfl) ?_
      try simp only [Act.put, List.setIfInBounds_toArray, List.set_cons_zero, List.set_cons_succ, List.getElem_toArray, List.getElem_cons_succ, List.getElem_cons_zero]
      refine wpAnyH_done (by kernel_rfl) ?_ _
      go_wp2_with fail
      go_ret
      rw [HE1.out]
      exact ⟨rfl, HFIN.out _ B1b.out⟩
    | true =>
      clear HE1
      replace HE2 := Lib.hid (HE2.out rfl rfl)
      replace HE3 := Lib.hid (HE3.out rfl rfl)
      replace HE4 := Lib.hid (HE4.out rfl rfl)
      replace HE5 := Lib.hid (HE5.out rfl rfl)
      replace HE6 := Lib.hid (HE6.out rfl rfl)
      go_enter Try.func63, Try.ntmps63
      go_upto_region 1 with (fail)
      rw [← hW1]
      clear hW1
      refine wp_region_held_drew (S := fun V => Below W1.heap.size W1 V) (by kernel_rfl) (Below.drew (Below.refl _ _)) (fun hH => ?_)
      have B0 : Hid (Below W1.heap.size W1 W1.drew) := Lib.hid (Below.drew (Below.refl _ _))
      generalize W1.drew = V0 at *
      refine tk 0 (by assumption) rfl (by kernel_rfl) (fun _ _ _ h => h) (fun V hV => by go_simp; try with_reducible rfl) ?_
      try simp only [Act.put, List.setIfInBounds_toArray, List.set_cons_zero, List.set_cons_succ, List.getElem_toArray, List.getElem_cons_succ, List.getElem_cons_zero]
      refine tk 1 (by assumption) rfl (by kernel_rfl) (fun _ _ _ h => h) (fun V hV => by go_simp; try with_reducible rfl) ?_
      try simp only [Act.put, List.setIfInBounds_toArray, List.set_cons_zero, List.set_cons_succ, List.getElem_toArray, List.getElem_cons_succ, List.getElem_cons_zero]
      refine tk 2 (by assumption) rfl (by kernel_rfl) (fun _ _ _ h => h) (fun V hV => by obtain ⟨⟨c0, c1, c2, c3⟩, c4, c5⟩ := HKA.out V hV; go_simp; try with_reducible rfl) ?_
      try simp only [Act.put, List.setIfInBounds_toArray, List.set_cons_zero, List.set_cons_succ, List.getElem_toArray, List.getElem_cons_succ, List.getElem_cons_zero]
      refine tk 3 (by assumption) rfl (by kernel_rfl) (fun _ _ _ h => h) (fun V hV => by go_simp; try with_reducible rfl) ?_
      try simp only [Act.put, List.setIfInBounds_toArray, List.set_cons_zero, List.set_cons_succ, List.getElem_toArray, List.getElem_cons_succ, List.getElem_cons_zero]
      refine tk 4 (by assumption) rfl (by kernel_rfl) (fun _ _ _ h => h) (fun V hV => by obtain ⟨⟨c0, c1, c2, c3⟩, c4, c5⟩ := HKA.out V hV; go_simp; try with_reducible rfl) ?_
      try simp only [Act.put, List.setIfInBounds_toArray, List.set_cons_zero, List.set_cons_succ, List.getElem_toArray, List.getElem_cons_succ, List.getElem_cons_zero]
      refine wpAnyH_ready (rs := [5]) (by kernel_rfl) (by simp) ?_
      refine AllReadyH.cons (o := _) rfl (fun K hK => ?_) AllReadyH.nil
      go_simp
      refine (HITa.out _ B0.out).mono ?_
      rintro e V1 ⟨rfl, hb2⟩
      have B1 := Lib.hid (gNx B0.out hb2)
      clear hb2
      go_wp2_with fail
      refine hK.out _ _ B1.out (fun hH => ?_)
      clear hK K
      try simp only [Act.put, List.setIfInBounds_toArray, List.set_cons_zero, List.set_cons_succ, List.getElem_toArray, List.getElem_cons_succ, List.getElem_cons_zero]
      refine tk 6 (by assumption) rfl (by kernel_rfl) (fun _ _ _ h => h) (fun V hV => by go_simp; try with_reducible rfl) ?_
      try simp only [Act.put, List.setIfInBounds_toArray, List.set_cons_zero, List.set_cons_succ, List.getElem_toArray, List.getElem_cons_succ, List.getElem_cons_zero]
      refine tk 7 (by assumption) rfl (by kernel_rfl) (fun _ _ _ h => h) (fun V hV => by go_simp; try with_reducible rfl) ?_
      try simp only [Act.put, List.setIfInBounds_toArray, List.set_cons_zero, List.set_cons_succ, List.getElem_toArray, List.getElem_cons_succ, List.getElem_cons_zero]
      refine tk 8 (by assumption) rfl (by kernel_rfl) (fun _ _ _ h => h) (fun V hV => by go_simp; try with_reducible rfl) ?_
      try simp only [Act.put, List.setIfInBounds_toArray, List.set_cons_zero, List.set_cons_succ, List.getElem_toArray, List.getElem_cons_succ, List.getElem_cons_zero]
      refine tk 9 (by assumption) rfl (by kernel_rfl) (fun _ _ _ h => h) (fun V hV => by go_simp; try with_reducible rfl) ?_
      try simp only [Act.put, List.setIfInBounds_toArray, List.set_cons_zero, List.set_cons_succ, List.getElem_toArray, List.getElem_cons_succ, List.getElem_cons_zero]
      refine tk 10 (by assumption) rfl (by kernel_rfl) (fun _ _ _ h => h) (fun V hV => by obtain ⟨⟨c0, c1, c2, c3⟩, c4, c5⟩ := HKA.out V hV; go_simp; try with_reducible rfl) ?_
      try simp only [Act.put, List.setIfInBounds_toArray, List.set_cons_zero, List.set_cons_succ, List.getElem_toArray, List.getElem_cons_succ, List.getElem_cons_zero]
      refine tk 11 (by assumption) rfl (by kernel_rfl) (fun _ _ _ h => h) (fun V hV => by go_simp; try with_reducible rfl) ?_
      try simp only [Act.put, List.setIfInBounds_toArray, List.set_cons_zero, List.set_cons_succ, List.getElem_toArray, List.getElem_cons_succ, List.getElem_cons_zero]
      refine tk 12 (by assumption) rfl (by kernel_rfl) (fun _ _ _ h => h) (fun V hV => by obtain ⟨⟨c0, c1, c2, c3⟩, c4, c5⟩ := HKA.out V hV; go_simp; try with_reducible rfl) ?_
      try simp only [Act.put, List.setIfInBounds_toArray, List.set_cons_zero, List.set_cons_succ, List.getElem_toArray, List.getElem_cons_succ, List.getElem_cons_zero]
      refine wpAnyH_ready (rs := [13]) (by kernel_rfl) (by simp) ?_
      refine AllReadyH.cons (o := _) rfl (fun K hK => ?_) AllReadyH.nil
      go_simp
      refine (HITb.out _ B1.out).mono ?_
      rintro e V1b ⟨rfl, hb2⟩
      have B1b := Lib.hid (gNx B1.out hb2)
      clear hb2
      go_wp2_with fail
      refine hK.out _ _ B1b.out (fun hH => ?_)
      clear hK K
      try simp only [Act.put, List.setIfInBounds_toArray, List.set_cons_zero, List.set_cons_succ, List.getElem_toArray, List.getElem_cons_succ, List.getElem_cons_zero]
      refine tk 14 (by assumption) rfl (by kernel_rfl) (fun _ _ _ h => h) (fun V hV => by go_simp; try with_reducible rfl) ?_
      try simp only [Act.put, List.setIfInBounds_toArray, List.set_cons_zero, List.set_cons_succ, List.getElem_toArray, List.getElem_cons_succ, List.getElem_cons_zero]
      refine tk 15 (by assumption) rfl (by kernel_rfl) (fun _ _ _ h => h) (fun V hV => by go_simp; try with_reducible rfl) ?_
      try simp only [Act.put, List.setIfInBounds_toArray, List.set_cons_zero, List.set_cons_succ, List.getElem_toArray, List.getElem_cons_succ, List.getElem_cons_zero]
      refine tk 16 (by assumption) rfl (by kernel_rfl) (fun _ _ _ h => h) (fun V hV => by go_simp; try with_reducible rfl) ?_
      try simp only [Act.put, List.setIfInBounds_toArray, List.set_cons_zero, List.set_cons_succ, List.getElem_toArray, List.getElem_cons_succ, List.getElem_cons_zero]
      refine wpAnyH_done (by kernel_rfl) ?_ _
      obtain ⟨⟨c0, c1, c2, c3⟩, c4, c5⟩ := HKA.out V1b B1b.out
      by_cases hab : a = b
      · have HE := Lib.hid (HE2.out hab)
        have habi : (a == b) = true := by simpa using hab
        clear HE2 HE3 HE4 HE5 HE6
        go_wp2_with fail
        go_ret
        rw [HE.out]
        exact ⟨rfl, HFIN.out _ B1b.out⟩
      · clear HE2
        have habi : (a == b) = false := by simpa using hab
        replace HE3 := Lib.hid (HE3.out hab)
        replace HE4 := Lib.hid (HE4.out hab)
        replace HE5 := Lib.hid (HE5.out hab)
        replace HE6 := Lib.hid (HE6.out hab)
        go_upto_region 5 with (fail)
        clear hab habi c0 c1 c2 c3 c4 c5
        refine wp_region_held_drew (S := fun V => Below W1.heap.size W1 V) (by kernel_rfl) (Below.drew B1b.out) (fun hH => ?_)
        have B0 : Hid (Below W1.heap.size W1 V1b.drew) := Lib.hid (Below.drew B1b.out)
        generalize V1b.drew = V0 at *
        refine tk 0 (by assumption) rfl (by kernel_rfl) (fun _ _ _ h => h) (fun V hV => by go_simp; try with_reducible rfl) ?_
        try simp only [Act.put, List.setIfInBounds_toArray, List.set_cons_zero, List.set_cons_succ, List.getElem_toArray, List.getElem_cons_succ, List.getElem_cons_zero]
        refine tk 1 (by assumption) rfl (by kernel_rfl) (fun _ _ _ h => h) (fun V hV => by go_simp; try with_reducible rfl) ?_
        try simp only [Act.put, List.setIfInBounds_toArray, List.set_cons_zero, List.set_cons_succ, List.getElem_toArray, List.getElem_cons_succ, List.getElem_cons_zero]
        refine tk 2 (by assumption) rfl (by kernel_rfl) (fun _ _ _ h => h) (fun V hV => by obtain ⟨⟨c0, c1, c2, c3⟩, c4, c5⟩ := HKA.out V hV; go_simp; try with_reducible rfl) ?_
        try simp only [Act.put, List.setIfInBounds_toArray, List.set_cons_zero, List.set_cons_succ, List.getElem_toArray, List.getElem_cons_succ, List.getElem_cons_zero]
        refine tk 3 (by assumption) rfl (by kernel_rfl) (fun _ _ _ h => h) (fun V hV => by go_simp; try with_reducible rfl) ?_
        try simp only [Act.put, List.setIfInBounds_toArray, List.set_cons_zero, List.set_cons_succ, List.getElem_toArray, List.getElem_cons_succ, List.getElem_cons_zero]
        refine tk 4 (by assumption) rfl (by kernel_rfl) (fun _ _ _ h => h) (fun V hV => by obtain ⟨⟨c0, c1, c2, c3⟩, c4, c5⟩ := HKA.out V hV; go_simp; try with_reducible rfl) ?_
        try simp only [Act.put, List.setIfInBounds_toArray, List.set_cons_zero, List.set_cons_succ, List.getElem_toArray, List.getElem_cons_succ, List.getElem_cons_zero]
        refine tk 5 (by assumption) rfl (by kernel_rfl) (fun _ _ _ h => h) (fun V hV => by go_simp; try with_reducible rfl) ?_
        try simp only [Act.put, List.setIfInBounds_toArray, List.set_cons_zero, List.set_cons_succ, List.getElem_toArray, List.getElem_cons_succ, List.getElem_cons_zero]
        refine tk 6 (by assumption) rfl (by kernel_rfl) (fun _ _ _ h => h) (fun V hV => by obtain ⟨⟨c0, c1, c2, c3⟩, c4, c5⟩ := HKA.out V hV; go_simp; try with_reducible rfl) ?_
        try simp only [Act.put, List.setIfInBounds_toArray, List.set_cons_zero, List.set_cons_succ, List.getElem_toArray, List.getElem_cons_succ, List.getElem_cons_zero]
        refine wpAnyH_ready (rs := [7]) (by kernel_rfl) (by simp) ?_
        refine AllReadyH.cons (o := _) rfl (fun K hK => ?_) AllReadyH.nil
        go_simp
        refine (HFL.out _ B0.out).mono ?_
        rintro e V2 ⟨rfl, hb2⟩
        have B2 := Lib.hid (gNx B0.out hb2)
        clear hb2
        go_wp2_with fail
        refine hK.out _ _ B2.out (fun hH => ?_)
        clear hK K
        try simp only [Act.put, List.setIfInBounds_toArray, List.set_cons_zero, List.set_cons_succ, List.getElem_toArray, List.getElem_cons_succ, List.getElem_cons_zero]
        refine tk 8 (by assumption) rfl (by kernel_rfl) (fun _ _ _ h => h) (fun V hV => by go_simp; try with_reducible rfl) ?_
        try simp only [Act.put, List.setIfInBounds_toArray, List.set_cons_zero, List.set_cons_succ, List.getElem_toArray, List.getElem_cons_succ, List.getElem_cons_zero]
        refine tk 9 (by assumption) rfl (by kernel_rfl) (fun _ _ _ h => h) (fun V hV => by go_simp; try with_reducible rfl) ?_
        try simp only [Act.put, List.setIfInBounds_toArray, List.set_cons_zero, List.set_cons_succ, List.getElem_toArray, List.getElem_cons_succ, List.getElem_cons_zero]
        refine tk 10 (by assumption) rfl (by kernel_rfl) (fun _ _ _ h => h) (fun V hV => by go_simp; try with_reducible rfl) ?_
        try simp only [Act.put, List.setIfInBounds_toArray, List.set_cons_zero, List.set_cons_succ, List.getElem_toArray, List.getElem_cons_succ, List.getElem_cons_zero]
        refine tk 11 (by assumption) rfl (by kernel_rfl) (fun _ _ _ h => h) (fun V hV => by go_simp; try with_reducible rfl) ?_
        try simp only [Act.put, List.setIfInBounds_toArray, List.set_cons_zero, List.set_cons_succ, List.getElem_toArray, List.getElem_cons_succ, List.getElem_cons_zero]
        refine tk 12 (by assumption) rfl (by kernel_rfl) (fun _ _ _ h => h) (fun V hV => by go_simp; try with_reducible rfl) ?_
        try simp only [Act.put, List.setIfInBounds_toArray, List.set_cons_zero, List.set_cons_succ, List.getElem_toArray, List.getElem_cons_succ, List.getElem_cons_zero]
        refine wpAnyH_done (by kernel_rfl) ?_ _
        cases fnd with
        | true =>
          have HE := Lib.hid (HE3.out rfl)
          clear HE3 HE4 HE5 HE6
          go_wp2_with fail
          go_ret
          rw [HE.out]
          exact ⟨rfl, HFIN.out _ B2.out⟩
        | false =>
          obtain ⟨⟨c0, c1, c2, c3⟩, c4, c5⟩ := HKA.out V2 B2.out
          by_cases hwt : weightF q = 0
          · by_cases hfu : 4096 ≤ G.links.length
            · have hfi : (4096 : Int) ≤ (G.links.length : Int) := by omega
              have HE := Lib.hid (HE5.out rfl hwt hfu)
              clear HE3 HE4 HE5 HE6 hfu
              go_wp2_with (go_at_call 29; refine (weight_any _ _ HQ.out).mono ?_; rintro e w2 ⟨rfl, rfl⟩; rw [hwt])
              go_ret
              rw [HE.out]
              exact ⟨rfl, HFIN.out _ B2.out⟩
            · have hfi : ¬ (4096 : Int) ≤ (G.links.length : Int) := by omega
              have HE := Lib.hid (HE6.out rfl hwt hfu)
              clear HE3 HE4 HE5 HE6 hfu
              go_upto_region 13 with (go_at_call 29; refine (weight_any _ _ HQ.out).mono ?_; rintro e w2 ⟨rfl, rfl⟩; rw [hwt])
              clear hwt
              go_upto_region 14 with (go_at_call 79; refine (HLO.out _).mono ?_; rintro e V3 ⟨rfl, hb2⟩; have B3 := Lib.hid (gNx B2.out hb2); clear hb2)
              obtain ⟨V5, hV5⟩ : ∃ V5, V5 = V3.alloc (.cells #[.int .i64 mn, .int .i64 mx, .float .f64 0, .bool false] 54) := ⟨_, rfl⟩
              rw [← hV5]
              have B5 : Hid (Below V3.heap.size V3 V5) := Lib.hid (by rw [hV5]; exact gAl _ _)
              have hlb : V5.heap[V3.heap.size]? = some (.cells #[.int .i64 mn, .int .i64 mx, .float .f64 0, .bool false] 54 (0, 0)) := by rw [hV5]; exact heap_alloc_new V3 _
              have h3s := B3.out.size
              clear c0 c1 c2 c3 c4 c5 hV5
              obtain ⟨⟨c0, c1, c2, c3⟩, c4, c5⟩ := HKA.out V5 (gNx B3.out B5.out)
              obtain ⟨lb, hlb0⟩ : ∃ lb, lb = V3.heap.size := ⟨_, rfl⟩
              rw [← hlb0] at hlb ⊢
              have k2 : V5.cell? ⟨lb, 2, none⟩ = some (.float .f64 0) := by rw [cell_of_row V5 _ 2 _ _ (0, 0) hlb]; rfl
              have k3 : V5.cell? ⟨lb, 3, none⟩ = some (.bool false) := by rw [cell_of_row V5 _ 3 _ _ (0, 0) hlb]; rfl
              have k4 := frozen_of_row V5 _ 2 _ _ hlb
              have k5 := frozen_of_row V5 _ 3 _ _ hlb
              have HLBK := Lib.hid hlb
              have HLBS : Hid (W1.heap.size ≤ lb) := Lib.hid (by omega)
              have B6 := Lib.hid (gNx B3.out B5.out)
              clear hlb hlb0 h3s B5 B3
              go_upto_region 15 with (fail)
              obtain ⟨V4, hV4⟩ : ∃ V4, V4 = (V5.setCell ⟨lb, 2, none⟩ (.float .f64 q)).setCell ⟨lb, 3, none⟩ (.bool true) := ⟨_, rfl⟩
              rw [← hV4]
              have B4 : Hid (Below W1.heap.size W1 V4) := Lib.hid (by rw [hV4]; exact (B6.out.setCell HLBS.out _).setCell HLBS.out _)
              have h4 : V4.heap[lb]? = some (.cells #[.int .i64 mn, .int .i64 mx, .float .f64 q, .bool true] 54 (0, 0)) := by rw [hV4]; simpa using heap_setCell_same _ lb 3 _ _ _ (heap_setCell_same V5 lb 2 _ _ (.float .f64 q) HLBK.out)
              have HL4 : Hid (LkAt V4 lb 0 ⟨mn, mx, q, true⟩) := Lib.hid ⟨by rw [cell_of_row V4 _ 0 _ _ (0, 0) h4]; rfl, by rw [cell_of_row V4 _ 1 _ _ (0, 0) h4]; rfl, by rw [cell_of_row V4 _ 2 _ _ (0, 0) h4]; rfl, by rw [cell_of_row V4 _ 3 _ _ (0, 0) h4]; rfl⟩
              clear h4 hV4 HLBK k2 k3 k4 k5 c0 c1 c2 c3 c4 c5
              refine wp_region_held_drew (S := fun V => True) (by kernel_rfl) trivial (fun hH => ?_)
              have B0 : Hid (Below W1.heap.size W1 V4.drew) := Lib.hid (Below.drew B4.out)
              have HLB : Hid (LkAt V4.drew lb 0 ⟨mn, mx, q, true⟩) := Lib.hid ⟨HL4.out.c0, HL4.out.c1, HL4.out.c2, HL4.out.c3⟩
              clear HL4 B4
              generalize V4.drew = V0 at *
              have HC5 := Lib.hid (HKA.out V0 B0.out).2.2
              refine tk 0 (by assumption) rfl (by kernel_rfl) (fun _ _ _ h => h) (fun V hV => by go_simp; try with_reducible rfl) ?_
              try simp only [Act.put, List.setIfInBounds_toArray, List.set_cons_zero, List.set_cons_succ, List.getElem_toArray, List.getElem_cons_succ, List.getElem_cons_zero]
              refine tk 1 (by assumption) rfl (by kernel_rfl) (fun _ _ _ h => h) (fun V hV => by go_simp; try with_reducible rfl) ?_
              try simp only [Act.put, List.setIfInBounds_toArray, List.set_cons_zero, List.set_cons_succ, List.getElem_toArray, List.getElem_cons_succ, List.getElem_cons_zero]
              refine tk 2 (by assumption) rfl (by kernel_rfl) (fun _ _ _ h => h) (fun V hV => by go_simp; try with_reducible rfl) ?_
              try simp only [Act.put, List.setIfInBounds_toArray, List.set_cons_zero, List.set_cons_succ, List.getElem_toArray, List.getElem_cons_succ, List.getElem_cons_zero]
              refine tk 3 (by assumption) rfl (by kernel_rfl) (fun _ _ _ h => h) (fun V hV => by go_simp; try with_reducible rfl) ?_
              try simp only [Act.put, List.setIfInBounds_toArray, List.set_cons_zero, List.set_cons_succ, List.getElem_toArray, List.getElem_cons_succ, List.getElem_cons_zero]
              refine tk 5 (by assumption) rfl (by kernel_rfl) (fun _ _ _ h => h) (fun V hV => by go_simp; try with_reducible rfl) ?_
              try simp only [Act.put, List.setIfInBounds_toArray, List.set_cons_zero, List.set_cons_succ, List.getElem_toArray, List.getElem_cons_succ, List.getElem_cons_zero]
              refine wpAnyH_ready (rs := [4, 6]) (by kernel_rfl) (by simp) ?_
              refine AllReadyH.cons (o := _) rfl (fun K hK => ?_) (AllReadyH.cons (o := _) rfl (fun K hK => ?_) (AllReadyH.nil))
              · have hx := HC5.out
                go_simp
                refine hK.out _ _ trivial (fun hH => ?_)
                clear hK K
                try simp only [Act.put, List.setIfInBounds_toArray, List.set_cons_zero, List.set_cons_succ, List.getElem_toArray, List.getElem_cons_succ, List.getElem_cons_zero]
                refine wpAnyH_ready (rs := [6]) (by kernel_rfl) (by simp) ?_
                refine AllReadyH.cons (o := _) rfl (fun K hK => ?_) AllReadyH.nil
                obtain ⟨l0, l1, l2, l3⟩ := HLB.out
                go_simp
                refine hK.out _ _ trivial (fun hH => ?_)
                clear hK K
                try simp only [Act.put, List.setIfInBounds_toArray, List.set_cons_zero, List.set_cons_succ, List.getElem_toArray, List.getElem_cons_succ, List.getElem_cons_zero]
                refine wpAnyH_ready (rs := [7]) (by kernel_rfl) (by simp) ?_
                refine AllReadyH.cons (o := _) rfl (fun K hK => ?_) AllReadyH.nil
                go_simp
                obtain ⟨V9, hV9⟩ : ∃ V9, V9 = V0.alloc (.cells #[.int .i64 mn, .int .i64 mx, .float .f64 q, .bool true] 54) := ⟨_, rfl⟩
                rw [← hV9]
                have B9 : Hid (Below V0.heap.size V0 V9) := Lib.hid (by rw [hV9]; exact gAl _ _)
                have HV9 : Hid (V9.heap[V0.heap.size]? = some (.cells (lkC ⟨mn, mx, q, true⟩).toArray 54 (0, 0))) := Lib.hid (by rw [hV9]; exact heap_alloc_new V0 _)
                have HC5 := Lib.hid (HKA.out V9 (gNx B0.out B9.out)).2.2
                clear hV9
                refine hK.out _ _ trivial (fun hH => ?_)
                clear hK K
                try simp only [Act.put, List.setIfInBounds_toArray, List.set_cons_zero, List.set_cons_succ, List.getElem_toArray, List.getElem_cons_succ, List.getElem_cons_zero]
                refine wpAnyH_ready (rs := [8]) (by kernel_rfl) (by simp) ?_
                refine AllReadyH.cons (o := _) rfl (fun K hK => ?_) AllReadyH.nil
                go_simp
                refine (HINS.out _ V9 (HGA.out V9 (gNx B0.out B9.out)).links (HBS.out V9 (gNx B0.out B9.out)) HV9.out (HNE.out V0 B0.out)).mono ?_
                rintro e V10 ⟨v2, rfl, ho, hw⟩
                obtain ⟨va, vc, rfl⟩ := ho.slice
                have HO := Lib.hid ho
                have HW := Lib.hid hw
                have HGX := Lib.hid (hw.kept (HGA.out V9 (gNx B0.out B9.out)).gb (by decide))
                clear ho hw
                go_wp2_with fail
                refine hK.out _ _ trivial (fun hH => ?_)
                clear hK K
                try simp only [Act.put, List.setIfInBounds_toArray, List.set_cons_zero, List.set_cons_succ, List.getElem_toArray, List.getElem_cons_succ, List.getElem_cons_zero]
                refine tk 9 (by assumption) rfl (by kernel_rfl) (fun _ _ _ h => h) (fun V hV => by go_simp; try with_reducible rfl) ?_
                try simp only [Act.put, List.setIfInBounds_toArray, List.set_cons_zero, List.set_cons_succ, List.getElem_toArray, List.getElem_cons_succ, List.getElem_cons_zero]
                refine tk 10 (by assumption) rfl (by kernel_rfl) (fun _ _ _ h => h) (fun V hV => by go_simp; try with_reducible rfl) ?_
                try simp only [Act.put, List.setIfInBounds_toArray, List.set_cons_zero, List.set_cons_succ, List.getElem_toArray, List.getElem_cons_succ, List.getElem_cons_zero]
                refine wpAnyH_ready (rs := [11]) (by kernel_rfl) (by simp) ?_
                refine AllReadyH.cons (o := _) rfl (fun K hK => ?_) AllReadyH.nil
                have d0 : V10.cell? ⟨bg, 1, none⟩ = some (.slice la G.links.length lc) := by rw [cell_of_row V10 _ 1 _ _ (0, 0) HGX.out]; rfl
                have d1 : V10.frozen? ⟨bg, 1, none⟩ = false := frozen_of_row V10 _ _ _ _ HGX.out
                go_simp
                refine hK.out _ _ trivial (fun hH => ?_)
                clear hK K
                try simp only [Act.put, List.setIfInBounds_toArray, List.set_cons_zero, List.set_cons_succ, List.getElem_toArray, List.getElem_cons_succ, List.getElem_cons_zero]
                refine wpAnyH_done (by kernel_rfl) ?_ _
                go_wp2_with fail
                go_ret
                rw [HE.out]
                refine ⟨rfl, ⟨.slice na G.nodes.length nc, .slice va (G.links.length + 1) vc, ?_⟩, ?_⟩
                · rw [aft_0]
                  exact (HGA.out V9 (gNx B0.out B9.out)).putL HW.out (by rw [HPL.out]; exact HO.out) HPW.out
                · exact (HBW.out V9 (gNx B0.out B9.out)).trans ((HW.out.below (HBS.out V9 (gNx B0.out B9.out))).setCell HBG.out.2 _)
              · obtain ⟨l0, l1, l2, l3⟩ := HLB.out
                go_simp
                refine hK.out _ _ trivial (fun hH => ?_)
                clear hK K
                try simp only [Act.put, List.setIfInBounds_toArray, List.set_cons_zero, List.set_cons_succ, List.getElem_toArray, List.getElem_cons_succ, List.getElem_cons_zero]
                refine wpAnyH_ready (rs := [4, 7]) (by kernel_rfl) (by simp) ?_
                refine AllReadyH.cons (o := _) rfl (fun K hK => ?_) (AllReadyH.cons (o := _) rfl (fun K hK => ?_) (AllReadyH.nil))
                · have hx := HC5.out
                  go_simp
                  refine hK.out _ _ trivial (fun hH => ?_)
                  clear hK K
                  try simp only [Act.put, List.setIfInBounds_toArray, List.set_cons_zero, List.set_cons_succ, List.getElem_toArray, List.getElem_cons_succ, List.getElem_cons_zero]
                  refine wpAnyH_ready (rs := [7]) (by kernel_rfl) (by simp) ?_
                  refine AllReadyH.cons (o := _) rfl (fun K hK => ?_) AllReadyH.nil
                  go_simp
                  obtain ⟨V9, hV9⟩ : ∃ V9, V9 = V0.alloc (.cells #[.int .i64 mn, .int .i64 mx, .float .f64 q, .bool true] 54) := ⟨_, rfl⟩
                  rw [← hV9]
                  have B9 : Hid (Below V0.heap.size V0 V9) := Lib.hid (by rw [hV9]; exact gAl _ _)
                  have HV9 : Hid (V9.heap[V0.heap.size]? = some (.cells (lkC ⟨mn, mx, q, true⟩).toArray 54 (0, 0))) := Lib.hid (by rw [hV9]; exact heap_alloc_new V0 _)
                  have HC5 := Lib.hid (HKA.out V9 (gNx B0.out B9.out)).2.2
                  clear hV9
                  refine hK.out _ _ trivial (fun hH => ?_)
                  clear hK K
                  try simp only [Act.put, List.setIfInBounds_toArray, List.set_cons_zero, List.set_cons_succ, List.getElem_toArray, List.getElem_cons_succ, List.getElem_cons_zero]
                  refine wpAnyH_ready (rs := [8]) (by kernel_rfl) (by simp) ?_
                  refine AllReadyH.cons (o := _) rfl (fun K hK => ?_) AllReadyH.nil
                  go_simp
                  refine (HINS.out _ V9 (HGA.out V9 (gNx B0.out B9.out)).links (HBS.out V9 (gNx B0.out B9.out)) HV9.out (HNE.out V0 B0.out)).mono ?_
                  rintro e V10 ⟨v2, rfl, ho, hw⟩
                  obtain ⟨va, vc, rfl⟩ := ho.slice
                  have HO := Lib.hid ho
                  have HW := Lib.hid hw
                  have HGX := Lib.hid (hw.kept (HGA.out V9 (gNx B0.out B9.out)).gb (by decide))
                  clear ho hw
                  go_wp2_with fail
                  refine hK.out _ _ trivial (fun hH => ?_)
                  clear hK K
                  try simp only [Act.put, List.setIfInBounds_toArray, List.set_cons_zero, List.set_cons_succ, List.getElem_toArray, List.getElem_cons_succ, List.getElem_cons_zero]
                  refine tk 9 (by assumption) rfl (by kernel_rfl) (fun _ _ _ h => h) (fun V hV => by go_simp; try with_reducible rfl) ?_
                  try simp only [Act.put, List.setIfInBounds_toArray, List.set_cons_zero, List.set_cons_succ, List.getElem_toArray, List.getElem_cons_succ, List.getElem_cons_zero]
                  refine tk 10 (by assumption) rfl (by kernel_rfl) (fun _ _ _ h => h) (fun V hV => by go_simp; try with_reducible rfl) ?_
                  try simp only [Act.put, List.setIfInBounds_toArray, List.set_cons_zero, List.set_cons_succ, List.getElem_toArray, List.getElem_cons_succ, List.getElem_cons_zero]
                  refine wpAnyH_ready (rs := [11]) (by kernel_rfl) (by simp) ?_
                  refine AllReadyH.cons (o := _) rfl (fun K hK => ?_) AllReadyH.nil
                  have d0 : V10.cell? ⟨bg, 1, none⟩ = some (.slice la G.links.length lc) := by rw [cell_of_row V10 _ 1 _ _ (0, 0) HGX.out]; rfl
                  have d1 : V10.frozen? ⟨bg, 1, none⟩ = false := frozen_of_row V10 _ _ _ _ HGX.out
                  go_simp
                  refine hK.out _ _ trivial (fun hH => ?_)
                  clear hK K
                  try simp only [Act.put, List.setIfInBounds_toArray, List.set_cons_zero, List.set_cons_succ, List.getElem_toArray, List.getElem_cons_succ, List.getElem_cons_zero]
                  refine wpAnyH_done (by kernel_rfl) ?_ _
                  go_wp2_with fail
                  go_ret
                  rw [HE.out]
                  refine ⟨rfl, ⟨.slice na G.nodes.length nc, .slice va (G.links.length + 1) vc, ?_⟩, ?_⟩
                  · rw [aft_0]
                    exact (HGA.out V9 (gNx B0.out B9.out)).putL HW.out (by rw [HPL.out]; exact HO.out) HPW.out
                  · exact (HBW.out V9 (gNx B0.out B9.out)).trans ((HW.out.below (HBS.out V9 (gNx B0.out B9.out))).setCell HBG.out.2 _)
                · go_simp
                  obtain ⟨V9, hV9⟩ : ∃ V9, V9 = V0.alloc (.cells #[.int .i64 mn, .int .i64 mx, .float .f64 q, .bool true] 54) := ⟨_, rfl⟩
                  rw [← hV9]
                  have B9 : Hid (Below V0.heap.size V0 V9) := Lib.hid (by rw [hV9]; exact gAl _ _)
                  have HV9 : Hid (V9.heap[V0.heap.size]? = some (.cells (lkC ⟨mn, mx, q, true⟩).toArray 54 (0, 0))) := Lib.hid (by rw [hV9]; exact heap_alloc_new V0 _)
                  have HC5 := Lib.hid (HKA.out V9 (gNx B0.out B9.out)).2.2
                  clear hV9
                  refine hK.out _ _ trivial (fun hH => ?_)
                  clear hK K
                  try simp only [Act.put, List.setIfInBounds_toArray, List.set_cons_zero, List.set_cons_succ, List.getElem_toArray, List.getElem_cons_succ, List.getElem_cons_zero]
                  refine wpAnyH_ready (rs := [4]) (by kernel_rfl) (by simp) ?_
                  refine AllReadyH.cons (o := _) rfl (fun K hK => ?_) AllReadyH.nil
                  have hx := HC5.out
                  go_simp
                  refine hK.out _ _ trivial (fun hH => ?_)
                  clear hK K
                  try simp only [Act.put, List.setIfInBounds_toArray, List.set_cons_zero, List.set_cons_succ, List.getElem_toArray, List.getElem_cons_succ, List.getElem_cons_zero]
                  refine wpAnyH_ready (rs := [8]) (by kernel_rfl) (by simp) ?_
                  refine AllReadyH.cons (o := _) rfl (fun K hK => ?_) AllReadyH.nil
                  go_simp
                  refine (HINS.out _ V9 (HGA.out V9 (gNx B0.out B9.out)).links (HBS.out V9 (gNx B0.out B9.out)) HV9.out (HNE.out V0 B0.out)).mono ?_
                  rintro e V10 ⟨v2, rfl, ho, hw⟩
                  obtain ⟨va, vc, rfl⟩ := ho.slice
                  have HO := Lib.hid ho
                  have HW := Lib.hid hw
                  have HGX := Lib.hid (hw.kept (HGA.out V9 (gNx B0.out B9.out)).gb (by decide))
                  clear ho hw
                  go_wp2_with fail
                  refine hK.out _ _ trivial (fun hH => ?_)
                  clear hK K
                  try simp only [Act.put, List.setIfInBounds_toArray, List.set_cons_zero, List.set_cons_succ, List.getElem_toArray, List.getElem_cons_succ, List.getElem_cons_zero]
                  refine tk 9 (by assumption) rfl (by kernel_rfl) (fun _ _ _ h => h) (fun V hV => by go_simp; try with_reducible rfl) ?_
                  try simp only [Act.put, List.setIfInBounds_toArray, List.set_cons_zero, List.set_cons_succ, List.getElem_toArray, List.getElem_cons_succ, List.getElem_cons_zero]
                  refine tk 10 (by assumption) rfl (by kernel_rfl) (fun _ _ _ h => h) (fun V hV => by go_simp; try with_reducible rfl) ?_
                  try simp only [Act.put, List.setIfInBounds_toArray, List.set_cons_zero, List.set_cons_succ, List.getElem_toArray, List.getElem_cons_succ, List.getElem_cons_zero]
                  refine wpAnyH_ready (rs := [11]) (by kernel_rfl) (by simp) ?_
                  refine AllReadyH.cons (o := _) rfl (fun K hK => ?_) AllReadyH.nil
                  have d0 : V10.cell? ⟨bg, 1, none⟩ = some (.slice la G.links.length lc) := by rw [cell_of_row V10 _ 1 _ _ (0, 0) HGX.out]; rfl
                  have d1 : V10.frozen? ⟨bg, 1, none⟩ = false := frozen_of_row V10 _ _ _ _ HGX.out
                  go_simp
                  refine hK.out _ _ trivial (fun hH => ?_)
                  clear hK K
                  try simp only [Act.put, List.setIfInBounds_toArray, List.set_cons_zero, List.set_cons_succ, List.getElem_toArray, List.getElem_cons_succ, List.getElem_cons_zero]
                  refine wpAnyH_done (by kernel_rfl) ?_ _
                  go_wp2_with fail
                  go_ret
                  rw [HE.out]
                  refine ⟨rfl, ⟨.slice na G.nodes.length nc, .slice va (G.links.length + 1) vc, ?_⟩, ?_⟩
                  · rw [aft_0]
                    exact (HGA.out V9 (gNx B0.out B9.out)).putL HW.out (by rw [HPL.out]; exact HO.out) HPW.out
                  · exact (HBW.out V9 (gNx B0.out B9.out)).trans ((HW.out.below (HBS.out V9 (gNx B0.out B9.out))).setCell HBG.out.2 _)
          · have HE := Lib.hid (HE4.out rfl hwt)
            clear HE3 HE4 HE5 HE6
            generalize weightF q = qe at *
            have hq0 : (qe != 0) = true := by simpa using hwt
            go_wp2_with (go_at_call 29; refine (HWT.out _).mono ?_; rintro e w2 ⟨rfl, rfl⟩)
            go_ret
            rw [HE.out]
            refine ⟨rfl, ?_⟩
            rw [aft_ne hwt]
            exact HFIN.out _ B2.out
end Go.Proofs.Ytgjpgpjdealbeaa
