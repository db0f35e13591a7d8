/- Paths: too far; one step onward. -/
import Derived.Test.YtomcnaghdfhkkaaPtF
namespace Go.Proofs.Ytomcnaghdfhkkaa
open Go.RowKit Go.Lib Go.Fq Go.Pq Go.Iq Go.Nq Go.Ow
set_option linter.unusedVariables false
set_option linter.unusedSimpArgs false
set_option maxRecDepth 100000

theorem inf1_any (w : World) : Calls Try.prog 27 #[.int .i64 1] w fun e w' => e = .returned (.float .f64 INF) ∧ w = w' := by
  have e3 := x_from
  go_enter Try.func27, Try.ntmps27
  go_wp2_with fail
  go_ret
  exact ⟨rfl, rfl⟩
theorem tooFar_any (a : Option Nat) (h : Sm a) (w : World) : Calls Try.prog 28 #[.float .f64 (dw a)] w fun e w' => e = .returned (.bool a.isNone) ∧ w = w' := by
  have HI := Lib.hid (isinf1 (dw a) w (dw_ng h))
  have HE := Lib.hid (dw_inf h)
  generalize dw a = d at *
  clear h
  go_enter Try.func28, Try.ntmps28
  go_wp2_with (go_at_call 15; refine HI.out.mono ?_; rintro e w' ⟨rfl, rfl⟩)
  go_ret
  exact ⟨ret_bool HE.out, rfl⟩
/-- The four boxes of one step onward. -/
def OnS (V : World) (b2 b3 tt m wq : Nat) : Prop := V.cell? ⟨b2, 1, none⟩ = some (.float .f64 (qw m)) ∧ V.cell? ⟨b3, 0, none⟩ = some (.int .i64 (tt : Int)) ∧ V.cell? ⟨b3, 1, none⟩ = some (.float .f64 (qw wq))
set_option maxHeartbeats 8000000 in
theorem onward_any (l : List Nd) (na : Option Addr) (nc : Nat) (rv : Value) (at_ m f tt wq lim : Nat) (w : World) (h1 : rv.oneCell' = true) (hin : NodesIn w w.heap.size l na) (hl : NodesP l) (ht : tt < l.length) (hm : m ≤ 4294967296) (hw0 : 0 < wq) (hw : wq ≤ 4294967296) (hlim : lim ≤ 4294967296) :
    Calls Try.prog 51 #[.agg #[.slice na l.length nc, rv], .agg #[.int .i64 (at_ : Int), .float .f64 (qw m), .int .i64 (f : Int)], .agg #[.int .i64 (tt : Int), .float .f64 (qw wq)], .float .f64 (qw lim)] w fun e w' => e = .returned (.agg #[.int .i64 (tt : Int), .float .f64 (dw (addO wq (some m) lim)), .int .i64 (hop (idf l) tt f : Int)]) ∧ Below w.heap.size w w' := by
  have hst := g_storeL
  obtain ⟨W1, hW1⟩ : ∃ W1, W1 = (((w.alloc (.cells #[.slice na l.length nc, rv] 63)).alloc (.cells #[.int .i64 (at_ : Int), .float .f64 (qw m), .int .i64 (f : Int)] 74)).alloc (.cells #[.int .i64 (tt : Int), .float .f64 (qw wq)] 112)).alloc (.cells #[.int .i64 0, .float .f64 0, .int .i64 0] 74) := ⟨_, rfl⟩
  have hb1 : Below w.heap.size w W1 := by rw [hW1]; exact gNx (gAl _ _) (gNx (gAl _ _) (gNx (gAl _ _) (gAl _ _)))
  have hs1 : W1.heap.size = w.heap.size + 4 := by rw [hW1]; simp
  have k0 : W1.cell? ⟨w.heap.size, 0, none⟩ = some (.slice na l.length nc) := by rw [hW1]; simp [go_sem]
  have k2 : W1.cell? ⟨w.heap.size + 1, 1, none⟩ = some (.float .f64 (qw m)) := by rw [hW1]; simp [go_sem]
  have k3 : W1.cell? ⟨w.heap.size + 1, 2, none⟩ = some (.int .i64 (f : Int)) := by rw [hW1]; simp [go_sem]
  have k4 : W1.cell? ⟨w.heap.size + 2, 0, none⟩ = some (.int .i64 (tt : Int)) := by rw [hW1]; simp [go_sem]
  have k5 : W1.cell? ⟨w.heap.size + 2, 1, none⟩ = some (.float .f64 (qw wq)) := by rw [hW1]; simp [go_sem]
  have k6 : W1.heap[w.heap.size + 3]? = some (.cells #[.int .i64 0, .float .f64 0, .int .i64 0] 74 (0, 0)) := by
    rw [hW1]
    generalize hA : (((w.alloc (.cells #[.slice na l.length nc, rv] 63)).alloc (.cells #[.int .i64 (at_ : Int), .float .f64 (qw m), .int .i64 (f : Int)] 74)).alloc (.cells #[.int .i64 (tt : Int), .float .f64 (qw wq)] 112)) = A
    have hz : A.heap.size = w.heap.size + 3 := by rw [← hA]; simp
    rw [← hz]; exact heap_alloc_new _ _
  obtain ⟨b, o, hna, hbb, hcn⟩ := hin.at tt ht
  obtain ⟨n0, n1, n2⟩ := hcn tt ht
  have hid := (idf_is hl ht).1
  have hn0 : W1.cell? ⟨b, o + tt * 3, none⟩ = some (.int .i64 (idf l tt : Int)) := by
    rw [hb1.cell (p := ⟨b, o + tt * 3, none⟩) hbb, n0, hid]
  subst hna
  have ht1 : (tt : Int) < (l.length : Int) := by omega
  have ht0 : (0 : Int) ≤ (tt : Int) := by omega
  have HB1 := Lib.hid hb1
  have HS : Hid (∀ V, Below W1.heap.size W1 V → OnS V (w.heap.size + 1) (w.heap.size + 2) tt m wq ∧ V.heap[w.heap.size + 3]? = some (.cells #[.int .i64 0, .float .f64 0, .int .i64 0] 74 (0, 0))) := Lib.hid (fun V hV =>
    ⟨⟨(hV.cell (p := ⟨w.heap.size + 1, 1, none⟩) (by show w.heap.size + 1 < _; omega)).trans k2, (hV.cell (p := ⟨w.heap.size + 2, 0, none⟩) (by show w.heap.size + 2 < _; omega)).trans k4, (hV.cell (p := ⟨w.heap.size + 2, 1, none⟩) (by show w.heap.size + 2 < _; omega)).trans k5⟩, (hV.block _ (by omega)).trans k6⟩)
  have HS2 : Hid (∀ V : World, V.heap[w.heap.size + 1]? = W1.heap[w.heap.size + 1]? → V.heap[w.heap.size + 2]? = W1.heap[w.heap.size + 2]? → OnS V (w.heap.size + 1) (w.heap.size + 2) tt m wq) := Lib.hid (fun V g1 g2 =>
    ⟨(World.cell?_of_block g1).trans k2, (World.cell?_of_block g2).trans k4, (World.cell?_of_block g2).trans k5⟩)
  obtain ⟨s, hs⟩ := dw_some wq (some m) hw hm hw0
  have HADD := Lib.hid (fun V => add_some (qw wq) (qw m) (qw lim) s V hs)
  rw [show addF (qw wq) (qw m) (qw lim) = dw (addO wq (some m) lim) from dw_add wq (some m) lim hw hm hlim hw0] at HADD
  have HSZ := Lib.hid hs1
  clear k2 k5 k6 hin hl ht hb1 hcn n0 n1 n2 hid hbb hs1 hs
  generalize dw (addO wq (some m) lim) = DD at *
  by_cases hf : f = 0
  · have hf1 : ((f : Int) == 0) = true := by rw [hf]; rfl
    have hf2 : (f : Int) = 0 := by omega
    have HH : Hid (hop (idf l) tt f = idf l tt) := Lib.hid (if_pos hf)
    have HF2 := Lib.hid hf2
    clear hf hf2
    rw [HH.out]
    generalize idf l tt = fid at *
    go_enter Try.func51, Try.ntmps51
    go_upto_region 1 with (fail)
    rw [← hW1]
    clear hW1
    go_upto_region 4 with (fail)
    clear k0 k3 k4 hn0
    refine wp_region_held_drew (S := fun V => OnS V (w.heap.size + 1) (w.heap.size + 2) tt m wq) (by kernel_rfl) (HS.out _ (Below.drew (Below.refl _ _))).1 (fun hH => ?_)
    have B0 : Hid (Below W1.heap.size W1 W1.drew) := Lib.hid (Below.drew (Below.refl _ _))
    generalize W1.drew = V0 at *
    have hs0 : OnS V0 (w.heap.size + 1) (w.heap.size + 2) tt m wq := (HS.out _ B0.out).1
    refine tk 0 (by assumption) rfl (by kernel_rfl) (fun _ _ _ h => h) (fun V hV => by go_simp; try with_reducible rfl) ?_
    try simp only [Act.put, List.setIfInBounds_toArray, List.set_cons_zero, List.set_cons_succ, List.getElem_toArray, List.getElem_cons_succ, List.getElem_cons_zero]
    refine tk 1 (by assumption) rfl (by kernel_rfl) (fun _ _ _ h => h) (fun V hV => by obtain ⟨hx1, hx2, hx3⟩ := hV; go_simp; try with_reducible rfl) ?_
    try simp only [Act.put, List.setIfInBounds_toArray, List.set_cons_zero, List.set_cons_succ, List.getElem_toArray, List.getElem_cons_succ, List.getElem_cons_zero]
    refine tk 2 (by assumption) rfl (by kernel_rfl) (fun _ _ _ h => h) (fun V hV => by go_simp; try with_reducible rfl) ?_
    try simp only [Act.put, List.setIfInBounds_toArray, List.set_cons_zero, List.set_cons_succ, List.getElem_toArray, List.getElem_cons_succ, List.getElem_cons_zero]
    refine tk 3 (by assumption) rfl (by kernel_rfl) (fun _ _ _ h => h) (fun V hV => by obtain ⟨hx1, hx2, hx3⟩ := hV; go_simp; try with_reducible rfl) ?_
    try simp only [Act.put, List.setIfInBounds_toArray, List.set_cons_zero, List.set_cons_succ, List.getElem_toArray, List.getElem_cons_succ, List.getElem_cons_zero]
    refine tk 4 (by assumption) rfl (by kernel_rfl) (fun _ _ _ h => h) (fun V hV => by go_simp; try with_reducible rfl) ?_
    try simp only [Act.put, List.setIfInBounds_toArray, List.set_cons_zero, List.set_cons_succ, List.getElem_toArray, List.getElem_cons_succ, List.getElem_cons_zero]
    refine tk 5 (by assumption) rfl (by kernel_rfl) (fun _ _ _ h => h) (fun V hV => by obtain ⟨hx1, hx2, hx3⟩ := hV; go_simp; try with_reducible rfl) ?_
    try simp only [Act.put, List.setIfInBounds_toArray, List.set_cons_zero, List.set_cons_succ, List.getElem_toArray, List.getElem_cons_succ, List.getElem_cons_zero]
    refine tk 6 (by assumption) rfl (by kernel_rfl) (fun _ _ _ h => h) (fun V hV => by go_simp; try with_reducible rfl) ?_
    try simp only [Act.put, List.setIfInBounds_toArray, List.set_cons_zero, List.set_cons_succ, List.getElem_toArray, List.getElem_cons_succ, List.getElem_cons_zero]
    refine tk 8 (by assumption) rfl (by kernel_rfl) (fun _ _ _ h => h) (fun V hV => by go_simp; try with_reducible rfl) ?_
    try simp only [Act.put, List.setIfInBounds_toArray, List.set_cons_zero, List.set_cons_succ, List.getElem_toArray, List.getElem_cons_succ, List.getElem_cons_zero]
    refine wpAnyH_ready (rs := [7]) (by kernel_rfl) (by simp) ?_
    refine AllReadyH.cons (o := _) rfl (fun K hK => ?_) AllReadyH.nil
    go_simp
    refine (HADD.out _).mono ?_
    rintro e w2 ⟨rfl, rfl⟩
    go_wp2_with fail
    refine hK.out _ _ (HS.out _ B0.out).1 (fun hH => ?_)
    clear hK K
    try simp only [Act.put, List.setIfInBounds_toArray, List.set_cons_zero, List.set_cons_succ, List.getElem_toArray, List.getElem_cons_succ, List.getElem_cons_zero]
    refine tk 9 (by assumption) rfl (by kernel_rfl) (fun _ _ _ h => h) (fun V hV => by go_simp; try with_reducible rfl) ?_
    try simp only [Act.put, List.setIfInBounds_toArray, List.set_cons_zero, List.set_cons_succ, List.getElem_toArray, List.getElem_cons_succ, List.getElem_cons_zero]
    refine wpAnyH_ready (rs := [10]) (by kernel_rfl) (by simp) ?_
    refine AllReadyH.cons (o := _) rfl (fun K hK => ?_) AllReadyH.nil
    have hx := (HS.out _ B0.out).2
    have x0 : V0.cell? ⟨w.heap.size + 3, 0, none⟩ = some (.int .i64 0) := by rw [cell_of_row V0 _ 0 _ _ (0, 0) hx]; rfl
    have x1 : V0.cell? ⟨w.heap.size + 3, 1, none⟩ = some (.float .f64 0) := by rw [cell_of_row V0 _ 1 _ _ (0, 0) hx]; rfl
    have x2 : V0.cell? ⟨w.heap.size + 3, 2, none⟩ = some (.int .i64 0) := by rw [cell_of_row V0 _ 2 _ _ (0, 0) hx]; rfl
    have y0 := frozen_of_row V0 (w.heap.size + 3) 0 _ _ hx
    have y1 := frozen_of_row V0 (w.heap.size + 3) 1 _ _ hx
    have y2 := frozen_of_row V0 (w.heap.size + 3) 2 _ _ hx
    clear hx
    go_simp
    refine hK.out _ _ (HS2.out _ (by rw [Below.heap_setCell _ _ _ _ (by show w.heap.size + 1 ≠ w.heap.size + 3; omega), Below.heap_setCell _ _ _ _ (by show w.heap.size + 1 ≠ w.heap.size + 3; omega), Below.heap_setCell _ _ _ _ (by show w.heap.size + 1 ≠ w.heap.size + 3; omega)]; exact B0.out.block _ (by have := HSZ.out; omega)) (by rw [Below.heap_setCell _ _ _ _ (by show w.heap.size + 2 ≠ w.heap.size + 3; omega), Below.heap_setCell _ _ _ _ (by show w.heap.size + 2 ≠ w.heap.size + 3; omega), Below.heap_setCell _ _ _ _ (by show w.heap.size + 2 ≠ w.heap.size + 3; omega)]; exact B0.out.block _ (by have := HSZ.out; omega))) (fun hH => ?_)
    clear hK K x0 x1 x2 y0 y1 y2
    try simp only [Act.put, List.setIfInBounds_toArray, List.set_cons_zero, List.set_cons_succ, List.getElem_toArray, List.getElem_cons_succ, List.getElem_cons_zero]
    refine wpAnyH_done (by kernel_rfl) ?_ _
    go_wp2_with fail
    have hx := (HS.out _ B0.out).2
    have x1 := heap_setCell_same V0 (w.heap.size + 3) 0 _ _ (.int .i64 (tt : Int)) hx
    have x2 := heap_setCell_same _ (w.heap.size + 3) 1 _ _ (.float .f64 DD) x1
    have x3 := heap_setCell_same _ (w.heap.size + 3) 2 _ _ (.int .i64 (fid : Int)) x2
    refine bodyPost_ret (results_cell Try.results51 _ _ (w.heap.size + 3) 0 [.int .i64 (tt : Int), .float .f64 DD, .int .i64 (fid : Int)] _ rfl ?_ Try.underlying74 (by rfl) (by kernel_rfl)) rfl ?_
    · intro j u hj
      rw [cell_of_row _ _ _ _ _ (0, 0) x3]
      simpa using hj
    · exact ⟨rfl, (((gNx HB1.out B0.out).setCell (p := ⟨w.heap.size + 3, 0, none⟩) (by show w.heap.size ≤ w.heap.size + 3; omega) _).setCell (p := ⟨w.heap.size + 3, 1, none⟩) (by show w.heap.size ≤ w.heap.size + 3; omega) _).setCell (p := ⟨w.heap.size + 3, 2, none⟩) (by show w.heap.size ≤ w.heap.size + 3; omega) _⟩
  · have hfi : ((f : Int) == 0) = false := by rw [beq_eq_false_iff_ne]; omega
    have hfn : ¬ (f : Int) = 0 := by omega
    have HH : Hid (hop (idf l) tt f = f) := Lib.hid (if_neg hf)
    rw [HH.out]
    generalize hfid : f = fid at *
    clear hfid
    go_enter Try.func51, Try.ntmps51
    go_upto_region 1 with (fail)
    rw [← hW1]
    clear hW1
    go_upto_region 4 with (fail)
    clear k0 k3 k4 hn0
    refine wp_region_held_drew (S := fun V => OnS V (w.heap.size + 1) (w.heap.size + 2) tt m wq) (by kernel_rfl) (HS.out _ (Below.drew (Below.refl _ _))).1 (fun hH => ?_)
    have B0 : Hid (Below W1.heap.size W1 W1.drew) := Lib.hid (Below.drew (Below.refl _ _))
    generalize W1.drew = V0 at *
    have hs0 : OnS V0 (w.heap.size + 1) (w.heap.size + 2) tt m wq := (HS.out _ B0.out).1
    refine tk 0 (by assumption) rfl (by kernel_rfl) (fun _ _ _ h => h) (fun V hV => by go_simp; try with_reducible rfl) ?_
    try simp only [Act.put, List.setIfInBounds_toArray, List.set_cons_zero, List.set_cons_succ, List.getElem_toArray, List.getElem_cons_succ, List.getElem_cons_zero]
    refine tk 1 (by assumption) rfl (by kernel_rfl) (fun _ _ _ h => h) (fun V hV => by obtain ⟨hx1, hx2, hx3⟩ := hV; go_simp; try with_reducible rfl) ?_
    try simp only [Act.put, List.setIfInBounds_toArray, List.set_cons_zero, List.set_cons_succ, List.getElem_toArray, List.getElem_cons_succ, List.getElem_cons_zero]
    refine tk 2 (by assumption) rfl (by kernel_rfl) (fun _ _ _ h => h) (fun V hV => by go_simp; try with_reducible rfl) ?_
    try simp only [Act.put, List.setIfInBounds_toArray, List.set_cons_zero, List.set_cons_succ, List.getElem_toArray, List.getElem_cons_succ, List.getElem_cons_zero]
    refine tk 3 (by assumption) rfl (by kernel_rfl) (fun _ _ _ h => h) (fun V hV => by obtain ⟨hx1, hx2, hx3⟩ := hV; go_simp; try with_reducible rfl) ?_
    try simp only [Act.put, List.setIfInBounds_toArray, List.set_cons_zero, List.set_cons_succ, List.getElem_toArray, List.getElem_cons_succ, List.getElem_cons_zero]
    refine tk 4 (by assumption) rfl (by kernel_rfl) (fun _ _ _ h => h) (fun V hV => by go_simp; try with_reducible rfl) ?_
    try simp only [Act.put, List.setIfInBounds_toArray, List.set_cons_zero, List.set_cons_succ, List.getElem_toArray, List.getElem_cons_succ, List.getElem_cons_zero]
    refine tk 5 (by assumption) rfl (by kernel_rfl) (fun _ _ _ h => h) (fun V hV => by obtain ⟨hx1, hx2, hx3⟩ := hV; go_simp; try with_reducible rfl) ?_
    try simp only [Act.put, List.setIfInBounds_toArray, List.set_cons_zero, List.set_cons_succ, List.getElem_toArray, List.getElem_cons_succ, List.getElem_cons_zero]
    refine tk 6 (by assumption) rfl (by kernel_rfl) (fun _ _ _ h => h) (fun V hV => by go_simp; try with_reducible rfl) ?_
    try simp only [Act.put, List.setIfInBounds_toArray, List.set_cons_zero, List.set_cons_succ, List.getElem_toArray, List.getElem_cons_succ, List.getElem_cons_zero]
    refine tk 8 (by assumption) rfl (by kernel_rfl) (fun _ _ _ h => h) (fun V hV => by go_simp; try with_reducible rfl) ?_
    try simp only [Act.put, List.setIfInBounds_toArray, List.set_cons_zero, List.set_cons_succ, List.getElem_toArray, List.getElem_cons_succ, List.getElem_cons_zero]
    refine wpAnyH_ready (rs := [7]) (by kernel_rfl) (by simp) ?_
    refine AllReadyH.cons (o := _) rfl (fun K hK => ?_) AllReadyH.nil
    go_simp
    refine (HADD.out _).mono ?_
    rintro e w2 ⟨rfl, rfl⟩
    go_wp2_with fail
    refine hK.out _ _ (HS.out _ B0.out).1 (fun hH => ?_)
    clear hK K
    try simp only [Act.put, List.setIfInBounds_toArray, List.set_cons_zero, List.set_cons_succ, List.getElem_toArray, List.getElem_cons_succ, List.getElem_cons_zero]
    refine tk 9 (by assumption) rfl (by kernel_rfl) (fun _ _ _ h => h) (fun V hV => by go_simp; try with_reducible rfl) ?_
    try simp only [Act.put, List.setIfInBounds_toArray, List.set_cons_zero, List.set_cons_succ, List.getElem_toArray, List.getElem_cons_succ, List.getElem_cons_zero]
    refine wpAnyH_ready (rs := [10]) (by kernel_rfl) (by simp) ?_
    refine AllReadyH.cons (o := _) rfl (fun K hK => ?_) AllReadyH.nil
    have hx := (HS.out _ B0.out).2
    have x0 : V0.cell? ⟨w.heap.size + 3, 0, none⟩ = some (.int .i64 0) := by rw [cell_of_row V0 _ 0 _ _ (0, 0) hx]; rfl
    have x1 : V0.cell? ⟨w.heap.size + 3, 1, none⟩ = some (.float .f64 0) := by rw [cell_of_row V0 _ 1 _ _ (0, 0) hx]; rfl
    have x2 : V0.cell? ⟨w.heap.size + 3, 2, none⟩ = some (.int .i64 0) := by rw [cell_of_row V0 _ 2 _ _ (0, 0) hx]; rfl
    have y0 := frozen_of_row V0 (w.heap.size + 3) 0 _ _ hx
    have y1 := frozen_of_row V0 (w.heap.size + 3) 1 _ _ hx
    have y2 := frozen_of_row V0 (w.heap.size + 3) 2 _ _ hx
    clear hx
    go_simp
    refine hK.out _ _ (HS2.out _ (by rw [Below.heap_setCell _ _ _ _ (by show w.heap.size + 1 ≠ w.heap.size + 3; omega), Below.heap_setCell _ _ _ _ (by show w.heap.size + 1 ≠ w.heap.size + 3; omega), Below.heap_setCell _ _ _ _ (by show w.heap.size + 1 ≠ w.heap.size + 3; omega)]; exact B0.out.block _ (by have := HSZ.out; omega)) (by rw [Below.heap_setCell _ _ _ _ (by show w.heap.size + 2 ≠ w.heap.size + 3; omega), Below.heap_setCell _ _ _ _ (by show w.heap.size + 2 ≠ w.heap.size + 3; omega), Below.heap_setCell _ _ _ _ (by show w.heap.size + 2 ≠ w.heap.size + 3; omega)]; exact B0.out.block _ (by have := HSZ.out; omega))) (fun hH => ?_)
    clear hK K x0 x1 x2 y0 y1 y2
    try simp only [Act.put, List.setIfInBounds_toArray, List.set_cons_zero, List.set_cons_succ, List.getElem_toArray, List.getElem_cons_succ, List.getElem_cons_zero]
    refine wpAnyH_done (by kernel_rfl) ?_ _
    go_wp2_with fail
    have hx := (HS.out _ B0.out).2
    have x1 := heap_setCell_same V0 (w.heap.size + 3) 0 _ _ (.int .i64 (tt : Int)) hx
    have x2 := heap_setCell_same _ (w.heap.size + 3) 1 _ _ (.float .f64 DD) x1
    have x3 := heap_setCell_same _ (w.heap.size + 3) 2 _ _ (.int .i64 (fid : Int)) x2
    refine bodyPost_ret (results_cell Try.results51 _ _ (w.heap.size + 3) 0 [.int .i64 (tt : Int), .float .f64 DD, .int .i64 (fid : Int)] _ rfl ?_ Try.underlying74 (by rfl) (by kernel_rfl)) rfl ?_
    · intro j u hj
      rw [cell_of_row _ _ _ _ _ (0, 0) x3]
      simpa using hj
    · exact ⟨rfl, (((gNx HB1.out B0.out).setCell (p := ⟨w.heap.size + 3, 0, none⟩) (by show w.heap.size ≤ w.heap.size + 3; omega) _).setCell (p := ⟨w.heap.size + 3, 1, none⟩) (by show w.heap.size ≤ w.heap.size + 3; omega) _).setCell (p := ⟨w.heap.size + 3, 2, none⟩) (by show w.heap.size ≤ w.heap.size + 3; omega) _⟩
end Go.Proofs.Ytomcnaghdfhkkaa
