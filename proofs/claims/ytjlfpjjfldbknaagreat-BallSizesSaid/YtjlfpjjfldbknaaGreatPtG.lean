/- Paths: too far; one step onward. Paths: while one goes out: what lies in memory. -/
import Derived.Test.YtjlfpjjfldbknaaGreatPtD
import Derived.Test.YtjlfpjjfldbknaaGreatPqA
section
namespace Go.Proofs.YtjlfpjjfldbknaaGreat
open Go.RowKit Go.Lib Go.Fq Go.Pq Go.Iq Go.Nq Go.Ow
set_option linter.unusedVariables false
set_option linter.unusedSimpArgs false
set_option maxRecDepth 100000

theorem inf1_any (w : World) : Calls Tryz.prog 54 #[.int .i64 1] w fun e w' => e = .returned (.float .f64 INF) ∧ w = w' := by
  have e3 := x_from
  go_enter Tryz.func54, Tryz.ntmps54
  go_wp2_with fail
  go_ret
  exact ⟨rfl, rfl⟩
theorem tooFar_any (a : Option Nat) (h : Sm a) (w : World) : Calls Tryz.prog 100 #[.float .f64 (dw a)] w fun e w' => e = .returned (.bool a.isNone) ∧ w = w' := by
  have HI := Lib.hid (isinf1 (dw a) w (dw_ng h))
  have HE := Lib.hid (dw_inf h)
  generalize dw a = d at *
  clear h
  go_enter Tryz.func100, Tryz.ntmps100
  go_wp2_with (go_at_call 71; refine HI.out.mono ?_; rintro e w' ⟨rfl, rfl⟩)
  go_ret
  exact ⟨ret_bool HE.out, rfl⟩
/-- The four boxes of one step onward. -/
def OnS (V : World) (b2 b3 tt m wq : Nat) : Prop := V.cell? ⟨b2, 1, none⟩ = some (.float .f64 (qw m)) ∧ V.cell? ⟨b3, 0, none⟩ = some (.int .i64 (tt : Int)) ∧ V.cell? ⟨b3, 1, none⟩ = some (.float .f64 (qw wq))
set_option maxHeartbeats 8000000 in
theorem onward_any (l : List Nd) (na : Option Addr) (nc : Nat) (rv : Value) (at_ m f tt wq lim : Nat) (w : World) (h1 : rv.oneCell' = true) (hin : NodesIn w w.heap.size l na) (hl : NodesP l) (ht : tt < l.length) (hm : m ≤ 4294967296) (hw0 : 0 < wq) (hw : wq ≤ 4294967296) (hlim : lim ≤ 4294967296) :
    Calls Tryz.prog 101 #[.agg #[.slice na l.length nc, rv], .agg #[.int .i64 (at_ : Int), .float .f64 (qw m), .int .i64 (f : Int)], .agg #[.int .i64 (tt : Int), .float .f64 (qw wq)], .float .f64 (qw lim)] w fun e w' => e = .returned (.agg #[.int .i64 (tt : Int), .float .f64 (dw (addO wq (some m) lim)), .int .i64 (hop (idf l) tt f : Int)]) ∧ Below w.heap.size w w' := by
  have hst := g_storeL
  obtain ⟨W1, hW1⟩ : ∃ W1, W1 = (((w.alloc (.cells #[.slice na l.length nc, rv] 125)).alloc (.cells #[.int .i64 (at_ : Int), .float .f64 (qw m), .int .i64 (f : Int)] 134)).alloc (.cells #[.int .i64 (tt : Int), .float .f64 (qw wq)] 143)).alloc (.cells #[.int .i64 0, .float .f64 0, .int .i64 0] 134) := ⟨_, rfl⟩
  have hb1 : Below w.heap.size w W1 := by rw [hW1]; exact gNx (gAl _ _) (gNx (gAl _ _) (gNx (gAl _ _) (gAl _ _)))
  have hs1 : W1.heap.size = w.heap.size + 4 := by rw [hW1]; simp
  have k0 : W1.cell? ⟨w.heap.size, 0, none⟩ = some (.slice na l.length nc) := by rw [hW1]; simp [go_sem]
  have k2 : W1.cell? ⟨w.heap.size + 1, 1, none⟩ = some (.float .f64 (qw m)) := by rw [hW1]; simp [go_sem]
  have k3 : W1.cell? ⟨w.heap.size + 1, 2, none⟩ = some (.int .i64 (f : Int)) := by rw [hW1]; simp [go_sem]
  have k4 : W1.cell? ⟨w.heap.size + 2, 0, none⟩ = some (.int .i64 (tt : Int)) := by rw [hW1]; simp [go_sem]
  have k5 : W1.cell? ⟨w.heap.size + 2, 1, none⟩ = some (.float .f64 (qw wq)) := by rw [hW1]; simp [go_sem]
  have k6 : W1.heap[w.heap.size + 3]? = some (.cells #[.int .i64 0, .float .f64 0, .int .i64 0] 134 (0, 0)) := by
    rw [hW1]
    generalize hA : (((w.alloc (.cells #[.slice na l.length nc, rv] 125)).alloc (.cells #[.int .i64 (at_ : Int), .float .f64 (qw m), .int .i64 (f : Int)] 134)).alloc (.cells #[.int .i64 (tt : Int), .float .f64 (qw wq)] 143)) = A
    have hz : A.heap.size = w.heap.size + 3 := by rw [← hA]; simp
    rw [← hz]; exact heap_alloc_new _ _
  obtain ⟨b, o, hna, hbb, hcn⟩ := hin.at tt ht
  obtain ⟨n0, n1, n2⟩ := hcn tt ht
  have hid := (idf_is hl ht).1
  have hn0 : W1.cell? ⟨b, o + tt * 3, none⟩ = some (.int .i64 (idf l tt : Int)) := by
    rw [hb1.cell (p := ⟨b, o + tt * 3, none⟩) hbb, n0, hid]
  subst hna
  have ht1 : (tt : Int) < (l.length : Int) := by omega
  have ht0 : (0 : Int) ≤ (tt : Int) := by omega
  have HB1 := Lib.hid hb1
  have HS : Hid (∀ V, Below W1.heap.size W1 V → OnS V (w.heap.size + 1) (w.heap.size + 2) tt m wq ∧ V.heap[w.heap.size + 3]? = some (.cells #[.int .i64 0, .float .f64 0, .int .i64 0] 134 (0, 0))) := Lib.hid (fun V hV =>
    ⟨⟨(hV.cell (p := ⟨w.heap.size + 1, 1, none⟩) (by show w.heap.size + 1 < _; omega)).trans k2, (hV.cell (p := ⟨w.heap.size + 2, 0, none⟩) (by show w.heap.size + 2 < _; omega)).trans k4, (hV.cell (p := ⟨w.heap.size + 2, 1, none⟩) (by show w.heap.size + 2 < _; omega)).trans k5⟩, (hV.block _ (by omega)).trans k6⟩)
  have HS2 : Hid (∀ V : World, V.heap[w.heap.size + 1]? = W1.heap[w.heap.size + 1]? → V.heap[w.heap.size + 2]? = W1.heap[w.heap.size + 2]? → OnS V (w.heap.size + 1) (w.heap.size + 2) tt m wq) := Lib.hid (fun V g1 g2 =>
    ⟨(World.cell?_of_block g1).trans k2, (World.cell?_of_block g2).trans k4, (World.cell?_of_block g2).trans k5⟩)
  obtain ⟨s, hs⟩ := dw_some wq (some m) hw hm hw0
  have HADD := Lib.hid (fun V => add_some (qw wq) (qw m) (qw lim) s V hs)
  rw [show addF (qw wq) (qw m) (qw lim) = dw (addO wq (some m) lim) from dw_add wq (some m) lim hw hm hlim hw0] at HADD
  have HSZ := Lib.hid hs1
  clear k2 k5 k6 hin hl ht hb1 hcn n0 n1 n2 hid hbb hs1 hs
  generalize dw (addO wq (some m) lim) = DD at *
  by_cases hf : f = 0
  · have hf1 : ((f : Int) == 0) = true := by rw [hf]; rfl
    have hf2 : (f : Int) = 0 := by omega
    have HH : Hid (hop (idf l) tt f = idf l tt) := Lib.hid (if_pos hf)
    have HF2 := Lib.hid hf2
    clear hf hf2
    rw [HH.out]
    generalize idf l tt = fid at *
    go_enter Tryz.func101, Tryz.ntmps101
    go_upto_region 1 with (fail)
    rw [← hW1]
    clear hW1
    go_upto_region 4 with (fail)
    clear k0 k3 k4 hn0
    refine wp_region_held_drew (S := fun V => OnS V (w.heap.size + 1) (w.heap.size + 2) tt m wq) (by kernel_rfl) (HS.out _ (Below.drew (Below.refl _ _))).1 (fun hH => ?_)
    have B0 : Hid (Below W1.heap.size W1 W1.drew) := Lib.hid (Below.drew (Below.refl _ _))
    generalize W1.drew = V0 at *
    have hs0 : OnS V0 (w.heap.size + 1) (w.heap.size + 2) tt m wq := (HS.out _ B0.out).1
    refine tk 0 (by assumption) rfl (by kernel_rfl) (fun _ _ _ h => h) (fun V hV => by go_simp; try with_reducible rfl) ?_
    try simp only [Act.put, sqA, sqB, sqC, sqD, sqE, sqF]
    refine tk 1 (by assumption) rfl (by kernel_rfl) (fun _ _ _ h => h) (fun V hV => by obtain ⟨hx1, hx2, hx3⟩ := hV; go_simp; try with_reducible rfl) ?_
    try simp only [Act.put, sqA, sqB, sqC, sqD, sqE, sqF]
    refine tk 2 (by assumption) rfl (by kernel_rfl) (fun _ _ _ h => h) (fun V hV => by go_simp; try with_reducible rfl) ?_
    try simp only [Act.put, sqA, sqB, sqC, sqD, sqE, sqF]
    refine tk 3 (by assumption) rfl (by kernel_rfl) (fun _ _ _ h => h) (fun V hV => by obtain ⟨hx1, hx2, hx3⟩ := hV; go_simp; try with_reducible rfl) ?_
    try simp only [Act.put, sqA, sqB, sqC, sqD, sqE, sqF]
    refine tk 4 (by assumption) rfl (by kernel_rfl) (fun _ _ _ h => h) (fun V hV => by go_simp; try with_reducible rfl) ?_
    try simp only [Act.put, sqA, sqB, sqC, sqD, sqE, sqF]
    refine tk 5 (by assumption) rfl (by kernel_rfl) (fun _ _ _ h => h) (fun V hV => by obtain ⟨hx1, hx2, hx3⟩ := hV; go_simp; try with_reducible rfl) ?_
    try simp only [Act.put, sqA, sqB, sqC, sqD, sqE, sqF]
    refine tk 6 (by assumption) rfl (by kernel_rfl) (fun _ _ _ h => h) (fun V hV => by go_simp; try with_reducible rfl) ?_
    try simp only [Act.put, sqA, sqB, sqC, sqD, sqE, sqF]
    refine tk 8 (by assumption) rfl (by kernel_rfl) (fun _ _ _ h => h) (fun V hV => by go_simp; try with_reducible rfl) ?_
    try simp only [Act.put, sqA, sqB, sqC, sqD, sqE, sqF]
    refine wpAnyH_ready (rs := [7]) (by kernel_rfl) (by simp) ?_
    refine AllReadyH.cons (o := _) rfl (fun K hK => ?_) AllReadyH.nil
    go_simp
    refine (HADD.out _).mono ?_
    rintro e w2 ⟨rfl, rfl⟩
    go_wp2_with fail
    refine hK.out _ _ (HS.out _ B0.out).1 (fun hH => ?_)
    clear hK K
    try simp only [Act.put, sqA, sqB, sqC, sqD, sqE, sqF]
    refine tk 9 (by assumption) rfl (by kernel_rfl) (fun _ _ _ h => h) (fun V hV => by go_simp; try with_reducible rfl) ?_
    try simp only [Act.put, sqA, sqB, sqC, sqD, sqE, sqF]
    refine wpAnyH_ready (rs := [10]) (by kernel_rfl) (by simp) ?_
    refine AllReadyH.cons (o := _) rfl (fun K hK => ?_) AllReadyH.nil
    have hx := (HS.out _ B0.out).2
    have x0 : V0.cell? ⟨w.heap.size + 3, 0, none⟩ = some (.int .i64 0) := by rw [cell_of_row V0 _ 0 _ _ (0, 0) hx]; rfl
    have x1 : V0.cell? ⟨w.heap.size + 3, 1, none⟩ = some (.float .f64 0) := by rw [cell_of_row V0 _ 1 _ _ (0, 0) hx]; rfl
    have x2 : V0.cell? ⟨w.heap.size + 3, 2, none⟩ = some (.int .i64 0) := by rw [cell_of_row V0 _ 2 _ _ (0, 0) hx]; rfl
    have y0 := frozen_of_row V0 (w.heap.size + 3) 0 _ _ hx
    have y1 := frozen_of_row V0 (w.heap.size + 3) 1 _ _ hx
    have y2 := frozen_of_row V0 (w.heap.size + 3) 2 _ _ hx
    clear hx
    go_simp
    refine hK.out _ _ (HS2.out _ (by rw [Below.heap_setCell _ _ _ _ (by show w.heap.size + 1 ≠ w.heap.size + 3; omega), Below.heap_setCell _ _ _ _ (by show w.heap.size + 1 ≠ w.heap.size + 3; omega), Below.heap_setCell _ _ _ _ (by show w.heap.size + 1 ≠ w.heap.size + 3; omega)]; exact B0.out.block _ (by have := HSZ.out; omega)) (by rw [Below.heap_setCell _ _ _ _ (by show w.heap.size + 2 ≠ w.heap.size + 3; omega), Below.heap_setCell _ _ _ _ (by show w.heap.size + 2 ≠ w.heap.size + 3; omega), Below.heap_setCell _ _ _ _ (by show w.heap.size + 2 ≠ w.heap.size + 3; omega)]; exact B0.out.block _ (by have := HSZ.out; omega))) (fun hH => ?_)
    clear hK K x0 x1 x2 y0 y1 y2
    try simp only [Act.put, sqA, sqB, sqC, sqD, sqE, sqF]
    refine wpAnyH_done (by kernel_rfl) ?_ _
    go_wp2_with fail
    have hx := (HS.out _ B0.out).2
    have x1 := heap_setCell_same V0 (w.heap.size + 3) 0 _ _ (.int .i64 (tt : Int)) hx
    have x2 := heap_setCell_same _ (w.heap.size + 3) 1 _ _ (.float .f64 DD) x1
    have x3 := heap_setCell_same _ (w.heap.size + 3) 2 _ _ (.int .i64 (fid : Int)) x2
    refine bodyPost_ret (results_cell Tryz.results101 _ _ (w.heap.size + 3) 0 [.int .i64 (tt : Int), .float .f64 DD, .int .i64 (fid : Int)] _ rfl ?_ Tryz.underlying134 (by rfl) (by kernel_rfl)) rfl ?_
    · intro j u hj
      rw [cell_of_row _ _ _ _ _ (0, 0) x3]
      simpa using hj
    · exact ⟨rfl, (((gNx HB1.out B0.out).setCell (p := ⟨w.heap.size + 3, 0, none⟩) (by show w.heap.size ≤ w.heap.size + 3; omega) _).setCell (p := ⟨w.heap.size + 3, 1, none⟩) (by show w.heap.size ≤ w.heap.size + 3; omega) _).setCell (p := ⟨w.heap.size + 3, 2, none⟩) (by show w.heap.size ≤ w.heap.size + 3; omega) _⟩
  · have hfi : ((f : Int) == 0) = false := by rw [beq_eq_false_iff_ne]; omega
    have hfn : ¬ (f : Int) = 0 := by omega
    have HH : Hid (hop (idf l) tt f = f) := Lib.hid (if_neg hf)
    rw [HH.out]
    generalize hfid : f = fid at *
    clear hfid
    go_enter Tryz.func101, Tryz.ntmps101
    go_upto_region 1 with (fail)
    rw [← hW1]
    clear hW1
    go_upto_region 4 with (fail)
    clear k0 k3 k4 hn0
    refine wp_region_held_drew (S := fun V => OnS V (w.heap.size + 1) (w.heap.size + 2) tt m wq) (by kernel_rfl) (HS.out _ (Below.drew (Below.refl _ _))).1 (fun hH => ?_)
    have B0 : Hid (Below W1.heap.size W1 W1.drew) := Lib.hid (Below.drew (Below.refl _ _))
    generalize W1.drew = V0 at *
    have hs0 : OnS V0 (w.heap.size + 1) (w.heap.size + 2) tt m wq := (HS.out _ B0.out).1
    refine tk 0 (by assumption) rfl (by kernel_rfl) (fun _ _ _ h => h) (fun V hV => by go_simp; try with_reducible rfl) ?_
    try simp only [Act.put, sqA, sqB, sqC, sqD, sqE, sqF]
    refine tk 1 (by assumption) rfl (by kernel_rfl) (fun _ _ _ h => h) (fun V hV => by obtain ⟨hx1, hx2, hx3⟩ := hV; go_simp; try with_reducible rfl) ?_
    try simp only [Act.put, sqA, sqB, sqC, sqD, sqE, sqF]
    refine tk 2 (by assumption) rfl (by kernel_rfl) (fun _ _ _ h => h) (fun V hV => by go_simp; try with_reducible rfl) ?_
    try simp only [Act.put, sqA, sqB, sqC, sqD, sqE, sqF]
    refine tk 3 (by assumption) rfl (by kernel_rfl) (fun _ _ _ h => h) (fun V hV => by obtain ⟨hx1, hx2, hx3⟩ := hV; go_simp; try with_reducible rfl) ?_
    try simp only [Act.put, sqA, sqB, sqC, sqD, sqE, sqF]
    refine tk 4 (by assumption) rfl (by kernel_rfl) (fun _ _ _ h => h) (fun V hV => by go_simp; try with_reducible rfl) ?_
    try simp only [Act.put, sqA, sqB, sqC, sqD, sqE, sqF]
    refine tk 5 (by assumption) rfl (by kernel_rfl) (fun _ _ _ h => h) (fun V hV => by obtain ⟨hx1, hx2, hx3⟩ := hV; go_simp; try with_reducible rfl) ?_
    try simp only [Act.put, sqA, sqB, sqC, sqD, sqE, sqF]
    refine tk 6 (by assumption) rfl (by kernel_rfl) (fun _ _ _ h => h) (fun V hV => by go_simp; try with_reducible rfl) ?_
    try simp only [Act.put, sqA, sqB, sqC, sqD, sqE, sqF]
    refine tk 8 (by assumption) rfl (by kernel_rfl) (fun _ _ _ h => h) (fun V hV => by go_simp; try with_reducible rfl) ?_
    try simp only [Act.put, sqA, sqB, sqC, sqD, sqE, sqF]
    refine wpAnyH_ready (rs := [7]) (by kernel_rfl) (by simp) ?_
    refine AllReadyH.cons (o := _) rfl (fun K hK => ?_) AllReadyH.nil
    go_simp
    refine (HADD.out _).mono ?_
    rintro e w2 ⟨rfl, rfl⟩
    go_wp2_with fail
    refine hK.out _ _ (HS.out _ B0.out).1 (fun hH => ?_)
    clear hK K
    try simp only [Act.put, sqA, sqB, sqC, sqD, sqE, sqF]
    refine tk 9 (by assumption) rfl (by kernel_rfl) (fun _ _ _ h => h) (fun V hV => by go_simp; try with_reducible rfl) ?_
    try simp only [Act.put, sqA, sqB, sqC, sqD, sqE, sqF]
    refine wpAnyH_ready (rs := [10]) (by kernel_rfl) (by simp) ?_
    refine AllReadyH.cons (o := _) rfl (fun K hK => ?_) AllReadyH.nil
    have hx := (HS.out _ B0.out).2
    have x0 : V0.cell? ⟨w.heap.size + 3, 0, none⟩ = some (.int .i64 0) := by rw [cell_of_row V0 _ 0 _ _ (0, 0) hx]; rfl
    have x1 : V0.cell? ⟨w.heap.size + 3, 1, none⟩ = some (.float .f64 0) := by rw [cell_of_row V0 _ 1 _ _ (0, 0) hx]; rfl
    have x2 : V0.cell? ⟨w.heap.size + 3, 2, none⟩ = some (.int .i64 0) := by rw [cell_of_row V0 _ 2 _ _ (0, 0) hx]; rfl
    have y0 := frozen_of_row V0 (w.heap.size + 3) 0 _ _ hx
    have y1 := frozen_of_row V0 (w.heap.size + 3) 1 _ _ hx
    have y2 := frozen_of_row V0 (w.heap.size + 3) 2 _ _ hx
    clear hx
    go_simp
    refine hK.out _ _ (HS2.out _ (by rw [Below.heap_setCell _ _ _ _ (by show w.heap.size + 1 ≠ w.heap.size + 3; omega), Below.heap_setCell _ _ _ _ (by show w.heap.size + 1 ≠ w.heap.size + 3; omega), Below.heap_setCell _ _ _ _ (by show w.heap.size + 1 ≠ w.heap.size + 3; omega)]; exact B0.out.block _ (by have := HSZ.out; omega)) (by rw [Below.heap_setCell _ _ _ _ (by show w.heap.size + 2 ≠ w.heap.size + 3; omega), Below.heap_setCell _ _ _ _ (by show w.heap.size + 2 ≠ w.heap.size + 3; omega), Below.heap_setCell _ _ _ _ (by show w.heap.size + 2 ≠ w.heap.size + 3; omega)]; exact B0.out.block _ (by have := HSZ.out; omega))) (fun hH => ?_)
    clear hK K x0 x1 x2 y0 y1 y2
    try simp only [Act.put, sqA, sqB, sqC, sqD, sqE, sqF]
    refine wpAnyH_done (by kernel_rfl) ?_ _
    go_wp2_with fail
    have hx := (HS.out _ B0.out).2
    have x1 := heap_setCell_same V0 (w.heap.size + 3) 0 _ _ (.int .i64 (tt : Int)) hx
    have x2 := heap_setCell_same _ (w.heap.size + 3) 1 _ _ (.float .f64 DD) x1
    have x3 := heap_setCell_same _ (w.heap.size + 3) 2 _ _ (.int .i64 (fid : Int)) x2
    refine bodyPost_ret (results_cell Tryz.results101 _ _ (w.heap.size + 3) 0 [.int .i64 (tt : Int), .float .f64 DD, .int .i64 (fid : Int)] _ rfl ?_ Tryz.underlying134 (by rfl) (by kernel_rfl)) rfl ?_
    · intro j u hj
      rw [cell_of_row _ _ _ _ _ (0, 0) x3]
      simpa using hj
    · exact ⟨rfl, (((gNx HB1.out B0.out).setCell (p := ⟨w.heap.size + 3, 0, none⟩) (by show w.heap.size ≤ w.heap.size + 3; omega) _).setCell (p := ⟨w.heap.size + 3, 1, none⟩) (by show w.heap.size ≤ w.heap.size + 3; omega) _).setCell (p := ⟨w.heap.size + 3, 2, none⟩) (by show w.heap.size ≤ w.heap.size + 3; omega) _⟩
end Go.Proofs.YtjlfpjjfldbknaaGreat
end

section
namespace Go.Ow
open Go.RowKit Go.Lib
set_option linter.unusedVariables false
set_option linter.unusedSimpArgs false
/-- Below block B all is as it was, but for block x. -/
structure BelowX (B x : Nat) (a b : World) : Prop where
  os : b.os = a.os
  tape : b.tape = a.tape
  output : b.output = a.output
  size : a.heap.size ≤ b.heap.size
  block : ∀ j, j < B → j ≠ x → b.heap[j]? = a.heap[j]?
theorem BelowX.refl (B x : Nat) (w : World) : BelowX B x w w := ⟨rfl, rfl, rfl, Nat.le_refl _, fun _ _ _ => rfl⟩
theorem BelowX.trans {B x : Nat} {a b c : World} (h : BelowX B x a b) (k : BelowX B x b c) : BelowX B x a c :=
  ⟨k.os.trans h.os, k.tape.trans h.tape, k.output.trans h.output, Nat.le_trans h.size k.size, fun j hj hx => (k.block j hj hx).trans (h.block j hj hx)⟩
theorem BelowX.of_below {B x : Nat} {a b : World} (h : Below B a b) : BelowX B x a b := ⟨h.os, h.tape, h.output, h.size, fun j hj _ => h.block j hj⟩
theorem BelowX.shut {B x : Nat} {a b c : World} (h : BelowX B x a b) (hB : B ≤ b.heap.size) (k : Below b.heap.size b c) : BelowX B x a c := h.trans (BelowX.of_below (k.mono hB))
theorem BelowX.below {B x C : Nat} {a b : World} (h : BelowX B x a b) (hC : C ≤ B) (hx : C ≤ x) : Below C a b := ⟨h.os, h.tape, h.output, h.size, fun j hj => h.block j (by omega) (by omega)⟩
theorem BelowX.setCell {B x : Nat} {a b : World} (h : BelowX B x a b) {g o : Nat} (hg : B ≤ g) (u : Value) : BelowX B x a (b.setCell ⟨g, o, none⟩ u) :=
  h.trans ⟨rfl, rfl, rfl, by simp [World.setCell], fun j hj hx => Below.heap_setCell _ _ _ _ (by show j ≠ g; omega)⟩
theorem own_base_not {w : World} {base : Nat} {e : TypeId} {k n : Nat} {v : Value} {xs : List Value} (h : Own w base e k v n xs) (j : Nat) (hj : j < base) : NotRow v j := by
  intro n' c hv
  rcases h with ⟨rfl, rfl, a, rfl⟩ | ⟨g, cap, cur, rfl, hbg, hg, hnc, hcm, hcs, hx⟩
  · cases hv; rfl
  · cases hv; omega
theorem Kq.belowX {q : Nat} {v v' : Value} {a b : World} {base : Nat} {e : TypeId} {k n : Nat} {xs : List Value} (h : Kq q v v' a b) (ho : Own a base e k v n xs) (hb : base ≤ a.heap.size) : BelowX base q a b :=
  ⟨h.os, h.tape, h.output, h.size, fun j hj hx => h.block j (by omega) hx (own_base_not ho j hj)⟩
/-- A row whose block is not written stays. -/
theorem own_other {w w' : World} {base : Nat} {e : TypeId} {k n b : Nat} {v : Value} {xs : List Value} (h : Own w base e k v n xs) (hb : NotRow v b) (hk : ∀ j, j ≠ b → w'.heap[j]? = w.heap[j]?) : Own w' base e k v n xs := by
  rcases h with h | ⟨g, cap, cur, rfl, hbg, hg, hnc, hcm, hcs, hx⟩
  · exact Or.inl h
  · by_cases hn : cap = 0
    · subst hn
      have hn0 : n = 0 := by omega
      subst hn0
      exact Or.inl ⟨rfl, by rw [← hx]; simp, _, rfl⟩
    · have hne : g ≠ b := fun e => by subst e; exact hn (hb _ _ rfl)
      exact Or.inr ⟨g, cap, cur, rfl, hbg, (hk g hne).trans hg, hnc, hcm, hcs, hx⟩
theorem set3_other (w : World) (b o1 o2 o3 : Nat) (x y z : Value) (j : Nat) (hj : j ≠ b) : (((w.setCell ⟨b, o1, none⟩ x).setCell ⟨b, o2, none⟩ y).setCell ⟨b, o3, none⟩ z).heap[j]? = w.heap[j]? := by
  rw [Below.heap_setCell _ _ _ _ hj, Below.heap_setCell _ _ _ _ hj, Below.heap_setCell _ _ _ _ hj]
end Go.Ow
namespace Go.Proofs.YtjlfpjjfldbknaaGreat
open Go.RowKit Go.Lib Go.Fq Go.Pq Go.Iq Go.Nq Go.Ow
set_option linter.unusedVariables false
set_option linter.unusedSimpArgs false
set_option maxRecDepth 100000

def fo : Option (Nat × Nat) → Nat
  | some (_, f) => f
  | none => 0
def arC (p : Nat × Option (Nat × Nat)) : List Value := [.int .i64 (p.1 : Int), .float .f64 (dw (p.2.map Prod.fst)), .int .i64 (fo p.2 : Int)]
theorem arC_len (p : Nat × Option (Nat × Nat)) : (arC p).length = 3 := rfl
def ix (D : List (Option (Nat × Nat))) : List (Nat × Option (Nat × Nat)) := (List.range D.length).map (fun i => (i, dd D i))
theorem ix_len (D : List (Option (Nat × Nat))) : (ix D).length = D.length := by simp [ix]
theorem ix_get (D : List (Option (Nat × Nat))) (i : Nat) (h : i < (ix D).length) : (ix D)[i] = (i, dd D i) := by simp [ix]
theorem ix_set (D : List (Option (Nat × Nat))) (v : Nat) (x : Option (Nat × Nat)) (hv : v < D.length) : ix (D.set v x) = (ix D).set v (v, x) := by
  apply List.ext_getElem
  · simp [ix]
  intro i h1 h2
  rw [ix_get, List.getElem_set]
  have hi : i < D.length := by simpa [ix_len] using h1
  rw [dd_set x hv]
  by_cases e : v = i
  · subst e; simp
  · rw [if_neg (fun e2 => e e2.symm), if_neg e, ix_get]
def arRow (D : List (Option (Nat × Nat))) : List Value := (ix D).flatMap arC
def initE (n k : Nat) : List (Nat × Option (Nat × Nat)) := (List.range k).map (fun i => (i, none)) ++ List.replicate (n - k) (0, some (0, 0))
theorem initE_len (n k : Nat) (h : k ≤ n) : (initE n k).length = n := by simp [initE]; omega
theorem initE_set (n k : Nat) (h : k < n) : (initE n k).set k (k, none) = initE n (k + 1) := by
  unfold initE
  rw [List.set_append_right _ _ (by simp), List.range_succ, List.map_append, List.append_assoc]
  congr 1
  obtain ⟨m, hm⟩ : ∃ m, n - k = m + 1 := ⟨n - k - 1, by omega⟩
  rw [hm, List.replicate_succ, show n - (k + 1) = m by omega]
  simp
theorem initE_all (n : Nat) : initE n n = ix (List.replicate n none) := by
  unfold initE ix
  simp only [Nat.sub_self, List.replicate_zero, List.append_nil, List.length_replicate]
  apply List.map_congr_left
  intro i _
  rw [dd_none]
/-- What lies in memory while one goes out: n stops in block sb, the queue's struct in block qb. -/
structure WS (W0 : World) (n sb qb : Nat) (v : Value) (L : List Sp) (D : List (Option (Nat × Nat))) (w : World) : Prop where
  len : D.length = n
  stops : Own w W0.heap.size 134 3 (.slice (some ⟨sb, 0, none⟩) n n) n (arRow D)
  q : QAt w W0.heap.size qb v L
  hp : HeapP L L.length
  ap : NotRow v sb
  sbs : sb < w.heap.size ∧ W0.heap.size ≤ sb
  frame : BelowX W0.heap.size qb W0 w
theorem WS.below {W0 : World} {n sb qb : Nat} {v : Value} {L : List Sp} {D : List (Option (Nat × Nat))} {w w' : World} (h : WS W0 n sb qb v L D w) (k : Below w.heap.size w w') : WS W0 n sb qb v L D w' :=
  ⟨h.len, h.stops.below k, h.q.below k, h.hp, h.ap, ⟨Nat.lt_of_lt_of_le h.sbs.1 k.size, h.sbs.2⟩, h.frame.shut h.frame.size k⟩
theorem own_kq {w w' : World} {base q : Nat} {e : TypeId} {k n sb : Nat} {xs : List Value} {v v' : Value} (h : Own w base e k (.slice (some ⟨sb, 0, none⟩) n n) n xs) (hk : Kq q v v' w w') (hq : sb ≠ q) (hn : NotRow v sb) : Own w' base e k (.slice (some ⟨sb, 0, none⟩) n n) n xs := by
  rcases h with h | ⟨g, cap, cur, hv, hbg, hg, hnc, hcm, hcs, hx⟩
  · exact Or.inl h
  · simp only [Value.slice.injEq, Option.some.injEq, Addr.mk.injEq, and_true, true_and] at hv
    obtain ⟨rfl, rfl⟩ := hv
    exact Or.inr ⟨_, _, cur, rfl, hbg, (hk.block _ (Array.getElem?_eq_some_iff.1 hg).1 hq hn).trans hg, hnc, hcm, hcs, hx⟩
theorem WS.kq {W0 : World} {n sb qb : Nat} {v v' : Value} {L L' : List Sp} {D : List (Option (Nat × Nat))} {w w' : World} (h : WS W0 n sb qb v L D w) (hq : qb < W0.heap.size) (k : Kq qb v v' w w') (q : QAt w' W0.heap.size qb v' L') (hp : HeapP L' L'.length) : WS W0 n sb qb v' L' D w' :=
  ⟨h.len, own_kq h.stops k (by have := h.sbs.2; omega) h.ap, q, hp, k.row sb h.sbs.1 h.ap, ⟨Nat.lt_of_lt_of_le h.sbs.1 k.size, h.sbs.2⟩, h.frame.trans (k.belowX h.q.row h.frame.size)⟩
/-- A box of one's own is written. -/
theorem WS.box {W0 : World} {n sb qb tb : Nat} {v : Value} {L : List Sp} {D : List (Option (Nat × Nat))} {w : World} (h : WS W0 n sb qb v L D w) (hq : qb < W0.heap.size) (ht : W0.heap.size ≤ tb) (hs : sb ≠ tb) (hr : NotRow v tb) (x y z : Value) :
    WS W0 n sb qb v L D (((w.setCell ⟨tb, 0, none⟩ x).setCell ⟨tb, 1, none⟩ y).setCell ⟨tb, 2, none⟩ z) := by
  refine ⟨h.len, own_other h.stops (b := tb) (fun n' c e => ?_) (fun j hj => set3_other w tb 0 1 2 x y z j hj), ⟨?_, own_other h.q.row hr (fun j hj => set3_other w tb 0 1 2 x y z j hj), h.q.few⟩, h.hp, h.ap, ⟨by simpa [World.setCell] using h.sbs.1, h.sbs.2⟩, ((h.frame.setCell ht x).setCell ht y).setCell ht z⟩
  · simp only [Value.slice.injEq, Option.some.injEq, Addr.mk.injEq, and_true] at e
    exact absurd e.1 hs
  · rw [set3_other w tb 0 1 2 x y z qb (by omega)]; exact h.q.qb
/-- A stop is settled. -/
theorem WS.put {W0 : World} {n sb qb u : Nat} {v : Value} {L : List Sp} {D : List (Option (Nat × Nat))} {w : World} (h : WS W0 n sb qb v L D w) (hq : qb < W0.heap.size) (hu : u < n) (m f : Nat) (w' : World) (hw : w' = ((w.setCell ⟨sb, u * 3, none⟩ (.int .i64 (u : Int))).setCell ⟨sb, u * 3 + 1, none⟩ (.float .f64 (qw m))).setCell ⟨sb, u * 3 + 2, none⟩ (.int .i64 (f : Int))) :
    WS W0 n sb qb v L (D.set u (some (m, f))) w' := by
  have h1 := own_put (vs := arC (u, some (m, f))) h.stops rfl hu
  have e : (arRow D).take (u * 3) ++ arC (u, some (m, f)) ++ (arRow D).drop ((u + 1) * 3) = arRow (D.set u (some (m, f))) := by
    unfold arRow
    rw [ix_set _ _ _ (by rw [h.len]; exact hu), flat_set arC 3 arC_len _ _ _ (by rw [ix_len, h.len]; exact hu)]
  rw [e] at h1
  have e2 : w.setCells sb (u * 3) (arC (u, some (m, f))) = w' := by rw [hw]; rfl
  rw [e2] at h1
  have ho : ∀ j, j ≠ sb → w'.heap[j]? = w.heap[j]? := fun j hj => by rw [hw]; exact set3_other w sb _ _ _ _ _ _ j hj
  refine ⟨by rw [List.length_set]; exact h.len, h1, ⟨(ho qb (by have := h.sbs.2; omega)).trans h.q.qb, own_other h.q.row h.ap ho, h.q.few⟩, h.hp, h.ap, ⟨by rw [hw]; simpa [World.setCell] using h.sbs.1, h.sbs.2⟩, ?_⟩
  rw [hw]
  exact ((h.frame.setCell h.sbs.2 _).setCell h.sbs.2 _).setCell h.sbs.2 _
/-- A stop in memory. -/
theorem WS.cells {W0 : World} {n sb qb u : Nat} {v : Value} {L : List Sp} {D : List (Option (Nat × Nat))} {w : World} (h : WS W0 n sb qb v L D w) (hu : u < n) : w.cell? ⟨sb, u * 3, none⟩ = some (.int .i64 (u : Int)) ∧ w.cell? ⟨sb, u * 3 + 1, none⟩ = some (.float .f64 (dw ((dd D u).map Prod.fst))) ∧ w.cell? ⟨sb, u * 3 + 2, none⟩ = some (.int .i64 (fo (dd D u) : Int)) ∧ w.frozen? ⟨sb, u * 3, none⟩ = false ∧ w.frozen? ⟨sb, u * 3 + 1, none⟩ = false ∧ w.frozen? ⟨sb, u * 3 + 2, none⟩ = false := by
  obtain ⟨g, cap, e1, e2, e3, e4, e5⟩ := h.stops.range (by omega)
  simp only [Value.slice.injEq, Option.some.injEq, Addr.mk.injEq, and_true, true_and] at e1
  obtain ⟨rfl, rfl⟩ := e1
  have hul : u < (ix D).length := by rw [ix_len, h.len]; exact hu
  have h0 := fun j (hj : j < 3) => flat_get arC 3 arC_len (ix D) u j hul hj
  simp only [ix_get] at h0
  have h1 := fun j x (hj : j < 3) (hv : (arC (u, dd D u))[j]? = some x) => e4 (u * 3 + j) x ((h0 j hj).trans hv)
  have fz := fun j (hj : j < n * 3) => (e5 j hj).2
  exact ⟨by simpa using h1 0 _ (by omega) rfl, by simpa using h1 1 _ (by omega) rfl, by simpa using h1 2 _ (by omega) rfl, by simpa using fz (u * 3) (by omega), by simpa using fz (u * 3 + 1) (by omega), by simpa using fz (u * 3 + 2) (by omega)⟩
/-- A stop in a box. -/
def BoxAt (w : World) (b : Nat) (s : Sp) : Prop := w.heap[b]? = some (.cells #[.int .i64 (s.1 : Int), .float .f64 (qw s.2.1), .int .i64 (s.2.2 : Int)] 134 (0, 0))
theorem BoxAt.cells {w : World} {b : Nat} {s : Sp} (h : BoxAt w b s) : w.cell? ⟨b, 0, none⟩ = some (.int .i64 (s.1 : Int)) ∧ w.cell? ⟨b, 1, none⟩ = some (.float .f64 (qw s.2.1)) ∧ w.cell? ⟨b, 2, none⟩ = some (.int .i64 (s.2.2 : Int)) ∧ w.frozen? ⟨b, 0, none⟩ = false ∧ w.frozen? ⟨b, 1, none⟩ = false ∧ w.frozen? ⟨b, 2, none⟩ = false :=
  ⟨by rw [cell_of_row w b 0 _ _ (0, 0) h]; rfl, by rw [cell_of_row w b 1 _ _ (0, 0) h]; rfl, by rw [cell_of_row w b 2 _ _ (0, 0) h]; rfl, frozen_of_row w b 0 _ _ h, frozen_of_row w b 1 _ _ h, frozen_of_row w b 2 _ _ h⟩
theorem box_set {w : World} {b : Nat} {cs : Array Value} (hc : cs.size = 3) (h : w.heap[b]? = some (.cells cs 134 (0, 0))) (s : Sp) : BoxAt (((w.setCell ⟨b, 0, none⟩ (.int .i64 (s.1 : Int))).setCell ⟨b, 1, none⟩ (.float .f64 (qw s.2.1))).setCell ⟨b, 2, none⟩ (.int .i64 (s.2.2 : Int))) b s := by
  have x1 := heap_setCell_same w b 0 _ _ (.int .i64 (s.1 : Int)) h
  have x2 := heap_setCell_same _ b 1 _ _ (.float .f64 (qw s.2.1)) x1
  have x3 := heap_setCell_same _ b 2 _ _ (.int .i64 (s.2.2 : Int)) x2
  unfold BoxAt
  rw [x3]
  congr 2
  obtain ⟨l⟩ := cs
  match l, hc with
  | [p, q, r], _ => rfl
end Go.Proofs.YtjlfpjjfldbknaaGreat
end
