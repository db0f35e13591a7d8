/- Graphs: two changes. -/
import Derived.Test.YtgjpgpjdealbeaaNhG
import Derived.Test.YtgjpgpjdealbeaaNhE
import Derived.Test.YtgjpgpjdealbeaaNqK
namespace Go.Proofs.Ytgjpgpjdealbeaa
open Go.RowKit Go.Lib Go.Fq Go.Iq Go.Nq Go.Ow
set_option linter.unusedVariables false
set_option linter.unusedSimpArgs false
set_option maxRecDepth 100000

theorem gLinked_any (k1 a1 b1 : Int) (q1 : Nat) (w : World) : Calls Try.prog 24 #[.agg #[.int .i64 k1, .int .i64 a1, .int .i64 b1, .float .f64 q1]] w fun e w' => e = .returned (.bool (decide (k1 ≤ 5))) ∧ Below w.heap.size w w' := by
  go_enter Try.func24, Try.ntmps24
  go_wp2_with fail
  go_ret
  exact ⟨rfl, gAl _ _⟩
theorem GrV.gin2 {w : World} {base : Nat} {vn vl : Value} {G : Gr} (h : GrV w base vn vl G) (hs : G.nodes.length ≤ 256 ∧ G.links.length ≤ 4096) : ∃ na nc la lc, vn = .slice na G.nodes.length nc ∧ vl = .slice la G.links.length lc ∧ GrIn w G na la := h.gin (by omega) (by omega)
theorem two_len (g : Gr) (c d : Ch) : (twoG g c d).nodes.length ≤ 256 ∧ (twoG g c d).links.length ≤ 4096 := by
  unfold twoG
  split
  · exact apply_len _ _
  · exact ⟨Nat.zero_le _, Nat.zero_le _⟩
set_option maxHeartbeats 8000000 in
theorem gTwo_any (G : Gr) (na : Option Addr) (nc : Nat) (la : Option Addr) (lc : Nat) (k1 a1 b1 : Int) (q1 : Nat) (k2 a2 b2 : Int) (q2 : Nat) (w : World) (hin : GrIn w G na la) (hq1 : q1 < 2 ^ 64) (hq2 : q2 < 2 ^ 64) :
    Calls Try.prog 25 #[.agg #[.slice na G.nodes.length nc, .slice la G.links.length lc], .agg #[.int .i64 k1, .int .i64 a1, .int .i64 b1, .float .f64 q1], .agg #[.int .i64 k2, .int .i64 a2, .int .i64 b2, .float .f64 q2]] w fun e w' => LiveEnds w (twoG G ⟨k1, a1, b1, q1⟩ ⟨k2, a2, b2, q2⟩) (twoE G ⟨k1, a1, b1, q1⟩ ⟨k2, a2, b2, q2⟩) e w' := by
  have hst := g_storeL
  obtain ⟨W1, hW1⟩ : ∃ W1, W1 = w.alloc (.cells #[.slice na G.nodes.length nc, .slice la G.links.length lc] 25) := ⟨_, rfl⟩
  obtain ⟨W2, hW2⟩ : ∃ W2, W2 = W1.alloc (.cells #[.int .i64 k1, .int .i64 a1, .int .i64 b1, .float .f64 q1] 33) := ⟨_, rfl⟩
  obtain ⟨W3, hW3⟩ : ∃ W3, W3 = W2.alloc (.cells #[.int .i64 k2, .int .i64 a2, .int .i64 b2, .float .f64 q2] 33) := ⟨_, rfl⟩
  obtain ⟨W4, hW4⟩ : ∃ W4, W4 = W3.alloc (.cells #[.slice none 0 0, .slice none 0 0] 25) := ⟨_, rfl⟩
  have vb1 : Below w.heap.size w W1 := by rw [hW1]; exact gAl _ _
  have s1 : W1.heap.size = w.heap.size + 1 := by rw [hW1]; simp
  have r1 : W1.heap[w.heap.size]? = some (.cells #[.slice na G.nodes.length nc, .slice la G.links.length lc] 25 (0, 0)) := by rw [hW1]; exact heap_alloc_new w _
  have vb2 : Below W1.heap.size W1 W2 := by rw [hW2]; exact gAl _ _
  have s2 : W2.heap.size = W1.heap.size + 1 := by rw [hW2]; simp
  have r2 : W2.heap[W1.heap.size]? = some (.cells #[.int .i64 k1, .int .i64 a1, .int .i64 b1, .float .f64 q1] 33 (0, 0)) := by rw [hW2]; exact heap_alloc_new W1 _
  have vb3 : Below W2.heap.size W2 W3 := by rw [hW3]; exact gAl _ _
  have s3 : W3.heap.size = W2.heap.size + 1 := by rw [hW3]; simp
  have r3 : W3.heap[W2.heap.size]? = some (.cells #[.int .i64 k2, .int .i64 a2, .int .i64 b2, .float .f64 q2] 33 (0, 0)) := by rw [hW3]; exact heap_alloc_new W2 _
  have vb4 : Below W3.heap.size W3 W4 := by rw [hW4]; exact gAl _ _
  have s4 : W4.heap.size = W3.heap.size + 1 := by rw [hW4]; simp
  have r4 : W4.heap[W3.heap.size]? = some (.cells #[.slice none 0 0, .slice none 0 0] 25 (0, 0)) := by rw [hW4]; exact heap_alloc_new W3 _
  have hbw : Below w.heap.size w W4 := gNx (gNx (gNx vb1 vb2) vb3) vb4
  have t1 : W3.heap[w.heap.size]? = some (.cells #[.slice na G.nodes.length nc, .slice la G.links.length lc] 25 (0, 0)) := (vb3.block _ (by omega)).trans ((vb2.block _ (by omega)).trans r1)
  have t2 : W3.heap[W1.heap.size]? = some (.cells #[.int .i64 k1, .int .i64 a1, .int .i64 b1, .float .f64 q1] 33 (0, 0)) := (vb3.block _ (by omega)).trans r2
  have t1 := (vb4.block _ (by omega)).trans t1
  have t2 := (vb4.block _ (by omega)).trans t2
  have t3 := (vb4.block _ (by omega)).trans r3
  obtain ⟨ba, hba⟩ : ∃ ba, ba = W1.heap.size := ⟨_, rfl⟩
  obtain ⟨bb, hbb⟩ : ∃ bb, bb = W2.heap.size := ⟨_, rfl⟩
  obtain ⟨br, hbr⟩ : ∃ br, br = W3.heap.size := ⟨_, rfl⟩
  have HBR : Hid (br < W4.heap.size ∧ w.heap.size ≤ br ∧ w.heap.size ≤ W4.heap.size) := Lib.hid (by omega)
  have HRS : Hid (∀ V, Below W4.heap.size W4 V → V.heap[br]? = some (.cells #[.slice none 0 0, .slice none 0 0] 25 (0, 0))) := Lib.hid (fun V hV => by rw [hbr]; exact (hV.block _ (by omega)).trans r4)
  have HKG : Hid (∀ V, Below W4.heap.size W4 V → V.cell? ⟨w.heap.size, 0, none⟩ = some (.slice na G.nodes.length nc) ∧ V.cell? ⟨w.heap.size, 1, none⟩ = some (.slice la G.links.length lc)) := Lib.hid (fun V hV => by
    have := (hV.block w.heap.size (by omega)).trans t1
    exact ⟨by rw [cell_of_row V _ 0 _ _ (0, 0) this]; rfl, by rw [cell_of_row V _ 1 _ _ (0, 0) this]; rfl⟩)
  have HKA : Hid (∀ V, Below W4.heap.size W4 V → V.heap[ba]? = some (.cells #[.int .i64 k1, .int .i64 a1, .int .i64 b1, .float .f64 q1] 33 (0, 0))) := Lib.hid (fun V hV => by rw [hba]; exact (hV.block W1.heap.size (by omega)).trans t2)
  have HKB : Hid (∀ V, Below W4.heap.size W4 V → V.heap[bb]? = some (.cells #[.int .i64 k2, .int .i64 a2, .int .i64 b2, .float .f64 q2] 33 (0, 0))) := Lib.hid (fun V hV => by rw [hbb]; exact (hV.block W2.heap.size (by omega)).trans t3)
  have HWB : Hid (∀ V, Below W4.heap.size W4 V → Below w.heap.size w V) := Lib.hid (fun V hV => gNx hbw hV)
  have HIN : Hid (∀ V, Below W4.heap.size W4 V → GrIn V G na la) := Lib.hid (fun V hV => hin.below (gNx hbw hV))
  have HQ1 := Lib.hid hq1
  have HQ2 := Lib.hid hq2
  clear hin hq1 hq2 hbw t1 t2 t3 vb1 vb2 vb3 r1 r2 r3 vb4 r4 s4
  obtain ⟨XA, hXA⟩ : ∃ X, X = applyG G ⟨k1, a1, b1, q1⟩ := ⟨_, rfl⟩
  obtain ⟨eA, heA⟩ : ∃ X, X = applyE G ⟨k1, a1, b1, q1⟩ := ⟨_, rfl⟩
  obtain ⟨XB, hXB⟩ : ∃ X, X = applyG XA ⟨k2, a2, b2, q2⟩ := ⟨_, rfl⟩
  obtain ⟨eB, heB⟩ : ∃ X, X = applyE XA ⟨k2, a2, b2, q2⟩ := ⟨_, rfl⟩
  have HP1 : Hid (eA = 0 → twoE G ⟨k1, a1, b1, q1⟩ ⟨k2, a2, b2, q2⟩ = eB ∧ twoG G ⟨k1, a1, b1, q1⟩ ⟨k2, a2, b2, q2⟩ = XB) := Lib.hid (fun h => by
    rw [heA] at h
    unfold twoE twoG
    rw [if_pos h, if_pos h, heB, hXB, hXA]; exact ⟨rfl, rfl⟩)
  have HP2 : Hid (eA ≠ 0 → twoE G ⟨k1, a1, b1, q1⟩ ⟨k2, a2, b2, q2⟩ = eA ∧ twoG G ⟨k1, a1, b1, q1⟩ ⟨k2, a2, b2, q2⟩ = XA) := Lib.hid (fun h => by
    rw [heA] at h
    unfold twoE twoG
    rw [if_neg h, if_neg h, heA, hXA, applyG_no h]; exact ⟨rfl, rfl⟩)
  have HXL := Lib.hid (apply_len G ⟨k1, a1, b1, q1⟩)
  rw [← hXA] at HXL
  have HXL2 := Lib.hid (apply_len XA ⟨k2, a2, b2, q2⟩)
  rw [← hXB] at HXL2
  have HXA := Lib.hid hXA
  have HEA := Lib.hid heA
  have HXB := Lib.hid hXB
  have HEB := Lib.hid heB
  clear hXA heA hXB heB
  go_enter Try.func25, Try.ntmps25
  go_upto_region 1 with (fail)
  rw [← hW1, ← hW2, ← hW3, ← hW4, ← s1, ← s2, ← s3, ← hba, ← hbb, ← hbr]
  clear hW1 hW2 hW3 hW4 s1 s2 s3 hba hbb hbr
  obtain ⟨g0, g1⟩ := HKG.out W4 (Below.refl _ _)
  obtain ⟨c0, c1, c2, c3⟩ := cells_four (HKA.out W4 (Below.refl _ _))
  go_wp2_with fail
  refine (gApply_any G na nc la lc k1 a1 b1 q1 W4 (HIN.out W4 (Below.refl _ _)) HQ1.out).mono ?_
  rintro e V5 ⟨vn, vl, rfl, hv, hb⟩
  rw [← HXA.out] at hv
  rw [← HEA.out]
  obtain ⟨nx, cx, lx, dx, rfl, rfl, hinx⟩ := hv.gin2 HXL.out
  obtain ⟨W6, hW6⟩ : ∃ W, W = V5.alloc (.cells #[.slice nx XA.nodes.length cx, .slice lx XA.links.length dx] 25) := ⟨_, rfl⟩
  obtain ⟨bx, hbx⟩ : ∃ b, b = V5.heap.size := ⟨_, rfl⟩
  have b5 : Below V5.heap.size V5 W6 := by rw [hW6]; exact gAl _ _
  have s5 : V5.heap.size < W6.heap.size := by rw [hW6]; simp
  have r5 : W6.heap[V5.heap.size]? = some (.cells #[.slice nx XA.nodes.length cx, .slice lx XA.links.length dx] 25 (0, 0)) := by rw [hW6]; exact heap_alloc_new V5 _
  have HXW6 : Hid (∀ V, Below W6.heap.size W6 V → (V.cell? ⟨bx, 0, none⟩ = some (.slice nx XA.nodes.length cx) ∧ V.cell? ⟨bx, 1, none⟩ = some (.slice lx XA.links.length dx)) ∧ GrIn V XA nx lx) := Lib.hid (fun V h => by
    have hh := (h.block _ s5).trans r5
    rw [← hbx] at hh
    exact ⟨⟨by rw [cell_of_row V _ 0 _ _ (0, 0) hh]; rfl, by rw [cell_of_row V _ 1 _ _ (0, 0) hh]; rfl⟩, hinx.below (gNx b5 h)⟩)
  have HBW6 := Lib.hid (gNx hb b5)
  clear b5 s5 r5
  have HV6 : Hid (GrV W6 W4.heap.size (.slice nx XA.nodes.length cx) (.slice lx XA.links.length dx) XA) := Lib.hid (hv.below (by rw [hW6]; exact gAl _ _))
  clear hv hb hinx g0 g1 c0 c1 c2 c3
  go_upto_region 2 with (fail)
  rw [← hW6, ← hbx]
  clear hW6 hbx
  obtain ⟨⟨e0, e1⟩, hgi⟩ := HXW6.out W6 (Below.refl _ _)
  have HGI := Lib.hid hgi
  clear hgi
  by_cases hz : eA = 0
  · subst hz
    have HP := Lib.hid (HP1.out rfl)
    obtain ⟨c0, c1, c2, c3⟩ := cells_four (HKB.out W6 HBW6.out)
    go_wp2_with fail
    refine (gApply_any XA nx cx lx dx k2 a2 b2 q2 W6 HGI.out HQ2.out).mono ?_
    rintro e V7 ⟨vn, vl, rfl, hv, hb⟩
    rw [← HXB.out] at hv
    rw [← HEB.out]
    obtain ⟨ny, cy, ly, dy, rfl, rfl, hinx⟩ := hv.gin2 HXL2.out
    have B7 := Lib.hid (gNx HBW6.out hb)
    have HV7 := Lib.hid (hv.mono HBW6.out.size)
    have hres := HRS.out V7 B7.out
    obtain ⟨x0, x1, x2, x3⟩ := cells_two hres
    have HRES := Lib.hid hres
    clear hv hb hinx hres c0 c1 c2 c3 e0 e1
    go_wp2_with fail
    have hq1 := heap_setCell_same V7 br 0 _ _ (.slice ny XB.nodes.length cy) HRES.out
    have hq2 := heap_setCell_same _ br 1 _ _ (.slice ly XB.links.length dy) hq1
    refine bodyPost_ret (results_cell2 Try.results25 _ _ br 0 [.slice ny XB.nodes.length cy, .slice ly XB.links.length dy] _ rfl ?_ Try.underlying25 (by rfl) (by kernel_rfl)) rfl ?_
    · intro j v hj
      match j with
      | 0 => simp at hj; subst hj; rw [cell_of_row _ _ _ _ _ (0, 0) hq2]; rfl
      | 1 => simp at hj; subst hj; rw [cell_of_row _ _ _ _ _ (0, 0) hq2]; rfl
      | j + 2 => simp at hj
    · rw [HP.out.1, HP.out.2]
      exact ⟨_, _, rfl, ((HV7.out.mono HBR.out.2.2).set HRES.out).set hq1, ((HWB.out V7 B7.out).setCell HBR.out.2.1 _).setCell HBR.out.2.1 _⟩
  · have hz2 : (eA != 0) = true := by simpa using hz
    have HP := Lib.hid (HP2.out hz)
    have hres := HRS.out W6 HBW6.out
    obtain ⟨x0, x1, x2, x3⟩ := cells_two hres
    have HRES := Lib.hid hres
    clear hres hz
    go_wp2_with fail
    have hq1 := heap_setCell_same W6 br 0 _ _ (.slice nx XA.nodes.length cx) HRES.out
    have hq2 := heap_setCell_same _ br 1 _ _ (.slice lx XA.links.length dx) hq1
    refine bodyPost_ret (results_cell2 Try.results25 _ _ br 0 [.slice nx XA.nodes.length cx, .slice lx XA.links.length dx] _ rfl ?_ Try.underlying25 (by rfl) (by kernel_rfl)) rfl ?_
    · intro j v hj
      match j with
      | 0 => simp at hj; subst hj; rw [cell_of_row _ _ _ _ _ (0, 0) hq2]; rfl
      | 1 => simp at hj; subst hj; rw [cell_of_row _ _ _ _ _ (0, 0) hq2]; rfl
      | j + 2 => simp at hj
    · rw [HP.out.1, HP.out.2]
      exact ⟨_, _, rfl, ((HV6.out.mono HBR.out.2.2).set HRES.out).set hq1, ((HWB.out W6 HBW6.out).setCell HBR.out.2.1 _).setCell HBR.out.2.1 _⟩
end Go.Proofs.Ytgjpgpjdealbeaa
