/- Graphs: the document's bare, added. -/
import Derived.Test.YtgjpgpjdealbeaaNhG
import Derived.Test.YtgjpgpjdealbeaaNhC
import Derived.Test.YtgjpgpjdealbeaaNqG
import Derived.Test.YtgjpgpjdealbeaaNgW
namespace Go.Proofs.Ytgjpgpjdealbeaa
open Go.RowKit Go.Lib Go.Fq Go.Iq Go.Nq Go.Ow
set_option linter.unusedVariables false
set_option linter.unusedSimpArgs false
set_option maxRecDepth 100000

set_option maxHeartbeats 4000000 in
theorem rBare_any (kd a b : Int) (q : Nat) (w : World) :
    Calls Try.prog 36 #[.agg #[.int .i64 kd, .int .i64 a, .int .i64 b, .float .f64 q]] w fun e w' => e = .returned (.bool (bareB ⟨kd, a, b, q⟩)) ∧ Below w.heap.size w w' := by
  obtain ⟨W1, hW1⟩ : ∃ W1, W1 = w.alloc (.cells #[.int .i64 kd, .int .i64 a, .int .i64 b, .float .f64 q] 33) := ⟨_, rfl⟩
  have hb1 : Below w.heap.size w W1 := by rw [hW1]; exact gAl _ _
  have hcb : W1.heap[w.heap.size]? = some (.cells #[.int .i64 kd, .int .i64 a, .int .i64 b, .float .f64 q] 33 (0, 0)) := by rw [hW1]; exact heap_alloc_new w _
  obtain ⟨c0, c1, c2, c3⟩ := cells_four hcb
  have HB1 := Lib.hid hb1
  clear hb1 hcb
  have hkd : kd < 1 ∨ kd = 1 ∨ kd = 2 ∨ kd = 3 ∨ kd = 4 ∨ kd = 5 ∨ kd = 6 ∨ kd = 7 ∨ kd = 8 ∨ kd = 9 ∨ 9 < kd := by omega
  rcases hkd with h | rfl | rfl | rfl | rfl | rfl | rfl | rfl | rfl | rfl | h
  · have HBA : Hid (bareB ⟨kd, a, b, q⟩ = false) := Lib.hid (by unfold bareB; rw [decide_eq_false (by show ¬ (1 ≤ kd ∧ kd ≤ 9); omega)]; rfl)
    have h0 : ¬ (2 : Int) ≤ kd := by omega
    have h1 : ¬ (1 : Int) ≤ kd := by omega
    have h2 : (kd == 2) = false := by simp; omega
    have h3 : (kd == 3) = false := by simp; omega
    clear h
    go_enter Try.func36, Try.ntmps36
    go_upto_region 1 with (fail)
    rw [← hW1]
    clear hW1
    go_wp2_with (go_at_call 40; refine (same_any _ _ _).mono ?_; rintro e w2 ⟨rfl, rfl⟩)
    go_ret
    exact ⟨by rw [HBA.out]; rfl, HB1.out⟩
  · skip
    by_cases hb : b = 0
    · subst hb
      by_cases hq : q = 0
      · subst hq
        have HBA : Hid (bareB ⟨1, a, 0, 0⟩ = true) := Lib.hid rfl
        go_enter Try.func36, Try.ntmps36
        go_upto_region 1 with (fail)
        rw [← hW1]
        clear hW1
        go_wp2_with (go_at_call 40; refine (same_any _ _ _).mono ?_; rintro e w2 ⟨rfl, rfl⟩)
        go_ret
        exact ⟨by rw [HBA.out]; rfl, HB1.out⟩
      · have hq2 : ((q : Int) == ((0 : Nat) : Int)) = false := by simp; omega
        have hq3 : ((q : Int) == (0 : Int)) = false := by simp; omega
        have HBA : Hid (bareB ⟨1, a, 0, q⟩ = false) := Lib.hid (by unfold bareB; simp [show ¬ q = 0 from hq])
        clear hq
        go_enter Try.func36, Try.ntmps36
        go_upto_region 1 with (fail)
        rw [← hW1]
        clear hW1
        go_wp2_with (go_at_call 40; refine (same_any _ _ _).mono ?_; rintro e w2 ⟨rfl, rfl⟩)
        go_ret
        exact ⟨by rw [HBA.out]; rfl, HB1.out⟩
    · have hb2 : (b == 0) = false := by simpa using hb
      have HBA : Hid (bareB ⟨1, a, b, q⟩ = false) := Lib.hid (by unfold bareB; simp [hb2])
      clear hb
      go_enter Try.func36, Try.ntmps36
      go_upto_region 1 with (fail)
      rw [← hW1]
      clear hW1
      go_wp2_with (go_at_call 40; refine (same_any _ _ _).mono ?_; rintro e w2 ⟨rfl, rfl⟩)
      go_ret
      exact ⟨by rw [HBA.out]; rfl, HB1.out⟩
  · have HBA : Hid (bareB ⟨2, a, b, q⟩ = true) := Lib.hid rfl
    go_enter Try.func36, Try.ntmps36
    go_upto_region 1 with (fail)
    rw [← hW1]
    clear hW1
    go_wp2_with (go_at_call 40; refine (same_any _ _ _).mono ?_; rintro e w2 ⟨rfl, rfl⟩)
    go_ret
    exact ⟨by rw [HBA.out]; rfl, HB1.out⟩
  · have HBA : Hid (bareB ⟨3, a, b, q⟩ = true) := Lib.hid rfl
    go_enter Try.func36, Try.ntmps36
    go_upto_region 1 with (fail)
    rw [← hW1]
    clear hW1
    go_wp2_with (go_at_call 40; refine (same_any _ _ _).mono ?_; rintro e w2 ⟨rfl, rfl⟩)
    go_ret
    exact ⟨by rw [HBA.out]; rfl, HB1.out⟩
  · skip
    by_cases hq : q = 0
    · subst hq
      have HBA : Hid (bareB ⟨4, a, b, 0⟩ = true) := Lib.hid rfl
      go_enter Try.func36, Try.ntmps36
      go_upto_region 1 with (fail)
      rw [← hW1]
      clear hW1
      go_wp2_with (go_at_call 40; refine (same_any _ _ _).mono ?_; rintro e w2 ⟨rfl, rfl⟩)
      go_ret
      exact ⟨by rw [HBA.out]; rfl, HB1.out⟩
    · have hq2 : ((q : Int) == ((0 : Nat) : Int)) = false := by simp; omega
      have hq3 : ((q : Int) == (0 : Int)) = false := by simp; omega
      have HBA : Hid (bareB ⟨4, a, b, q⟩ = false) := Lib.hid (by unfold bareB; simp [show ¬ q = 0 from hq])
      clear hq
      go_enter Try.func36, Try.ntmps36
      go_upto_region 1 with (fail)
      rw [← hW1]
      clear hW1
      go_wp2_with (go_at_call 40; refine (same_any _ _ _).mono ?_; rintro e w2 ⟨rfl, rfl⟩)
      go_ret
      exact ⟨by rw [HBA.out]; rfl, HB1.out⟩
  · skip
    by_cases hq : q = 0
    · subst hq
      have HBA : Hid (bareB ⟨5, a, b, 0⟩ = true) := Lib.hid rfl
      go_enter Try.func36, Try.ntmps36
      go_upto_region 1 with (fail)
      rw [← hW1]
      clear hW1
      go_wp2_with (go_at_call 40; refine (same_any _ _ _).mono ?_; rintro e w2 ⟨rfl, rfl⟩)
      go_ret
      exact ⟨by rw [HBA.out]; rfl, HB1.out⟩
    · have hq2 : ((q : Int) == ((0 : Nat) : Int)) = false := by simp; omega
      have hq3 : ((q : Int) == (0 : Int)) = false := by simp; omega
      have HBA : Hid (bareB ⟨5, a, b, q⟩ = false) := Lib.hid (by unfold bareB; simp [show ¬ q = 0 from hq])
      clear hq
      go_enter Try.func36, Try.ntmps36
      go_upto_region 1 with (fail)
      rw [← hW1]
      clear hW1
      go_wp2_with (go_at_call 40; refine (same_any _ _ _).mono ?_; rintro e w2 ⟨rfl, rfl⟩)
      go_ret
      exact ⟨by rw [HBA.out]; rfl, HB1.out⟩
  · skip
    by_cases hb : b = 0
    · subst hb
      by_cases hq : q = 0
      · subst hq
        have HBA : Hid (bareB ⟨6, a, 0, 0⟩ = true) := Lib.hid rfl
        go_enter Try.func36, Try.ntmps36
        go_upto_region 1 with (fail)
        rw [← hW1]
        clear hW1
        go_wp2_with (go_at_call 40; refine (same_any _ _ _).mono ?_; rintro e w2 ⟨rfl, rfl⟩)
        go_ret
        exact ⟨by rw [HBA.out]; rfl, HB1.out⟩
      · have hq2 : ((q : Int) == ((0 : Nat) : Int)) = false := by simp; omega
        have hq3 : ((q : Int) == (0 : Int)) = false := by simp; omega
        have HBA : Hid (bareB ⟨6, a, 0, q⟩ = false) := Lib.hid (by unfold bareB; simp [show ¬ q = 0 from hq])
        clear hq
        go_enter Try.func36, Try.ntmps36
        go_upto_region 1 with (fail)
        rw [← hW1]
        clear hW1
        go_wp2_with (go_at_call 40; refine (same_any _ _ _).mono ?_; rintro e w2 ⟨rfl, rfl⟩)
        go_ret
        exact ⟨by rw [HBA.out]; rfl, HB1.out⟩
    · have hb2 : (b == 0) = false := by simpa using hb
      have HBA : Hid (bareB ⟨6, a, b, q⟩ = false) := Lib.hid (by unfold bareB; simp [hb2])
      clear hb
      go_enter Try.func36, Try.ntmps36
      go_upto_region 1 with (fail)
      rw [← hW1]
      clear hW1
      go_wp2_with (go_at_call 40; refine (same_any _ _ _).mono ?_; rintro e w2 ⟨rfl, rfl⟩)
      go_ret
      exact ⟨by rw [HBA.out]; rfl, HB1.out⟩
  · skip
    by_cases hb : b = 0
    · subst hb
      by_cases hq : q = 0
      · subst hq
        have HBA : Hid (bareB ⟨7, a, 0, 0⟩ = true) := Lib.hid rfl
        go_enter Try.func36, Try.ntmps36
        go_upto_region 1 with (fail)
        rw [← hW1]
        clear hW1
        go_wp2_with (go_at_call 40; refine (same_any _ _ _).mono ?_; rintro e w2 ⟨rfl, rfl⟩)
        go_ret
        exact ⟨by rw [HBA.out]; rfl, HB1.out⟩
      · have hq2 : ((q : Int) == ((0 : Nat) : Int)) = false := by simp; omega
        have hq3 : ((q : Int) == (0 : Int)) = false := by simp; omega
        have HBA : Hid (bareB ⟨7, a, 0, q⟩ = false) := Lib.hid (by unfold bareB; simp [show ¬ q = 0 from hq])
        clear hq
        go_enter Try.func36, Try.ntmps36
        go_upto_region 1 with (fail)
        rw [← hW1]
        clear hW1
        go_wp2_with (go_at_call 40; refine (same_any _ _ _).mono ?_; rintro e w2 ⟨rfl, rfl⟩)
        go_ret
        exact ⟨by rw [HBA.out]; rfl, HB1.out⟩
    · have hb2 : (b == 0) = false := by simpa using hb
      have HBA : Hid (bareB ⟨7, a, b, q⟩ = false) := Lib.hid (by unfold bareB; simp [hb2])
      clear hb
      go_enter Try.func36, Try.ntmps36
      go_upto_region 1 with (fail)
      rw [← hW1]
      clear hW1
      go_wp2_with (go_at_call 40; refine (same_any _ _ _).mono ?_; rintro e w2 ⟨rfl, rfl⟩)
      go_ret
      exact ⟨by rw [HBA.out]; rfl, HB1.out⟩
  · skip
    by_cases hb : b = 0
    · subst hb
      by_cases hq : q = 0
      · subst hq
        have HBA : Hid (bareB ⟨8, a, 0, 0⟩ = true) := Lib.hid rfl
        go_enter Try.func36, Try.ntmps36
        go_upto_region 1 with (fail)
        rw [← hW1]
        clear hW1
        go_wp2_with (go_at_call 40; refine (same_any _ _ _).mono ?_; rintro e w2 ⟨rfl, rfl⟩)
        go_ret
        exact ⟨by rw [HBA.out]; rfl, HB1.out⟩
      · have hq2 : ((q : Int) == ((0 : Nat) : Int)) = false := by simp; omega
        have hq3 : ((q : Int) == (0 : Int)) = false := by simp; omega
        have HBA : Hid (bareB ⟨8, a, 0, q⟩ = false) := Lib.hid (by unfold bareB; simp [show ¬ q = 0 from hq])
        clear hq
        go_enter Try.func36, Try.ntmps36
        go_upto_region 1 with (fail)
        rw [← hW1]
        clear hW1
        go_wp2_with (go_at_call 40; refine (same_any _ _ _).mono ?_; rintro e w2 ⟨rfl, rfl⟩)
        go_ret
        exact ⟨by rw [HBA.out]; rfl, HB1.out⟩
    · have hb2 : (b == 0) = false := by simpa using hb
      have HBA : Hid (bareB ⟨8, a, b, q⟩ = false) := Lib.hid (by unfold bareB; simp [hb2])
      clear hb
      go_enter Try.func36, Try.ntmps36
      go_upto_region 1 with (fail)
      rw [← hW1]
      clear hW1
      go_wp2_with (go_at_call 40; refine (same_any _ _ _).mono ?_; rintro e w2 ⟨rfl, rfl⟩)
      go_ret
      exact ⟨by rw [HBA.out]; rfl, HB1.out⟩
  · skip
    by_cases hb : b = 0
    · subst hb
      by_cases hq : q = 0
      · subst hq
        have HBA : Hid (bareB ⟨9, a, 0, 0⟩ = true) := Lib.hid rfl
        go_enter Try.func36, Try.ntmps36
        go_upto_region 1 with (fail)
        rw [← hW1]
        clear hW1
        go_wp2_with (go_at_call 40; refine (same_any _ _ _).mono ?_; rintro e w2 ⟨rfl, rfl⟩)
        go_ret
        exact ⟨by rw [HBA.out]; rfl, HB1.out⟩
      · have hq2 : ((q : Int) == ((0 : Nat) : Int)) = false := by simp; omega
        have hq3 : ((q : Int) == (0 : Int)) = false := by simp; omega
        have HBA : Hid (bareB ⟨9, a, 0, q⟩ = false) := Lib.hid (by unfold bareB; simp [show ¬ q = 0 from hq])
        clear hq
        go_enter Try.func36, Try.ntmps36
        go_upto_region 1 with (fail)
        rw [← hW1]
        clear hW1
        go_wp2_with (go_at_call 40; refine (same_any _ _ _).mono ?_; rintro e w2 ⟨rfl, rfl⟩)
        go_ret
        exact ⟨by rw [HBA.out]; rfl, HB1.out⟩
    · have hb2 : (b == 0) = false := by simpa using hb
      have HBA : Hid (bareB ⟨9, a, b, q⟩ = false) := Lib.hid (by unfold bareB; simp [hb2])
      clear hb
      go_enter Try.func36, Try.ntmps36
      go_upto_region 1 with (fail)
      rw [← hW1]
      clear hW1
      go_wp2_with (go_at_call 40; refine (same_any _ _ _).mono ?_; rintro e w2 ⟨rfl, rfl⟩)
      go_ret
      exact ⟨by rw [HBA.out]; rfl, HB1.out⟩
  · have HBA : Hid (bareB ⟨kd, a, b, q⟩ = false) := Lib.hid (by unfold bareB; rw [decide_eq_false (by show ¬ (1 ≤ kd ∧ kd ≤ 9); omega)]; rfl)
    have h0 : (2 : Int) ≤ kd := by omega
    have h4 : ¬ kd ≤ (5 : Int) := by omega
    have h1 : (1 : Int) ≤ kd := by omega
    have h5 : ¬ kd ≤ (9 : Int) := by omega
    have h2 : (kd == 2) = false := by simp; omega
    have h3 : (kd == 3) = false := by simp; omega
    clear h
    go_enter Try.func36, Try.ntmps36
    go_upto_region 1 with (fail)
    rw [← hW1]
    clear hW1
    go_wp2_with (go_at_call 40; refine (same_any _ _ _).mono ?_; rintro e w2 ⟨rfl, rfl⟩)
    go_ret
    exact ⟨by rw [HBA.out]; rfl, HB1.out⟩
set_option maxHeartbeats 8000000 in
theorem rAdded_any (G : Gr) (na : Option Addr) (nc : Nat) (la : Option Addr) (lc : Nat) (x : Int) (w : World) (hin : GrIn w G na la) (hG : checkG G = 0) :
    Calls Try.prog 37 #[.agg #[.slice na G.nodes.length nc, .slice la G.links.length lc], .int .i64 x] w fun e w' => LiveEnds w (addG G x) (addE G x) e w' := by
  have hst := g_storeL
  obtain ⟨W1, hW1⟩ : ∃ W1, W1 = w.alloc (.cells #[.slice na G.nodes.length nc, .slice la G.links.length lc] 25) := ⟨_, rfl⟩
  obtain ⟨W2, hW2⟩ : ∃ W2, W2 = W1.alloc (.cells #[.slice none 0 0, .slice none 0 0] 25) := ⟨_, rfl⟩
  have b1 : Below w.heap.size w W1 := by rw [hW1]; exact gAl _ _
  have b2 : Below W1.heap.size W1 W2 := by rw [hW2]; exact gAl _ _
  have s1 : W1.heap.size = w.heap.size + 1 := by rw [hW1]; simp
  have s2 : W2.heap.size = W1.heap.size + 1 := by rw [hW2]; simp
  have r1 : W1.heap[w.heap.size]? = some (.cells #[.slice na G.nodes.length nc, .slice la G.links.length lc] 25 (0, 0)) := by rw [hW1]; exact heap_alloc_new w _
  have r2 : W2.heap[W1.heap.size]? = some (.cells #[.slice none 0 0, .slice none 0 0] 25 (0, 0)) := by rw [hW2]; exact heap_alloc_new W1 _
  have hb2 : Below w.heap.size w W2 := gNx b1 b2
  have q1 : W2.heap[w.heap.size]? = some (.cells #[.slice na G.nodes.length nc, .slice la G.links.length lc] 25 (0, 0)) := (b2.block _ (by omega)).trans r1
  obtain ⟨br, hbr⟩ : ∃ br, br = W1.heap.size := ⟨_, rfl⟩
  have HBR : Hid (br < W2.heap.size ∧ w.heap.size ≤ br ∧ br ≠ w.heap.size ∧ w.heap.size < W2.heap.size) := Lib.hid (by omega)
  have HKG : Hid (∀ V, Below W2.heap.size W2 V → V.cell? ⟨w.heap.size, 0, none⟩ = some (.slice na G.nodes.length nc) ∧ V.cell? ⟨w.heap.size, 1, none⟩ = some (.slice la G.links.length lc)) := Lib.hid (fun V hV => by
    have := (hV.block w.heap.size (by omega)).trans q1
    exact ⟨by rw [cell_of_row V _ 0 _ _ (0, 0) this]; rfl, by rw [cell_of_row V _ 1 _ _ (0, 0) this]; rfl⟩)
  have HRS : Hid (∀ V, Below W2.heap.size W2 V → V.heap[br]? = some (.cells #[.slice none 0 0, .slice none 0 0] 25 (0, 0))) := Lib.hid (fun V hV => by rw [hbr]; exact (hV.block _ (by omega)).trans r2)
  have HWB : Hid (∀ V, Below W2.heap.size W2 V → Below w.heap.size w V) := Lib.hid (fun V hV => gNx hb2 hV)
  have HN : Hid (∀ V, Below W2.heap.size W2 V → NodesIn V V.heap.size G.nodes na) := Lib.hid (fun V hV => hin.nodes.kept (fun i hi => (gNx hb2 hV).block i hi) (gNx hb2 hV).size)
  have HL : Hid (∀ V, Below W2.heap.size W2 V → LinksIn V V.heap.size G.links la) := Lib.hid (fun V hV => hin.links.kept (fun i hi => (gNx hb2 hV).block i hi) (gNx hb2 hV).size)
  have HG2 : Hid (∀ V, Below W2.heap.size W2 V → GrIn V G na la) := Lib.hid (fun V hV => hin.below (gNx hb2 hV))
  have HQ := Lib.hid hin.wts
  have HSZ : Hid (G.nodes.length * 16 ≤ 140737488351232 ∧ G.links.length * 32 ≤ 140737488351232) := Lib.hid ⟨hin.n1, hin.l1⟩
  obtain ⟨n1, n2, n3, n4⟩ := check_zero.1 hG
  have HNP := Lib.hid n3
  have HM1 := Lib.hid (links_iff.1 n4).1
  have HNL : Hid (G.nodes.length ≤ 256 ∧ G.links.length ≤ 4096) := Lib.hid ⟨n1, n2⟩
  clear hin b1 b2 r1 r2 q1 hb2 hG n1 n2 n3 n4
  rcases idE_cases x with ⟨hi, hi2⟩ | ⟨hi, hi2⟩
  case inr =>
    have HP : Hid (addG G x = gr0 ∧ addE G x = 70) := Lib.hid (by
      have e : addE G x = 70 := by unfold addE; rw [hi2]; rfl
      exact ⟨addG_no (by rw [e]; decide), e⟩)
    have HI := Lib.hid hi
    clear hi hi2
    go_enter Try.func37, Try.ntmps37
    go_upto_region 1 with (fail)
    rw [← hW1, ← hW2, ← s1, ← hbr]
    obtain ⟨g0, g1⟩ := HKG.out W2 (Below.refl _ _)
    clear hW1 hW2 s1 s2 hbr
    go_wp2_with fail
    refine (refcheckId_any _ _).mono ?_
    rintro e w2 ⟨rfl, rfl⟩
    rw [HI.out]
    clear HI
    have hres := HRS.out W2 (Below.refl _ _)
    obtain ⟨x0, x1, x2, x3⟩ := cells_two hres
    have HRES := Lib.hid hres
    clear hres
    go_wp2_with fail
    have hq1 := heap_setCell_same W2 br 0 _ _ (.slice none 0 0) HRES.out
    have hq2 := heap_setCell_same _ br 1 _ _ (.slice none 0 0) hq1
    refine bodyPost_ret (results_cell2 Try.results37 _ _ br 0 [.slice none 0 0, .slice none 0 0] _ rfl ?_ Try.underlying25 (by rfl) (by kernel_rfl)) rfl ?_
    · intro j v hj
      match j with
      | 0 => simp at hj; subst hj; rw [cell_of_row _ _ _ _ _ (0, 0) hq2]; rfl
      | 1 => simp at hj; subst hj; rw [cell_of_row _ _ _ _ _ (0, 0) hq2]; rfl
      | j + 2 => simp at hj
    · rw [HP.out.1, HP.out.2]
      exact ⟨_, _, rfl, ((grv_0 _ _).set HRES.out).set hq1, ((HWB.out W2 (Below.refl _ _)).setCell HBR.out.2.1 _).setCell HBR.out.2.1 _⟩
  case inl =>
    have HI := Lib.hid hi
    have HI2 := Lib.hid hi2
    clear hi hi2
    cases hh : has G.nodes x with
    | true =>
      have HP : Hid (addG G x = gr0 ∧ addE G x = 72) := Lib.hid (by
        have e : addE G x = 72 := by unfold addE; rw [HI2.out, hh]; rfl
        exact ⟨addG_no (by rw [e]; decide), e⟩)
      have hpl : (0 : Int) ≤ placeV G.nodes x := (placeV_neg _ _).2.2 hh
      clear hh
      go_enter Try.func37, Try.ntmps37
      go_upto_region 1 with (fail)
      rw [← hW1, ← hW2, ← s1, ← hbr]
      obtain ⟨g0, g1⟩ := HKG.out W2 (Below.refl _ _)
      clear hW1 hW2 s1 s2 hbr
      go_wp2_with fail
      refine (refcheckId_any _ _).mono ?_
      rintro e w2 ⟨rfl, rfl⟩
      rw [HI.out]
      clear HI
      go_wp2_with fail
      refine (rPlace_any G.nodes na nc la G.links.length lc x W2 (HN.out W2 (Below.refl _ _)) HNP.out (by have := HNL.out; omega)).mono ?_
      rintro e V1 ⟨rfl, hb⟩
      have B1 := Lib.hid hb
      clear hb g0 g1
      have hres := HRS.out V1 B1.out
      obtain ⟨x0, x1, x2, x3⟩ := cells_two hres
      have HRES := Lib.hid hres
      clear hres
      go_wp2_with fail
      have hq1 := heap_setCell_same V1 br 0 _ _ (.slice none 0 0) HRES.out
      have hq2 := heap_setCell_same _ br 1 _ _ (.slice none 0 0) hq1
      refine bodyPost_ret (results_cell2 Try.results37 _ _ br 0 [.slice none 0 0, .slice none 0 0] _ rfl ?_ Try.underlying25 (by rfl) (by kernel_rfl)) rfl ?_
      · intro j v hj
        match j with
        | 0 => simp at hj; subst hj; rw [cell_of_row _ _ _ _ _ (0, 0) hq2]; rfl
        | 1 => simp at hj; subst hj; rw [cell_of_row _ _ _ _ _ (0, 0) hq2]; rfl
        | j + 2 => simp at hj
      · rw [HP.out.1, HP.out.2]
        exact ⟨_, _, rfl, ((grv_0 _ _).set HRES.out).set hq1, ((HWB.out V1 B1.out).setCell HBR.out.2.1 _).setCell HBR.out.2.1 _⟩
    | false =>
      have hpl : ¬ (0 : Int) ≤ placeV G.nodes x := fun h => by rw [(placeV_neg _ _).2.1 h] at hh; cases hh
      have HHN := Lib.hid hh
      clear hh
      by_cases hfull : G.nodes.length = 256
      · have HP : Hid (addG G x = gr0 ∧ addE G x = 2) := Lib.hid (by
          have e : addE G x = 2 := by unfold addE; rw [HI2.out, HHN.out, hfull]; rfl
          exact ⟨addG_no (by rw [e]; decide), e⟩)
        have hfi : ((G.nodes.length : Int) == 256) = true := by simp; omega
        clear hfull
        go_enter Try.func37, Try.ntmps37
        go_upto_region 1 with (fail)
        rw [← hW1, ← hW2, ← s1, ← hbr]
        obtain ⟨g0, g1⟩ := HKG.out W2 (Below.refl _ _)
        clear hW1 hW2 s1 s2 hbr
        go_wp2_with fail
        refine (refcheckId_any _ _).mono ?_
        rintro e w2 ⟨rfl, rfl⟩
        rw [HI.out]
        clear HI
        go_wp2_with fail
        refine (rPlace_any G.nodes na nc la G.links.length lc x W2 (HN.out W2 (Below.refl _ _)) HNP.out (by have := HNL.out; omega)).mono ?_
        rintro e V1 ⟨rfl, hb⟩
        have B1 := Lib.hid hb
        clear hb g0 g1
        obtain ⟨g0, g1⟩ := HKG.out V1 B1.out
        have hres := HRS.out V1 B1.out
        obtain ⟨x0, x1, x2, x3⟩ := cells_two hres
        have HRES := Lib.hid hres
        clear hres
        go_wp2_with fail
        have hq1 := heap_setCell_same V1 br 0 _ _ (.slice none 0 0) HRES.out
        have hq2 := heap_setCell_same _ br 1 _ _ (.slice none 0 0) hq1
        refine bodyPost_ret (results_cell2 Try.results37 _ _ br 0 [.slice none 0 0, .slice none 0 0] _ rfl ?_ Try.underlying25 (by rfl) (by kernel_rfl)) rfl ?_
        · intro j v hj
          match j with
          | 0 => simp at hj; subst hj; rw [cell_of_row _ _ _ _ _ (0, 0) hq2]; rfl
          | 1 => simp at hj; subst hj; rw [cell_of_row _ _ _ _ _ (0, 0) hq2]; rfl
          | j + 2 => simp at hj
        · rw [HP.out.1, HP.out.2]
          exact ⟨_, _, rfl, ((grv_0 _ _).set HRES.out).set hq1, ((HWB.out V1 B1.out).setCell HBR.out.2.1 _).setCell HBR.out.2.1 _⟩
      · have hfi : ((G.nodes.length : Int) == 256) = false := by simp; omega
        have HP : Hid (addE G x = 0 ∧ addG G x = { G with nodes := putNode G.nodes ⟨x, true, false⟩ }) := Lib.hid (by
          have e : addE G x = 0 := by
            have := HNL.out.1
            unfold addE; rw [HI2.out, HHN.out, if_neg (by decide), if_neg (by decide), if_neg (by omega)]
          exact ⟨e, addG_ok e⟩)
        have HAG := Lib.hid (ahead_gt HNP.out HHN.out)
        clear hfull
        go_enter Try.func37, Try.ntmps37
        go_upto_region 1 with (fail)
        rw [← hW1, ← hW2, ← s1, ← hbr]
        obtain ⟨g0, g1⟩ := HKG.out W2 (Below.refl _ _)
        clear hW1 hW2 s1 s2 hbr
        go_wp2_with fail
        refine (refcheckId_any _ _).mono ?_
        rintro e w2 ⟨rfl, rfl⟩
        rw [HI.out]
        clear HI
        go_wp2_with fail
        refine (rPlace_any G.nodes na nc la G.links.length lc x W2 (HN.out W2 (Below.refl _ _)) HNP.out (by have := HNL.out; omega)).mono ?_
        rintro e V1 ⟨rfl, hb⟩
        have B1 := Lib.hid hb
        clear hb g0 g1
        obtain ⟨g0, g1⟩ := HKG.out V1 B1.out
        go_wp2_with fail
        refine (rCopy_any G na la nc lc V1 (HN.out V1 B1.out) (HL.out V1 B1.out) HQ.out (by have := HSZ.out; omega) (by have := HSZ.out; omega)).mono ?_
        rintro e VC ⟨vn0, vl0, rfl, hv, hb⟩
        have hfd : ∀ W, (Instr.field 25 (.agg #[vn0, vl0]) 1).run Try.prog W = .ok vl0 W := fun _ => by kernel_rfl
        obtain ⟨W4, hW4⟩ : ∃ W4, W4 = VC.alloc (.cells #[.slice none 0 0, vl0] 25) := ⟨_, rfl⟩
        obtain ⟨an0, cn0, rfl⟩ := hv.nodes.slice
        obtain ⟨al0, cl0, rfl⟩ := hv.links.slice
        obtain ⟨b0, hb0⟩ : ∃ b0, b0 = V1.heap.size := ⟨_, rfl⟩
        obtain ⟨bo, hbo⟩ : ∃ bo, bo = VC.heap.size := ⟨_, rfl⟩
        rw [← hb0] at hv
        have b4 : Below W2.heap.size W2 W4 := by rw [hW4]; exact gNx B1.out (gNx hb (gAl _ _))
        have hga0 : GrAt W4 b0 bo (.slice none 0 0) (.slice al0 G.links.length cl0) ⟨[], G.links⟩ := ⟨by rw [hb0, hbo]; exact hb.size, by rw [hW4, hbo]; exact heap_alloc_new VC _, Or.inl ⟨rfl, rfl, none, rfl⟩, hv.links.below (by rw [hW4]; exact gAl _ _), HQ.out⟩
        have HGA0 := Lib.hid hga0
        have HB4 := Lib.hid b4
        have HBG : Hid (w.heap.size < b0 ∧ W2.heap.size ≤ b0 ∧ b0 ≤ bo) := Lib.hid (by have h1 := B1.out.size; have h2 := hb.size; have h3 := HBR.out; omega)
        go_upto_region 8 with (fail)
        rw [← hW4, ← hbo]
        clear hW4 hbo hb0 b4 hga0 hv hb hfd g0 g1 hfi hpl
        go_wp2_with fail
        go_loopw [7, 8] (fun p v wr => ∃ (k : Nat) (vn : Value), v = .int .i64 (k : Int) ∧ p = .bool (decide (Nq.ahead G.nodes x < k)) ∧ k ≤ G.nodes.length ∧ GrAt wr b0 bo vn (.slice al0 G.links.length cl0) ⟨putK G.nodes (Nq.ahead G.nodes x) ⟨x, true, false⟩ k, G.links⟩ ∧ Below W2.heap.size W2 wr) (fun _ v _ => G.nodes.length - (RowKit.intOf v).toNat)
        case atStart => exact ⟨0, _, rfl, rfl, by omega, by rw [part_0]; exact HGA0.out, HB4.out⟩
        case round =>
          obtain ⟨k, vn, rfl, rfl, hk, hga, hbel⟩ := hrel
          by_cases hlt : k < G.nodes.length
          · have hlti : (k : Int) < (G.nodes.length : Int) := by omega
            have hk0 : (0 : Int) ≤ (k : Int) := by omega
            have hkw : IntKind.i64.wrap ((k : Int) + 1) = (k : Int) + 1 := by rw [IntKind.wrap_i64]; have := HSZ.out; omega
            obtain ⟨b, o, rfl, hb, hc⟩ := (HN.out wr hbel).at k hlt
            have hcc := hc k hlt
            obtain ⟨c0, c1, c2⟩ := hc k hlt
            have HBL : Hid (b < wr.heap.size ∧ b < b0) := Lib.hid ⟨hb, by
              obtain ⟨b', o', he, hb', -⟩ := (HN.out W2 (Below.refl _ _)).at k hlt
              cases he
              exact Nat.lt_of_lt_of_le hb' HBG.out.2.1⟩
            have HCK := Lib.hid hcc
            have HFIT : Hid (((putK G.nodes (Nq.ahead G.nodes x) ⟨x, true, false⟩ k).length + 1) * 16 ≤ 140737488355328 ∧ ((putK G.nodes (Nq.ahead G.nodes x) ⟨x, true, false⟩ k ++ [(⟨x, true, false⟩ : Nd)]).length + 1) * 16 ≤ 140737488355328) := Lib.hid (by have := part_len G.nodes (Nq.ahead G.nodes x) ⟨x, true, false⟩ k (Nat.le_of_lt hlt); have := HNL.out; rw [List.length_append]; simp only [List.length_cons, List.length_nil]; omega)
            have HGT := Lib.hid (HAG.out.2 k hlt)
            have HPA := Lib.hid (part_at G.nodes (Nq.ahead G.nodes x) ⟨x, true, false⟩ k hlt)
            have HPG := Lib.hid (part_go G.nodes (Nq.ahead G.nodes x) ⟨x, true, false⟩ k hlt)
            have HBEL := Lib.hid hbel
            have HGAW : Hid (∀ V, Below wr.heap.size wr V → GrAt V b0 bo vn (.slice al0 G.links.length cl0) ⟨putK G.nodes (Nq.ahead G.nodes x) ⟨x, true, false⟩ k, G.links⟩) := Lib.hid (fun V hV => hga.below hV)
            obtain ⟨g0, g1⟩ := HKG.out wr hbel
            obtain ⟨e0, -, e2, -⟩ := hga.cells
            clear hc hcc hga hbel hb
            generalize G.nodes[k] = nd at *
            have hcases : Nq.ahead G.nodes x = k ∨ Nq.ahead G.nodes x < k ∨ k < Nq.ahead G.nodes x := by omega
            rcases hcases with hA | hA | hA
            · rw [show decide (Nq.ahead G.nodes x < k) = false from decide_eq_false (by omega)]
              have hgt : x < nd.id := HGT.out.2 (by omega)
              have HX := Lib.hid (HPA.out hA)
              have HNP1 : Hid (decide (Nq.ahead G.nodes x < k + 1) = true) := Lib.hid (decide_eq_true (by omega))
              clear HGT HPA HPG hA
              obtain ⟨a3, c3, V3, hrun, hg, hga, hb⟩ := (HGAW.out (wr.alloc (.cells #[.int .i64 x, .bool true, .bool false] 52)) (gAl _ _)).addN ⟨x, true, false⟩ (vb := wr.heap.size) (heap_alloc_new wr _) HFIT.out.1
              have HR := Lib.hid hrun
              have HG3 := Lib.hid hga
              have HB3 := Lib.hid hb
              have d0 : V3.cell? ⟨bo, 0, none⟩ = some vn := by rw [cell_of_row V3 _ 0 _ _ (0, 0) hg]; rfl
              have d1 : V3.frozen? ⟨bo, 0, none⟩ = false := frozen_of_row V3 _ _ _ _ hg
              clear hrun hg hga hb
              go_upto_region 15 with (at_builtin; refine Lib.wpList_append_run _ rfl _ _ _ _ rfl _ _ rfl rfl _ _ (HR.out _) ?_)
              obtain ⟨W7, hW7⟩ : ∃ W7, W7 = V3.setCell ⟨bo, 0, none⟩ (.slice a3 ((putK G.nodes (Nq.ahead G.nodes x) ⟨x, true, false⟩ k).length + 1) c3) := ⟨_, rfl⟩
              rw [← hW7]
              have b7 : Below b0 wr W7 := by rw [hW7]; exact (((gAl wr _).mono (Nat.le_trans HBG.out.2.2 (Nat.le_of_lt (HGAW.out wr (Below.refl _ _)).lt))).trans HB3.out).setCell HBG.out.2.2 _
              have hg7 : GrAt W7 b0 bo (.slice a3 ((putK G.nodes (Nq.ahead G.nodes x) ⟨x, true, false⟩ k).length + 1) c3) (.slice al0 G.links.length cl0) ⟨putK G.nodes (Nq.ahead G.nodes x) ⟨x, true, false⟩ k ++ [⟨x, true, false⟩], G.links⟩ := by rw [hW7]; exact HG3.out
              have HCW : Hid (NdAt W7 b (o + k * 3) nd) := Lib.hid (HCK.out.kept (b7.block b HBL.out.2))
              have HBL : Hid (b < W7.heap.size ∧ b < b0) := Lib.hid ⟨Nat.lt_of_lt_of_le HBL.out.1 b7.size, HBL.out.2⟩
              have HBW : Hid (∀ V, Below W7.heap.size W7 V → Below W2.heap.size W2 V) := Lib.hid (fun V hV => gNx (HBEL.out.trans (b7.mono HBG.out.2.1)) hV)
              obtain ⟨vn, hvn⟩ : ∃ v, v = Value.slice a3 ((putK G.nodes (Nq.ahead G.nodes x) ⟨x, true, false⟩ k).length + 1) c3 := ⟨_, rfl⟩
              obtain ⟨P, hP⟩ : ∃ P, P = putK G.nodes (Nq.ahead G.nodes x) ⟨x, true, false⟩ k ++ [(⟨x, true, false⟩ : Nd)] := ⟨_, rfl⟩
              have HX : Hid (putK G.nodes (Nq.ahead G.nodes x) ⟨x, true, false⟩ (k + 1) = P ++ [nd]) := Lib.hid (by rw [hP]; exact HX.out)
              have HFI2 : Hid ((P.length + 1) * 16 ≤ 140737488355328) := Lib.hid (by rw [hP]; exact HFIT.out.2)
              rw [← hvn, ← hP] at hg7
              have HGW : Hid (∀ V, Below W7.heap.size W7 V → GrAt V b0 bo vn (.slice al0 G.links.length cl0) ⟨P, G.links⟩) := Lib.hid (fun V hV => hg7.below hV)
              clear hW7 b7 hg7 hvn hP HG3 HB3 d0 d1 g0 g1 e0 e2 c0 c1 c2 HR HGAW HCK
              have HSS : Hid (∀ V, Below W7.heap.size W7 V → V.cell? ⟨w.heap.size, 0, none⟩ = some (.slice (some ⟨b, o, none⟩) G.nodes.length nc) ∧ NdAt V b (o + k * 3) nd) := Lib.hid (fun V hV => ⟨(HKG.out V (HBW.out V hV)).1, HCW.out.kept (hV.block b HBL.out.1)⟩)
              have HSW : Hid (∀ V V', Below W7.heap.size W7 V → Below b0 V V' → V'.cell? ⟨w.heap.size, 0, none⟩ = some (.slice (some ⟨b, o, none⟩) G.nodes.length nc) ∧ NdAt V' b (o + k * 3) nd) := Lib.hid (fun V V' hV hw => by
                obtain ⟨e1, e2⟩ := HSS.out V hV
                exact ⟨(hw.cell (p := ⟨w.heap.size, 0, none⟩) HBG.out.1).trans e1, e2.kept (hw.block b HBL.out.2)⟩)
              have HSX : Hid (∀ (V : World) (u : Value), (V.cell? ⟨w.heap.size, 0, none⟩ = some (.slice (some ⟨b, o, none⟩) G.nodes.length nc) ∧ NdAt V b (o + k * 3) nd) → ((V.setCell ⟨bo, 0, none⟩ u).cell? ⟨w.heap.size, 0, none⟩ = some (.slice (some ⟨b, o, none⟩) G.nodes.length nc) ∧ NdAt (V.setCell ⟨bo, 0, none⟩ u) b (o + k * 3) nd)) := Lib.hid (fun V u h => ⟨by rw [World.cell?_setCell_other _ _ _ _ (by intro e; simp only [Addr.mk.injEq] at e; have := HBG.out; omega)]; exact h.1, h.2.kept (Below.heap_setCell _ _ _ _ (by have := HBL.out.2; have := HBG.out; show b ≠ bo; omega))⟩)
              refine wp_region_held_drew (S := fun V => V.cell? ⟨w.heap.size, 0, none⟩ = some (.slice (some ⟨b, o, none⟩) G.nodes.length nc) ∧ NdAt V b (o + k * 3) nd) (by kernel_rfl) (HSS.out W7.drew (Below.drew (Below.refl _ _))) (fun hH => ?_)
              have B0 : Hid (Below W7.heap.size W7 W7.drew) := Lib.hid (Below.drew (Below.refl _ _))
              generalize W7.drew = V0 at *
              have HLD := Lib.hid (HGW.out V0 B0.out).cells.1
              refine tk 0 (by assumption) rfl (by kernel_rfl) (fun _ _ _ h => h) (fun V hV => by go_simp; try with_reducible rfl) ?_
              try simp only [Act.put, List.setIfInBounds_toArray, List.set_cons_zero, List.set_cons_succ, List.getElem_toArray, List.getElem_cons_succ, List.getElem_cons_zero]
              refine tk 2 (by assumption) rfl (by kernel_rfl) (fun _ _ _ h => h) (fun V hV => by go_simp; try with_reducible rfl) ?_
              try simp only [Act.put, List.setIfInBounds_toArray, List.set_cons_zero, List.set_cons_succ, List.getElem_toArray, List.getElem_cons_succ, List.getElem_cons_zero]
              refine tk 3 (by assumption) rfl (by kernel_rfl) (fun _ _ _ h => h) (fun V hV => by obtain ⟨x0, x1⟩ := hV; obtain ⟨c0, c1, c2⟩ := x1; go_simp; try with_reducible rfl) ?_
              try simp only [Act.put, List.setIfInBounds_toArray, List.set_cons_zero, List.set_cons_succ, List.getElem_toArray, List.getElem_cons_succ, List.getElem_cons_zero]
              refine tk 4 (by assumption) rfl (by kernel_rfl) (fun _ _ _ h => h) (fun V hV => by go_simp; try with_reducible rfl) ?_
              try simp only [Act.put, List.setIfInBounds_toArray, List.set_cons_zero, List.set_cons_succ, List.getElem_toArray, List.getElem_cons_succ, List.getElem_cons_zero]
              refine tk 5 (by assumption) rfl (by kernel_rfl) (fun _ _ _ h => h) (fun V hV => by go_simp; try with_reducible rfl) ?_
              try simp only [Act.put, List.setIfInBounds_toArray, List.set_cons_zero, List.set_cons_succ, List.getElem_toArray, List.getElem_cons_succ, List.getElem_cons_zero]
              refine tk 6 (by assumption) rfl (by kernel_rfl) (fun _ _ _ h => h) (fun V hV => by obtain ⟨x0, x1⟩ := hV; obtain ⟨c0, c1, c2⟩ := x1; go_simp; try with_reducible rfl) ?_
              try simp only [Act.put, List.setIfInBounds_toArray, List.set_cons_zero, List.set_cons_succ, List.getElem_toArray, List.getElem_cons_succ, List.getElem_cons_zero]
              refine wpAnyH_ready (rs := [1, 7]) (by kernel_rfl) (by simp) ?_
              refine AllReadyH.cons (o := _) rfl (fun K hK => ?_) (AllReadyH.cons (o := _) rfl (fun K hK => ?_) (AllReadyH.nil))
              · have hx := HLD.out
                go_simp
                refine hK.out _ _ hH (fun hH => ?_)
                clear hK K
                try simp only [Act.put, List.setIfInBounds_toArray, List.set_cons_zero, List.set_cons_succ, List.getElem_toArray, List.getElem_cons_succ, List.getElem_cons_zero]
                refine wpAnyH_ready (rs := [7]) (by kernel_rfl) (by simp) ?_
                refine AllReadyH.cons (o := _) rfl (fun K hK => ?_) AllReadyH.nil
                go_simp
                obtain ⟨V9, hV9⟩ : ∃ V9, V9 = V0.alloc (.cells #[.int .i64 nd.id, .bool nd.up, .bool nd.mark] 52) := ⟨_, rfl⟩
                rw [← hV9]
                have B9 : Hid (Below W7.heap.size W7 V9) := Lib.hid (by rw [hV9]; exact gNx B0.out (gAl _ _))
                have HV9 : Hid (V9.heap[V0.heap.size]? = some (.cells (ndC nd).toArray 52 (0, 0))) := Lib.hid (by rw [hV9]; exact heap_alloc_new V0 _)
                clear hV9
                have HS9 := Lib.hid (HSS.out V9 B9.out)
                have HLD := Lib.hid (HGW.out V9 B9.out).cells.1
                refine hK.out _ _ HS9.out (fun hH => ?_)
                clear hK K
                try simp only [Act.put, List.setIfInBounds_toArray, List.set_cons_zero, List.set_cons_succ, List.getElem_toArray, List.getElem_cons_succ, List.getElem_cons_zero]
                refine wpAnyH_ready (rs := [8]) (by kernel_rfl) (by simp) ?_
                refine AllReadyH.cons (o := _) rfl (fun K hK => ?_) AllReadyH.nil
                obtain ⟨a6, c6, V6, hrun, hg6, hga6, hb6⟩ := (HGW.out V9 B9.out).addN nd HV9.out HFI2.out
                refine step_append_r rfl _ _ 22 22 rfl vn (.slice (some ⟨V0.heap.size, 0, none⟩) 1 1) (by simp [Act.eval, Act.put]) (by simp [Act.eval, Act.put]) (hrun _) ?_
                clear hrun
                have HG6 := Lib.hid hga6
                have HB6 := Lib.hid hb6
                have HX6 := Lib.hid hg6
                clear hga6 hb6 hg6
                have HS6 := Lib.hid (HSW.out V9 V6 B9.out HB6.out)
                refine hK.out _ _ HS6.out (fun hH => ?_)
                clear hK K
                try simp only [Act.put, List.setIfInBounds_toArray, List.set_cons_zero, List.set_cons_succ, List.getElem_toArray, List.getElem_cons_succ, List.getElem_cons_zero]
                refine tk 9 (by assumption) rfl (by kernel_rfl) (fun _ _ _ h => h) (fun V hV => by go_simp; try with_reducible rfl) ?_
                try simp only [Act.put, List.setIfInBounds_toArray, List.set_cons_zero, List.set_cons_succ, List.getElem_toArray, List.getElem_cons_succ, List.getElem_cons_zero]
                refine wpAnyH_ready (rs := [10]) (by kernel_rfl) (by simp) ?_
                refine AllReadyH.cons (o := _) rfl (fun K hK => ?_) AllReadyH.nil
                have d0 : V6.cell? ⟨bo, 0, none⟩ = some vn := by rw [cell_of_row V6 _ 0 _ _ (0, 0) HX6.out]; rfl
                have d1 : V6.frozen? ⟨bo, 0, none⟩ = false := frozen_of_row V6 _ _ _ _ HX6.out
                go_simp
                refine hK.out _ _ (HSX.out _ _ HS6.out) (fun hH => ?_)
                clear hK K
                try simp only [Act.put, List.setIfInBounds_toArray, List.set_cons_zero, List.set_cons_succ, List.getElem_toArray, List.getElem_cons_succ, List.getElem_cons_zero]
                refine wpAnyH_done (by kernel_rfl) ?_ _
                go_wp2_with fail
                refine ⟨⟨k + 1, _, by simp, by rw [HNP1.out], by omega, by rw [HX.out]; exact HG6.out, ((HBW.out _ B9.out).trans (HB6.out.mono HBG.out.2.1)).setCell (Nat.le_trans HBG.out.2.1 HBG.out.2.2) _⟩, ?_⟩
                simp [RowKit.intOf]; omega
              · go_simp
                obtain ⟨V9, hV9⟩ : ∃ V9, V9 = V0.alloc (.cells #[.int .i64 nd.id, .bool nd.up, .bool nd.mark] 52) := ⟨_, rfl⟩
                rw [← hV9]
                have B9 : Hid (Below W7.heap.size W7 V9) := Lib.hid (by rw [hV9]; exact gNx B0.out (gAl _ _))
                have HV9 : Hid (V9.heap[V0.heap.size]? = some (.cells (ndC nd).toArray 52 (0, 0))) := Lib.hid (by rw [hV9]; exact heap_alloc_new V0 _)
                clear hV9
                have HS9 := Lib.hid (HSS.out V9 B9.out)
                have HLD := Lib.hid (HGW.out V9 B9.out).cells.1
                refine hK.out _ _ HS9.out (fun hH => ?_)
                clear hK K
                try simp only [Act.put, List.setIfInBounds_toArray, List.set_cons_zero, List.set_cons_succ, List.getElem_toArray, List.getElem_cons_succ, List.getElem_cons_zero]
                refine wpAnyH_ready (rs := [1]) (by kernel_rfl) (by simp) ?_
                refine AllReadyH.cons (o := _) rfl (fun K hK => ?_) AllReadyH.nil
                have hx := HLD.out
                go_simp
                refine hK.out _ _ hH (fun hH => ?_)
                clear hK K
                try simp only [Act.put, List.setIfInBounds_toArray, List.set_cons_zero, List.set_cons_succ, List.getElem_toArray, List.getElem_cons_succ, List.getElem_cons_zero]
                refine wpAnyH_ready (rs := [8]) (by kernel_rfl) (by simp) ?_
                refine AllReadyH.cons (o := _) rfl (fun K hK => ?_) AllReadyH.nil
                obtain ⟨a6, c6, V6, hrun, hg6, hga6, hb6⟩ := (HGW.out V9 B9.out).addN nd HV9.out HFI2.out
                refine step_append_r rfl _ _ 22 22 rfl vn (.slice (some ⟨V0.heap.size, 0, none⟩) 1 1) (by simp [Act.eval, Act.put]) (by simp [Act.eval, Act.put]) (hrun _) ?_
                clear hrun
                have HG6 := Lib.hid hga6
                have HB6 := Lib.hid hb6
                have HX6 := Lib.hid hg6
                clear hga6 hb6 hg6
                have HS6 := Lib.hid (HSW.out V9 V6 B9.out HB6.out)
                refine hK.out _ _ HS6.out (fun hH => ?_)
                clear hK K
                try simp only [Act.put, List.setIfInBounds_toArray, List.set_cons_zero, List.set_cons_succ, List.getElem_toArray, List.getElem_cons_succ, List.getElem_cons_zero]
                refine tk 9 (by assumption) rfl (by kernel_rfl) (fun _ _ _ h => h) (fun V hV => by go_simp; try with_reducible rfl) ?_
                try simp only [Act.put, List.setIfInBounds_toArray, List.set_cons_zero, List.set_cons_succ, List.getElem_toArray, List.getElem_cons_succ, List.getElem_cons_zero]
                refine wpAnyH_ready (rs := [10]) (by kernel_rfl) (by simp) ?_
                refine AllReadyH.cons (o := _) rfl (fun K hK => ?_) AllReadyH.nil
                have d0 : V6.cell? ⟨bo, 0, none⟩ = some vn := by rw [cell_of_row V6 _ 0 _ _ (0, 0) HX6.out]; rfl
                have d1 : V6.frozen? ⟨bo, 0, none⟩ = false := frozen_of_row V6 _ _ _ _ HX6.out
                go_simp
                refine hK.out _ _ (HSX.out _ _ HS6.out) (fun hH => ?_)
                clear hK K
                try simp only [Act.put, List.setIfInBounds_toArray, List.set_cons_zero, List.set_cons_succ, List.getElem_toArray, List.getElem_cons_succ, List.getElem_cons_zero]
                refine wpAnyH_done (by kernel_rfl) ?_ _
                go_wp2_with fail
                refine ⟨⟨k + 1, _, by simp, by rw [HNP1.out], by omega, by rw [HX.out]; exact HG6.out, ((HBW.out _ B9.out).trans (HB6.out.mono HBG.out.2.1)).setCell (Nat.le_trans HBG.out.2.1 HBG.out.2.2) _⟩, ?_⟩
                simp [RowKit.intOf]; omega
            · rw [show decide (Nq.ahead G.nodes x < k) = true from decide_eq_true (by omega)]
              have HX := Lib.hid (HPG.out (by omega))
              have HNP1 : Hid (decide (Nq.ahead G.nodes x < k + 1) = true) := Lib.hid (decide_eq_true (by omega))
              
              clear HGT HPA HPG hA
              go_upto_region 15 with (fail)
              have HCW := HCK
              have HGW := HGAW
              have HBW : Hid (∀ V, Below wr.heap.size wr V → Below W2.heap.size W2 V) := Lib.hid (fun V hV => gNx HBEL.out hV)
              clear g0 g1 e0 e2 c0 c1 c2 HCK HGAW
              have HSS : Hid (∀ V, Below wr.heap.size wr V → V.cell? ⟨w.heap.size, 0, none⟩ = some (.slice (some ⟨b, o, none⟩) G.nodes.length nc) ∧ NdAt V b (o + k * 3) nd) := Lib.hid (fun V hV => ⟨(HKG.out V (HBW.out V hV)).1, HCW.out.kept (hV.block b HBL.out.1)⟩)
              have HSW : Hid (∀ V V', Below wr.heap.size wr V → Below b0 V V' → V'.cell? ⟨w.heap.size, 0, none⟩ = some (.slice (some ⟨b, o, none⟩) G.nodes.length nc) ∧ NdAt V' b (o + k * 3) nd) := Lib.hid (fun V V' hV hw => by
                obtain ⟨e1, e2⟩ := HSS.out V hV
                exact ⟨(hw.cell (p := ⟨w.heap.size, 0, none⟩) HBG.out.1).trans e1, e2.kept (hw.block b HBL.out.2)⟩)
              have HSX : Hid (∀ (V : World) (u : Value), (V.cell? ⟨w.heap.size, 0, none⟩ = some (.slice (some ⟨b, o, none⟩) G.nodes.length nc) ∧ NdAt V b (o + k * 3) nd) → ((V.setCell ⟨bo, 0, none⟩ u).cell? ⟨w.heap.size, 0, none⟩ = some (.slice (some ⟨b, o, none⟩) G.nodes.length nc) ∧ NdAt (V.setCell ⟨bo, 0, none⟩ u) b (o + k * 3) nd)) := Lib.hid (fun V u h => ⟨by rw [World.cell?_setCell_other _ _ _ _ (by intro e; simp only [Addr.mk.injEq] at e; have := HBG.out; omega)]; exact h.1, h.2.kept (Below.heap_setCell _ _ _ _ (by have := HBL.out.2; have := HBG.out; show b ≠ bo; omega))⟩)
              refine wp_region_held_drew (S := fun V => V.cell? ⟨w.heap.size, 0, none⟩ = some (.slice (some ⟨b, o, none⟩) G.nodes.length nc) ∧ NdAt V b (o + k * 3) nd) (by kernel_rfl) (HSS.out wr.drew (Below.drew (Below.refl _ _))) (fun hH => ?_)
              have B0 : Hid (Below wr.heap.size wr wr.drew) := Lib.hid (Below.drew (Below.refl _ _))
              generalize wr.drew = V0 at *
              have HLD := Lib.hid (HGW.out V0 B0.out).cells.1
              refine tk 0 (by assumption) rfl (by kernel_rfl) (fun _ _ _ h => h) (fun V hV => by go_simp; try with_reducible rfl) ?_
              try simp only [Act.put, List.setIfInBounds_toArray, List.set_cons_zero, List.set_cons_succ, List.getElem_toArray, List.getElem_cons_succ, List.getElem_cons_zero]
              refine tk 2 (by assumption) rfl (by kernel_rfl) (fun _ _ _ h => h) (fun V hV => by go_simp; try with_reducible rfl) ?_
              try simp only [Act.put, List.setIfInBounds_toArray, List.set_cons_zero, List.set_cons_succ, List.getElem_toArray, List.getElem_cons_succ, List.getElem_cons_zero]
              refine tk 3 (by assumption) rfl (by kernel_rfl) (fun _ _ _ h => h) (fun V hV => by obtain ⟨x0, x1⟩ := hV; obtain ⟨c0, c1, c2⟩ := x1; go_simp; try with_reducible rfl) ?_
              try simp only [Act.put, List.setIfInBounds_toArray, List.set_cons_zero, List.set_cons_succ, List.getElem_toArray, List.getElem_cons_succ, List.getElem_cons_zero]
              refine tk 4 (by assumption) rfl (by kernel_rfl) (fun _ _ _ h => h) (fun V hV => by go_simp; try with_reducible rfl) ?_
              try simp only [Act.put, List.setIfInBounds_toArray, List.set_cons_zero, List.set_cons_succ, List.getElem_toArray, List.getElem_cons_succ, List.getElem_cons_zero]
              refine tk 5 (by assumption) rfl (by kernel_rfl) (fun _ _ _ h => h) (fun V hV => by go_simp; try with_reducible rfl) ?_
              try simp only [Act.put, List.setIfInBounds_toArray, List.set_cons_zero, List.set_cons_succ, List.getElem_toArray, List.getElem_cons_succ, List.getElem_cons_zero]
              refine tk 6 (by assumption) rfl (by kernel_rfl) (fun _ _ _ h => h) (fun V hV => by obtain ⟨x0, x1⟩ := hV; obtain ⟨c0, c1, c2⟩ := x1; go_simp; try with_reducible rfl) ?_
              try simp only [Act.put, List.setIfInBounds_toArray, List.set_cons_zero, List.set_cons_succ, List.getElem_toArray, List.getElem_cons_succ, List.getElem_cons_zero]
              refine wpAnyH_ready (rs := [1, 7]) (by kernel_rfl) (by simp) ?_
              refine AllReadyH.cons (o := _) rfl (fun K hK => ?_) (AllReadyH.cons (o := _) rfl (fun K hK => ?_) (AllReadyH.nil))
              · have hx := HLD.out
                go_simp
                refine hK.out _ _ hH (fun hH => ?_)
                clear hK K
                try simp only [Act.put, List.setIfInBounds_toArray, List.set_cons_zero, List.set_cons_succ, List.getElem_toArray, List.getElem_cons_succ, List.getElem_cons_zero]
                refine wpAnyH_ready (rs := [7]) (by kernel_rfl) (by simp) ?_
                refine AllReadyH.cons (o := _) rfl (fun K hK => ?_) AllReadyH.nil
                go_simp
                obtain ⟨V9, hV9⟩ : ∃ V9, V9 = V0.alloc (.cells #[.int .i64 nd.id, .bool nd.up, .bool nd.mark] 52) := ⟨_, rfl⟩
                rw [← hV9]
                have B9 : Hid (Below wr.heap.size wr V9) := Lib.hid (by rw [hV9]; exact gNx B0.out (gAl _ _))
                have HV9 : Hid (V9.heap[V0.heap.size]? = some (.cells (ndC nd).toArray 52 (0, 0))) := Lib.hid (by rw [hV9]; exact heap_alloc_new V0 _)
                clear hV9
                have HS9 := Lib.hid (HSS.out V9 B9.out)
                have HLD := Lib.hid (HGW.out V9 B9.out).cells.1
                refine hK.out _ _ HS9.out (fun hH => ?_)
                clear hK K
                try simp only [Act.put, List.setIfInBounds_toArray, List.set_cons_zero, List.set_cons_succ, List.getElem_toArray, List.getElem_cons_succ, List.getElem_cons_zero]
                refine wpAnyH_ready (rs := [8]) (by kernel_rfl) (by simp) ?_
                refine AllReadyH.cons (o := _) rfl (fun K hK => ?_) AllReadyH.nil
                obtain ⟨a6, c6, V6, hrun, hg6, hga6, hb6⟩ := (HGW.out V9 B9.out).addN nd HV9.out HFIT.out.1
                refine step_append_r rfl _ _ 22 22 rfl vn (.slice (some ⟨V0.heap.size, 0, none⟩) 1 1) (by simp [Act.eval, Act.put]) (by simp [Act.eval, Act.put]) (hrun _) ?_
                clear hrun
                have HG6 := Lib.hid hga6
                have HB6 := Lib.hid hb6
                have HX6 := Lib.hid hg6
                clear hga6 hb6 hg6
                have HS6 := Lib.hid (HSW.out V9 V6 B9.out HB6.out)
                refine hK.out _ _ HS6.out (fun hH => ?_)
                clear hK K
                try simp only [Act.put, List.setIfInBounds_toArray, List.set_cons_zero, List.set_cons_succ, List.getElem_toArray, List.getElem_cons_succ, List.getElem_cons_zero]
                refine tk 9 (by assumption) rfl (by kernel_rfl) (fun _ _ _ h => h) (fun V hV => by go_simp; try with_reducible rfl) ?_
                try simp only [Act.put, List.setIfInBounds_toArray, List.set_cons_zero, List.set_cons_succ, List.getElem_toArray, List.getElem_cons_succ, List.getElem_cons_zero]
                refine wpAnyH_ready (rs := [10]) (by kernel_rfl) (by simp) ?_
                refine AllReadyH.cons (o := _) rfl (fun K hK => ?_) AllReadyH.nil
                have d0 : V6.cell? ⟨bo, 0, none⟩ = some vn := by rw [cell_of_row V6 _ 0 _ _ (0, 0) HX6.out]; rfl
                have d1 : V6.frozen? ⟨bo, 0, none⟩ = false := frozen_of_row V6 _ _ _ _ HX6.out
                go_simp
                refine hK.out _ _ (HSX.out _ _ HS6.out) (fun hH => ?_)
                clear hK K
                try simp only [Act.put, List.setIfInBounds_toArray, List.set_cons_zero, List.set_cons_succ, List.getElem_toArray, List.getElem_cons_succ, List.getElem_cons_zero]
                refine wpAnyH_done (by kernel_rfl) ?_ _
                go_wp2_with fail
                refine ⟨⟨k + 1, _, by simp, by rw [HNP1.out], by omega, by rw [HX.out]; exact HG6.out, ((HBW.out _ B9.out).trans (HB6.out.mono HBG.out.2.1)).setCell (Nat.le_trans HBG.out.2.1 HBG.out.2.2) _⟩, ?_⟩
                simp [RowKit.intOf]; omega
              · go_simp
                obtain ⟨V9, hV9⟩ : ∃ V9, V9 = V0.alloc (.cells #[.int .i64 nd.id, .bool nd.up, .bool nd.mark] 52) := ⟨_, rfl⟩
                rw [← hV9]
                have B9 : Hid (Below wr.heap.size wr V9) := Lib.hid (by rw [hV9]; exact gNx B0.out (gAl _ _))
                have HV9 : Hid (V9.heap[V0.heap.size]? = some (.cells (ndC nd).toArray 52 (0, 0))) := Lib.hid (by rw [hV9]; exact heap_alloc_new V0 _)
                clear hV9
                have HS9 := Lib.hid (HSS.out V9 B9.out)
                have HLD := Lib.hid (HGW.out V9 B9.out).cells.1
                refine hK.out _ _ HS9.out (fun hH => ?_)
                clear hK K
                try simp only [Act.put, List.setIfInBounds_toArray, List.set_cons_zero, List.set_cons_succ, List.getElem_toArray, List.getElem_cons_succ, List.getElem_cons_zero]
                refine wpAnyH_ready (rs := [1]) (by kernel_rfl) (by simp) ?_
                refine AllReadyH.cons (o := _) rfl (fun K hK => ?_) AllReadyH.nil
                have hx := HLD.out
                go_simp
                refine hK.out _ _ hH (fun hH => ?_)
                clear hK K
                try simp only [Act.put, List.setIfInBounds_toArray, List.set_cons_zero, List.set_cons_succ, List.getElem_toArray, List.getElem_cons_succ, List.getElem_cons_zero]
                refine wpAnyH_ready (rs := [8]) (by kernel_rfl) (by simp) ?_
                refine AllReadyH.cons (o := _) rfl (fun K hK => ?_) AllReadyH.nil
                obtain ⟨a6, c6, V6, hrun, hg6, hga6, hb6⟩ := (HGW.out V9 B9.out).addN nd HV9.out HFIT.out.1
                refine step_append_r rfl _ _ 22 22 rfl vn (.slice (some ⟨V0.heap.size, 0, none⟩) 1 1) (by simp [Act.eval, Act.put]) (by simp [Act.eval, Act.put]) (hrun _) ?_
                clear hrun
                have HG6 := Lib.hid hga6
                have HB6 := Lib.hid hb6
                have HX6 := Lib.hid hg6
                clear hga6 hb6 hg6
                have HS6 := Lib.hid (HSW.out V9 V6 B9.out HB6.out)
                refine hK.out _ _ HS6.out (fun hH => ?_)
                clear hK K
                try simp only [Act.put, List.setIfInBounds_toArray, List.set_cons_zero, List.set_cons_succ, List.getElem_toArray, List.getElem_cons_succ, List.getElem_cons_zero]
                refine tk 9 (by assumption) rfl (by kernel_rfl) (fun _ _ _ h => h) (fun V hV => by go_simp; try with_reducible rfl) ?_
                try simp only [Act.put, List.setIfInBounds_toArray, List.set_cons_zero, List.set_cons_succ, List.getElem_toArray, List.getElem_cons_succ, List.getElem_cons_zero]
                refine wpAnyH_ready (rs := [10]) (by kernel_rfl) (by simp) ?_
                refine AllReadyH.cons (o := _) rfl (fun K hK => ?_) AllReadyH.nil
                have d0 : V6.cell? ⟨bo, 0, none⟩ = some vn := by rw [cell_of_row V6 _ 0 _ _ (0, 0) HX6.out]; rfl
                have d1 : V6.frozen? ⟨bo, 0, none⟩ = false := frozen_of_row V6 _ _ _ _ HX6.out
                go_simp
                refine hK.out _ _ (HSX.out _ _ HS6.out) (fun hH => ?_)
                clear hK K
                try simp only [Act.put, List.setIfInBounds_toArray, List.set_cons_zero, List.set_cons_succ, List.getElem_toArray, List.getElem_cons_succ, List.getElem_cons_zero]
                refine wpAnyH_done (by kernel_rfl) ?_ _
                go_wp2_with fail
                refine ⟨⟨k + 1, _, by simp, by rw [HNP1.out], by omega, by rw [HX.out]; exact HG6.out, ((HBW.out _ B9.out).trans (HB6.out.mono HBG.out.2.1)).setCell (Nat.le_trans HBG.out.2.1 HBG.out.2.2) _⟩, ?_⟩
                simp [RowKit.intOf]; omega
            · rw [show decide (Nq.ahead G.nodes x < k) = false from decide_eq_false (by omega)]
              have HX := Lib.hid (HPG.out (by omega))
              have HNP1 : Hid (decide (Nq.ahead G.nodes x < k + 1) = false) := Lib.hid (decide_eq_false (by omega))
              have hgt : ¬ x < nd.id := fun h => by have := HGT.out.1 h; omega
              clear HGT HPA HPG hA
              go_upto_region 15 with (fail)
              have HCW := HCK
              have HGW := HGAW
              have HBW : Hid (∀ V, Below wr.heap.size wr V → Below W2.heap.size W2 V) := Lib.hid (fun V hV => gNx HBEL.out hV)
              clear g0 g1 e0 e2 c0 c1 c2 HCK HGAW
              have HSS : Hid (∀ V, Below wr.heap.size wr V → V.cell? ⟨w.heap.size, 0, none⟩ = some (.slice (some ⟨b, o, none⟩) G.nodes.length nc) ∧ NdAt V b (o + k * 3) nd) := Lib.hid (fun V hV => ⟨(HKG.out V (HBW.out V hV)).1, HCW.out.kept (hV.block b HBL.out.1)⟩)
              have HSW : Hid (∀ V V', Below wr.heap.size wr V → Below b0 V V' → V'.cell? ⟨w.heap.size, 0, none⟩ = some (.slice (some ⟨b, o, none⟩) G.nodes.length nc) ∧ NdAt V' b (o + k * 3) nd) := Lib.hid (fun V V' hV hw => by
                obtain ⟨e1, e2⟩ := HSS.out V hV
                exact ⟨(hw.cell (p := ⟨w.heap.size, 0, none⟩) HBG.out.1).trans e1, e2.kept (hw.block b HBL.out.2)⟩)
              have HSX : Hid (∀ (V : World) (u : Value), (V.cell? ⟨w.heap.size, 0, none⟩ = some (.slice (some ⟨b, o, none⟩) G.nodes.length nc) ∧ NdAt V b (o + k * 3) nd) → ((V.setCell ⟨bo, 0, none⟩ u).cell? ⟨w.heap.size, 0, none⟩ = some (.slice (some ⟨b, o, none⟩) G.nodes.length nc) ∧ NdAt (V.setCell ⟨bo, 0, none⟩ u) b (o + k * 3) nd)) := Lib.hid (fun V u h => ⟨by rw [World.cell?_setCell_other _ _ _ _ (by intro e; simp only [Addr.mk.injEq] at e; have := HBG.out; omega)]; exact h.1, h.2.kept (Below.heap_setCell _ _ _ _ (by have := HBL.out.2; have := HBG.out; show b ≠ bo; omega))⟩)
              refine wp_region_held_drew (S := fun V => V.cell? ⟨w.heap.size, 0, none⟩ = some (.slice (some ⟨b, o, none⟩) G.nodes.length nc) ∧ NdAt V b (o + k * 3) nd) (by kernel_rfl) (HSS.out wr.drew (Below.drew (Below.refl _ _))) (fun hH => ?_)
              have B0 : Hid (Below wr.heap.size wr wr.drew) := Lib.hid (Below.drew (Below.refl _ _))
              generalize wr.drew = V0 at *
              have HLD := Lib.hid (HGW.out V0 B0.out).cells.1
              refine tk 0 (by assumption) rfl (by kernel_rfl) (fun _ _ _ h => h) (fun V hV => by go_simp; try with_reducible rfl) ?_
              try simp only [Act.put, List.setIfInBounds_toArray, List.set_cons_zero, List.set_cons_succ, List.getElem_toArray, List.getElem_cons_succ, List.getElem_cons_zero]
              refine tk 2 (by assumption) rfl (by kernel_rfl) (fun _ _ _ h => h) (fun V hV => by go_simp; try with_reducible rfl) ?_
              try simp only [Act.put, List.setIfInBounds_toArray, List.set_cons_zero, List.set_cons_succ, List.getElem_toArray, List.getElem_cons_succ, List.getElem_cons_zero]
              refine tk 3 (by assumption) rfl (by kernel_rfl) (fun _ _ _ h => h) (fun V hV => by obtain ⟨x0, x1⟩ := hV; obtain ⟨c0, c1, c2⟩ := x1; go_simp; try with_reducible rfl) ?_
              try simp only [Act.put, List.setIfInBounds_toArray, List.set_cons_zero, List.set_cons_succ, List.getElem_toArray, List.getElem_cons_succ, List.getElem_cons_zero]
              refine tk 4 (by assumption) rfl (by kernel_rfl) (fun _ _ _ h => h) (fun V hV => by go_simp; try with_reducible rfl) ?_
              try simp only [Act.put, List.setIfInBounds_toArray, List.set_cons_zero, List.set_cons_succ, List.getElem_toArray, List.getElem_cons_succ, List.getElem_cons_zero]
              refine tk 5 (by assumption) rfl (by kernel_rfl) (fun _ _ _ h => h) (fun V hV => by go_simp; try with_reducible rfl) ?_
              try simp only [Act.put, List.setIfInBounds_toArray, List.set_cons_zero, List.set_cons_succ, List.getElem_toArray, List.getElem_cons_succ, List.getElem_cons_zero]
              refine tk 6 (by assumption) rfl (by kernel_rfl) (fun _ _ _ h => h) (fun V hV => by obtain ⟨x0, x1⟩ := hV; obtain ⟨c0, c1, c2⟩ := x1; go_simp; try with_reducible rfl) ?_
              try simp only [Act.put, List.setIfInBounds_toArray, List.set_cons_zero, List.set_cons_succ, List.getElem_toArray, List.getElem_cons_succ, List.getElem_cons_zero]
              refine wpAnyH_ready (rs := [1, 7]) (by kernel_rfl) (by simp) ?_
              refine AllReadyH.cons (o := _) rfl (fun K hK => ?_) (AllReadyH.cons (o := _) rfl (fun K hK => ?_) (AllReadyH.nil))
              · have hx := HLD.out
                go_simp
                refine hK.out _ _ hH (fun hH => ?_)
                clear hK K
                try simp only [Act.put, List.setIfInBounds_toArray, List.set_cons_zero, List.set_cons_succ, List.getElem_toArray, List.getElem_cons_succ, List.getElem_cons_zero]
                refine wpAnyH_ready (rs := [7]) (by kernel_rfl) (by simp) ?_
                refine AllReadyH.cons (o := _) rfl (fun K hK => ?_) AllReadyH.nil
                go_simp
                obtain ⟨V9, hV9⟩ : ∃ V9, V9 = V0.alloc (.cells #[.int .i64 nd.id, .bool nd.up, .bool nd.mark] 52) := ⟨_, rfl⟩
                rw [← hV9]
                have B9 : Hid (Below wr.heap.size wr V9) := Lib.hid (by rw [hV9]; exact gNx B0.out (gAl _ _))
                have HV9 : Hid (V9.heap[V0.heap.size]? = some (.cells (ndC nd).toArray 52 (0, 0))) := Lib.hid (by rw [hV9]; exact heap_alloc_new V0 _)
                clear hV9
                have HS9 := Lib.hid (HSS.out V9 B9.out)
                have HLD := Lib.hid (HGW.out V9 B9.out).cells.1
                refine hK.out _ _ HS9.out (fun hH => ?_)
                clear hK K
                try simp only [Act.put, List.setIfInBounds_toArray, List.set_cons_zero, List.set_cons_succ, List.getElem_toArray, List.getElem_cons_succ, List.getElem_cons_zero]
                refine wpAnyH_ready (rs := [8]) (by kernel_rfl) (by simp) ?_
                refine AllReadyH.cons (o := _) rfl (fun K hK => ?_) AllReadyH.nil
                obtain ⟨a6, c6, V6, hrun, hg6, hga6, hb6⟩ := (HGW.out V9 B9.out).addN nd HV9.out HFIT.out.1
                refine step_append_r rfl _ _ 22 22 rfl vn (.slice (some ⟨V0.heap.size, 0, none⟩) 1 1) (by simp [Act.eval, Act.put]) (by simp [Act.eval, Act.put]) (hrun _) ?_
                clear hrun
                have HG6 := Lib.hid hga6
                have HB6 := Lib.hid hb6
                have HX6 := Lib.hid hg6
                clear hga6 hb6 hg6
                have HS6 := Lib.hid (HSW.out V9 V6 B9.out HB6.out)
                refine hK.out _ _ HS6.out (fun hH => ?_)
                clear hK K
                try simp only [Act.put, List.setIfInBounds_toArray, List.set_cons_zero, List.set_cons_succ, List.getElem_toArray, List.getElem_cons_succ, List.getElem_cons_zero]
                refine tk 9 (by assumption) rfl (by kernel_rfl) (fun _ _ _ h => h) (fun V hV => by go_simp; try with_reducible rfl) ?_
                try simp only [Act.put, List.setIfInBounds_toArray, List.set_cons_zero, List.set_cons_succ, List.getElem_toArray, List.getElem_cons_succ, List.getElem_cons_zero]
                refine wpAnyH_ready (rs := [10]) (by kernel_rfl) (by simp) ?_
                refine AllReadyH.cons (o := _) rfl (fun K hK => ?_) AllReadyH.nil
                have d0 : V6.cell? ⟨bo, 0, none⟩ = some vn := by rw [cell_of_row V6 _ 0 _ _ (0, 0) HX6.out]; rfl
                have d1 : V6.frozen? ⟨bo, 0, none⟩ = false := frozen_of_row V6 _ _ _ _ HX6.out
                go_simp
                refine hK.out _ _ (HSX.out _ _ HS6.out) (fun hH => ?_)
                clear hK K
                try simp only [Act.put, List.setIfInBounds_toArray, List.set_cons_zero, List.set_cons_succ, List.getElem_toArray, List.getElem_cons_succ, List.getElem_cons_zero]
                refine wpAnyH_done (by kernel_rfl) ?_ _
                go_wp2_with fail
                refine ⟨⟨k + 1, _, by simp, by rw [HNP1.out], by omega, by rw [HX.out]; exact HG6.out, ((HBW.out _ B9.out).trans (HB6.out.mono HBG.out.2.1)).setCell (Nat.le_trans HBG.out.2.1 HBG.out.2.2) _⟩, ?_⟩
                simp [RowKit.intOf]; omega
              · go_simp
                obtain ⟨V9, hV9⟩ : ∃ V9, V9 = V0.alloc (.cells #[.int .i64 nd.id, .bool nd.up, .bool nd.mark] 52) := ⟨_, rfl⟩
                rw [← hV9]
                have B9 : Hid (Below wr.heap.size wr V9) := Lib.hid (by rw [hV9]; exact gNx B0.out (gAl _ _))
                have HV9 : Hid (V9.heap[V0.heap.size]? = some (.cells (ndC nd).toArray 52 (0, 0))) := Lib.hid (by rw [hV9]; exact heap_alloc_new V0 _)
                clear hV9
                have HS9 := Lib.hid (HSS.out V9 B9.out)
                have HLD := Lib.hid (HGW.out V9 B9.out).cells.1
                refine hK.out _ _ HS9.out (fun hH => ?_)
                clear hK K
                try simp only [Act.put, List.setIfInBounds_toArray, List.set_cons_zero, List.set_cons_succ, List.getElem_toArray, List.getElem_cons_succ, List.getElem_cons_zero]
                refine wpAnyH_ready (rs := [1]) (by kernel_rfl) (by simp) ?_
                refine AllReadyH.cons (o := _) rfl (fun K hK => ?_) AllReadyH.nil
                have hx := HLD.out
                go_simp
                refine hK.out _ _ hH (fun hH => ?_)
                clear hK K
                try simp only [Act.put, List.setIfInBounds_toArray, List.set_cons_zero, List.set_cons_succ, List.getElem_toArray, List.getElem_cons_succ, List.getElem_cons_zero]
                refine wpAnyH_ready (rs := [8]) (by kernel_rfl) (by simp) ?_
                refine AllReadyH.cons (o := _) rfl (fun K hK => ?_) AllReadyH.nil
                obtain ⟨a6, c6, V6, hrun, hg6, hga6, hb6⟩ := (HGW.out V9 B9.out).addN nd HV9.out HFIT.out.1
                refine step_append_r rfl _ _ 22 22 rfl vn (.slice (some ⟨V0.heap.size, 0, none⟩) 1 1) (by simp [Act.eval, Act.put]) (by simp [Act.eval, Act.put]) (hrun _) ?_
                clear hrun
                have HG6 := Lib.hid hga6
                have HB6 := Lib.hid hb6
                have HX6 := Lib.hid hg6
                clear hga6 hb6 hg6
                have HS6 := Lib.hid (HSW.out V9 V6 B9.out HB6.out)
                refine hK.out _ _ HS6.out (fun hH => ?_)
                clear hK K
                try simp only [Act.put, List.setIfInBounds_toArray, List.set_cons_zero, List.set_cons_succ, List.getElem_toArray, List.getElem_cons_succ, List.getElem_cons_zero]
                refine tk 9 (by assumption) rfl (by kernel_rfl) (fun _ _ _ h => h) (fun V hV => by go_simp; try with_reducible rfl) ?_
                try simp only [Act.put, List.setIfInBounds_toArray, List.set_cons_zero, List.set_cons_succ, List.getElem_toArray, List.getElem_cons_succ, List.getElem_cons_zero]
                refine wpAnyH_ready (rs := [10]) (by kernel_rfl) (by simp) ?_
                refine AllReadyH.cons (o := _) rfl (fun K hK => ?_) AllReadyH.nil
                have d0 : V6.cell? ⟨bo, 0, none⟩ = some vn := by rw [cell_of_row V6 _ 0 _ _ (0, 0) HX6.out]; rfl
                have d1 : V6.frozen? ⟨bo, 0, none⟩ = false := frozen_of_row V6 _ _ _ _ HX6.out
                go_simp
                refine hK.out _ _ (HSX.out _ _ HS6.out) (fun hH => ?_)
                clear hK K
                try simp only [Act.put, List.setIfInBounds_toArray, List.set_cons_zero, List.set_cons_succ, List.getElem_toArray, List.getElem_cons_succ, List.getElem_cons_zero]
                refine wpAnyH_done (by kernel_rfl) ?_ _
                go_wp2_with fail
                refine ⟨⟨k + 1, _, by simp, by rw [HNP1.out], by omega, by rw [HX.out]; exact HG6.out, ((HBW.out _ B9.out).trans (HB6.out.mono HBG.out.2.1)).setCell (Nat.le_trans HBG.out.2.1 HBG.out.2.2) _⟩, ?_⟩
                simp [RowKit.intOf]; omega
          · have hnk : ¬ (k : Int) < (G.nodes.length : Int) := by omega
            have hkl : k = G.nodes.length := by omega
            subst hkl
            obtain ⟨g0, g1⟩ := HKG.out wr hbel
            by_cases hA : Nq.ahead G.nodes x < G.nodes.length
            · rw [show decide (Nq.ahead G.nodes x < G.nodes.length) = true from decide_eq_true hA]
              rw [part_end _ _ _ hA] at hga
              have hga2 : GrAt wr b0 bo vn (.slice al0 G.links.length cl0) { G with nodes := putNode G.nodes ⟨x, true, false⟩ } := hga
              obtain ⟨d0, d1, -, -⟩ := hga2.cells
              obtain ⟨an, cn, rfl⟩ := hga2.nodes.slice
              have HGA2 := Lib.hid hga2
              have HBE2 := Lib.hid hbel
              have hres := HRS.out wr hbel
              obtain ⟨x0, x1, x2, x3⟩ := cells_two hres
              have HRES := Lib.hid hres
              clear hres
              clear hlt hga hga2 hbel hA
              go_wp2_with fail
              have hq1 := heap_setCell_same wr br 0 _ _ (.slice an (putNode G.nodes ⟨x, true, false⟩).length cn) HRES.out
              have hq2 := heap_setCell_same _ br 1 _ _ (.slice al0 G.links.length cl0) hq1
              refine bodyPost_ret (results_cell2 Try.results37 _ _ br 0 [.slice an (putNode G.nodes ⟨x, true, false⟩).length cn, .slice al0 G.links.length cl0] _ rfl ?_ Try.underlying25 (by rfl) (by kernel_rfl)) rfl ?_
              · intro j v hj
                match j with
                | 0 => simp at hj; subst hj; rw [cell_of_row _ _ _ _ _ (0, 0) hq2]; rfl
                | 1 => simp at hj; subst hj; rw [cell_of_row _ _ _ _ _ (0, 0) hq2]; rfl
                | j + 2 => simp at hj
              · rw [HP.out.1, HP.out.2]
                exact ⟨_, _, rfl, ((HGA2.out.v.mono (Nat.le_of_lt HBG.out.1)).set HRES.out).set hq1, ((HWB.out wr HBE2.out).setCell HBR.out.2.1 _).setCell HBR.out.2.1 _⟩
            · rw [show decide (Nq.ahead G.nodes x < G.nodes.length) = false from decide_eq_false hA]
              have hAe : Nq.ahead G.nodes x = G.nodes.length := by have := HAG.out.1; omega
              have HPL := Lib.hid (part_last G.nodes (Nq.ahead G.nodes x) ⟨x, true, false⟩ hAe)
              have HFIT : Hid (((putK G.nodes (Nq.ahead G.nodes x) ⟨x, true, false⟩ G.nodes.length).length + 1) * 16 ≤ 140737488355328) := Lib.hid (by have := part_len G.nodes (Nq.ahead G.nodes x) ⟨x, true, false⟩ G.nodes.length (Nat.le_refl _); have := HNL.out; omega)
              have HGAW : Hid (∀ V, Below wr.heap.size wr V → GrAt V b0 bo vn (.slice al0 G.links.length cl0) ⟨putK G.nodes (Nq.ahead G.nodes x) ⟨x, true, false⟩ G.nodes.length, G.links⟩) := Lib.hid (fun V hV => hga.below hV)
              obtain ⟨e0, -, e2, -⟩ := hga.cells
              have HBE2 := Lib.hid hbel
              clear hlt hga hbel hA hAe
              obtain ⟨a3, c3, V3, hrun, hg, hga, hb⟩ := (HGAW.out (wr.alloc (.cells #[.int .i64 x, .bool true, .bool false] 52)) (gAl _ _)).addN ⟨x, true, false⟩ (vb := wr.heap.size) (heap_alloc_new wr _) HFIT.out
              have HR := Lib.hid hrun
              have HG3 := Lib.hid hga
              have HB3 := Lib.hid hb
              have d0 : V3.cell? ⟨bo, 0, none⟩ = some vn := by rw [cell_of_row V3 _ 0 _ _ (0, 0) hg]; rfl
              have d1 : V3.frozen? ⟨bo, 0, none⟩ = false := frozen_of_row V3 _ _ _ _ hg
              clear hrun hg hga hb
              go_upto_region 18 with (at_builtin; refine Lib.wpList_append_run _ rfl _ _ _ _ rfl _ _ rfl rfl _ _ (HR.out _) ?_)
              obtain ⟨W7, hW7⟩ : ∃ W7, W7 = V3.setCell ⟨bo, 0, none⟩ (.slice a3 ((putK G.nodes (Nq.ahead G.nodes x) ⟨x, true, false⟩ G.nodes.length).length + 1) c3) := ⟨_, rfl⟩
              rw [← hW7]
              have b7 : Below W2.heap.size W2 W7 := by rw [hW7]; exact ((gNx HBE2.out (gAl wr _)).trans (HB3.out.mono HBG.out.2.1)).setCell (Nat.le_trans HBG.out.2.1 HBG.out.2.2) _
              have hg7 := HG3.out
              rw [← hW7] at hg7
              simp only at hg7
              obtain ⟨N, hN⟩ : ∃ N, N = (putK G.nodes (Nq.ahead G.nodes x) ⟨x, true, false⟩ G.nodes.length).length + 1 := ⟨_, rfl⟩
              have HNN : Hid (N = (putNode G.nodes ⟨x, true, false⟩).length) := Lib.hid (by unfold putNode; simp only; rw [← HPL.out, List.length_append, hN]; rfl)
              rw [HPL.out, ← hN] at hg7
              rw [← hN]
              have hga2 : GrAt W7 b0 bo (.slice a3 N c3) (.slice al0 G.links.length cl0) { G with nodes := putNode G.nodes ⟨x, true, false⟩ } := hg7
              obtain ⟨f0, f1, -, -⟩ := hga2.cells
              have HGA2 := Lib.hid hga2
              have HB7 := Lib.hid b7
              have hres := HRS.out W7 b7
              obtain ⟨x0, x1, x2, x3⟩ := cells_two hres
              have HRES := Lib.hid hres
              clear hres
              clear hW7 b7 hg7 hga2 HG3 HB3 d0 d1 g0 g1 e0 e2 HR HGAW hN
              go_wp2_with fail
              have hq1 := heap_setCell_same W7 br 0 _ _ (.slice a3 N c3) HRES.out
              have hq2 := heap_setCell_same _ br 1 _ _ (.slice al0 G.links.length cl0) hq1
              refine bodyPost_ret (results_cell2 Try.results37 _ _ br 0 [.slice a3 N c3, .slice al0 G.links.length cl0] _ rfl ?_ Try.underlying25 (by rfl) (by kernel_rfl)) rfl ?_
              · intro j v hj
                match j with
                | 0 => simp at hj; subst hj; rw [cell_of_row _ _ _ _ _ (0, 0) hq2]; rfl
                | 1 => simp at hj; subst hj; rw [cell_of_row _ _ _ _ _ (0, 0) hq2]; rfl
                | j + 2 => simp at hj
              · rw [HP.out.1, HP.out.2]
                exact ⟨_, _, rfl, ((HGA2.out.v.mono (Nat.le_of_lt HBG.out.1)).set HRES.out).set hq1, ((HWB.out W7 HB7.out).setCell HBR.out.2.1 _).setCell HBR.out.2.1 _⟩
end Go.Proofs.Ytgjpgpjdealbeaa
