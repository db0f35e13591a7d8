/- Graphs: the document's Apply: refused, a router more, a link more. Graphs: the document's Apply. Changes that are handed in. Graphs: the law of applies. -/
import Derived.Test.YtgjpgpjdealbeaaNhI
import Derived.Test.YtgjpgpjdealbeaaNhJ
import Derived.Test.YtgjpgpjdealbeaaNhK
import Derived.Test.YtgjpgpjdealbeaaNqG
import Derived.Test.YtgjpgpjdealbeaaNhM
import Derived.Test.YtgjpgpjdealbeaaNhN
import Derived.Test.YtgjpgpjdealbeaaNgY
import Derived.Test.YtgjpgpjdealbeaaNgT
import Derived.SizedLaws
import Derived.OpenShut
import Derived.Test.YtgjpgpjdealbeaaNhE
section
namespace Go.Proofs.Ytgjpgpjdealbeaa
open Go.RowKit Go.Lib Go.Fq Go.Iq Go.Nq Go.Ow
set_option linter.unusedVariables false
set_option linter.unusedSimpArgs false
set_option maxRecDepth 100000

theorem rLinked_any (G : Gr) (na : Option Addr) (nc : Nat) (la : Option Addr) (lc : Nat) (a b : Int) (q : Nat) (w : World) (hin : GrIn w G na la) (hG : checkG G = 0) (hq : q < 2 ^ 64) :
    Calls Try.prog 38 #[.agg #[.slice na G.nodes.length nc, .slice la G.links.length lc], .int .i64 a, .int .i64 b, .float .f64 q] w fun e w' => LiveEnds w (linkG G a b q) (linkE G a b q) e w' := by
  by_cases hE : linkE G a b q = 0
  · rcases Int.lt_trichotomy a b with h | h | h
    · exact rLinked_lt G na nc la lc a b q w hin hG hq hE h
    · subst h
      exfalso
      unfold linkE at hE
      split at hE
      · exact absurd hE (by decide)
      · rw [if_pos rfl] at hE; exact absurd hE (by decide)
    · exact rLinked_gt G na nc la lc a b q w hin hG hq hE h
  · exact rLinked_no G na nc la lc a b q w hin hG hq hE
set_option maxHeartbeats 8000000 in
theorem rApply_no (G : Gr) (na : Option Addr) (nc : Nat) (la : Option Addr) (lc : Nat) (kd a b : Int) (q : Nat) (w : World) (hin : GrIn w G na la) (hq : q < 2 ^ 64) (hno : checkG G ≠ 0 ∨ bareB ⟨kd, a, b, q⟩ = false) :
    Calls Try.prog 15 #[.agg #[.slice na G.nodes.length nc, .slice la G.links.length lc], .agg #[.int .i64 kd, .int .i64 a, .int .i64 b, .float .f64 q]] w fun e w' => LiveEnds w (applyG G ⟨kd, a, b, q⟩) (applyE G ⟨kd, a, b, q⟩) e w' := by
  have hst := g_storeL
  obtain ⟨W1, hW1⟩ : ∃ W1, W1 = w.alloc (.cells #[.slice na G.nodes.length nc, .slice la G.links.length lc] 25) := ⟨_, rfl⟩
  obtain ⟨W2, hW2⟩ : ∃ W2, W2 = W1.alloc (.cells #[.int .i64 kd, .int .i64 a, .int .i64 b, .float .f64 q] 33) := ⟨_, rfl⟩
  obtain ⟨W3, hW3⟩ : ∃ W3, W3 = W2.alloc (.cells #[.slice none 0 0, .slice none 0 0] 25) := ⟨_, rfl⟩
  have b1 : Below w.heap.size w W1 := by rw [hW1]; exact gAl _ _
  have b2 : Below W1.heap.size W1 W2 := by rw [hW2]; exact gAl _ _
  have b3 : Below W2.heap.size W2 W3 := by rw [hW3]; exact gAl _ _
  have s1 : W1.heap.size = w.heap.size + 1 := by rw [hW1]; simp
  have s2 : W2.heap.size = W1.heap.size + 1 := by rw [hW2]; simp
  have s3 : W3.heap.size = W2.heap.size + 1 := by rw [hW3]; simp
  have r1 : W1.heap[w.heap.size]? = some (.cells #[.slice na G.nodes.length nc, .slice la G.links.length lc] 25 (0, 0)) := by rw [hW1]; exact heap_alloc_new w _
  have r2 : W2.heap[W1.heap.size]? = some (.cells #[.int .i64 kd, .int .i64 a, .int .i64 b, .float .f64 q] 33 (0, 0)) := by rw [hW2]; exact heap_alloc_new W1 _
  have r3 : W3.heap[W2.heap.size]? = some (.cells #[.slice none 0 0, .slice none 0 0] 25 (0, 0)) := by rw [hW3]; exact heap_alloc_new W2 _
  have hb3 : Below w.heap.size w W3 := gNx (gNx b1 b2) b3
  have q1 : W3.heap[w.heap.size]? = some (.cells #[.slice na G.nodes.length nc, .slice la G.links.length lc] 25 (0, 0)) := (b3.block _ (by omega)).trans ((b2.block _ (by omega)).trans r1)
  have q2 : W3.heap[W1.heap.size]? = some (.cells #[.int .i64 kd, .int .i64 a, .int .i64 b, .float .f64 q] 33 (0, 0)) := (b3.block _ (by omega)).trans r2
  obtain ⟨br, hbr⟩ : ∃ br, br = W2.heap.size := ⟨_, rfl⟩
  obtain ⟨bc, hbc⟩ : ∃ bc, bc = W1.heap.size := ⟨_, rfl⟩
  have HBR : Hid (br < W3.heap.size ∧ w.heap.size ≤ br ∧ w.heap.size ≤ W3.heap.size) := Lib.hid (by omega)
  have HKG : Hid (∀ V, Below W3.heap.size W3 V → V.cell? ⟨w.heap.size, 0, none⟩ = some (.slice na G.nodes.length nc) ∧ V.cell? ⟨w.heap.size, 1, none⟩ = some (.slice la G.links.length lc)) := Lib.hid (fun V hV => by
    have := (hV.block w.heap.size (by omega)).trans q1
    exact ⟨by rw [cell_of_row V _ 0 _ _ (0, 0) this]; rfl, by rw [cell_of_row V _ 1 _ _ (0, 0) this]; rfl⟩)
  have HKC : Hid (∀ V, Below W3.heap.size W3 V → V.heap[bc]? = some (.cells #[.int .i64 kd, .int .i64 a, .int .i64 b, .float .f64 q] 33 (0, 0))) := Lib.hid (fun V hV => by rw [hbc]; exact (hV.block W1.heap.size (by omega)).trans q2)
  have HRS : Hid (∀ V, Below W3.heap.size W3 V → V.heap[br]? = some (.cells #[.slice none 0 0, .slice none 0 0] 25 (0, 0))) := Lib.hid (fun V hV => by rw [hbr]; exact (hV.block _ (by omega)).trans r3)
  have HWB : Hid (∀ V, Below W3.heap.size W3 V → Below w.heap.size w V) := Lib.hid (fun V hV => gNx hb3 hV)
  have HG2 : Hid (∀ V, Below W3.heap.size W3 V → GrIn V G na la) := Lib.hid (fun V hV => hin.below (gNx hb3 hV))
  have HQ := Lib.hid hin.wts
  have HQQ := Lib.hid hq
  have HSZ : Hid (G.nodes.length * 16 ≤ 140737488351232 ∧ G.links.length * 32 ≤ 140737488351232) := Lib.hid ⟨hin.n1, hin.l1⟩
  clear hin hq b1 b2 b3 r1 r2 r3 q1 q2 hb3 s3
  by_cases hz : checkG G = 0
  case neg =>
    have HA : Hid (applyE G ⟨kd, a, b, q⟩ = checkG G ∧ applyG G ⟨kd, a, b, q⟩ = gr0) := Lib.hid ⟨applyE_no hz _, applyG_no (by rw [applyE_no hz]; exact hz)⟩
    rw [HA.out.1, HA.out.2]
    obtain ⟨ce, hce⟩ : ∃ ce, ce = checkG G := ⟨_, rfl⟩
    rw [← hce] at hz ⊢
    have HCE := Lib.hid hce
    have hz2 : (ce != 0) = true := by simpa using hz
    clear hz hce HA
    go_enter Try.func15, Try.ntmps15
    go_upto_region 1 with (fail)
    rw [← hW1, ← hW2, ← hW3, ← s1, ← s2, ← hbr, ← hbc]
    obtain ⟨g0, g1⟩ := HKG.out W3 (Below.refl _ _)
    clear hW1 hW2 hW3 s1 s2 hbr hbc
    go_wp2_with fail
    refine (rCheck_any G na la nc lc W3 (HG2.out W3 (Below.refl _ _)).nodes (HG2.out W3 (Below.refl _ _)).links HQ.out (by have := HSZ.out; omega) (by have := HSZ.out; omega)).mono ?_
    rintro e V1 ⟨rfl, hb⟩
    have B1 := Lib.hid hb
    have hres := HRS.out V1 hb
    obtain ⟨x0, x1, x2, x3⟩ := cells_two hres
    have HRES := Lib.hid hres
    clear hb hres g0 g1
    rw [← HCE.out]
    clear HCE
    go_wp2_with fail
    have hq1 := heap_setCell_same V1 br 0 _ _ (.slice none 0 0) HRES.out
    have hq2 := heap_setCell_same _ br 1 _ _ (.slice none 0 0) hq1
    refine bodyPost_ret (results_cell2 Try.results15 _ _ br 0 [.slice none 0 0, .slice none 0 0] _ rfl ?_ Try.underlying25 (by rfl) (by kernel_rfl)) rfl ?_
    · intro j v hj
      match j with
      | 0 => simp at hj; subst hj; rw [cell_of_row _ _ _ _ _ (0, 0) hq2]; rfl
      | 1 => simp at hj; subst hj; rw [cell_of_row _ _ _ _ _ (0, 0) hq2]; rfl
      | j + 2 => simp at hj
    · exact ⟨_, _, rfl, ((grv_0 _ _).set HRES.out).set hq1, ((HWB.out V1 B1.out).setCell HBR.out.2.1 _).setCell HBR.out.2.1 _⟩
  case pos =>
    have hba := hno.resolve_left (fun h => h hz)
    have HP := Lib.hid (apply_bad hz hba)
    have HCK := Lib.hid hz
    have HBA := Lib.hid hba
    clear hz hno hba
    go_enter Try.func15, Try.ntmps15
    go_upto_region 1 with (fail)
    rw [← hW1, ← hW2, ← hW3, ← s1, ← s2, ← hbr, ← hbc]
    obtain ⟨g0, g1⟩ := HKG.out W3 (Below.refl _ _)
    clear hW1 hW2 hW3 s1 s2 hbr hbc
    go_wp2_with fail
    refine (rCheck_any G na la nc lc W3 (HG2.out W3 (Below.refl _ _)).nodes (HG2.out W3 (Below.refl _ _)).links HQ.out (by have := HSZ.out; omega) (by have := HSZ.out; omega)).mono ?_
    rintro e V1 ⟨rfl, hb⟩
    rw [HCK.out]
    have B1 := Lib.hid hb
    clear hb g0 g1
    obtain ⟨c0, c1, c2, c3⟩ := cells_four (HKC.out V1 B1.out)
    go_wp2_with fail
    refine (rBare_any kd a b q V1).mono ?_
    rintro e V2 ⟨rfl, hb⟩
    rw [HBA.out]
    have B2 := Lib.hid (gNx B1.out hb)
    clear hb c0 c1 c2 c3
    obtain ⟨c0, c1, c2, c3⟩ := cells_four (HKC.out V2 B2.out)
    obtain ⟨g0, g1⟩ := HKG.out V2 B2.out
    clear g0 g1
    have hres := HRS.out V2 B2.out
    obtain ⟨x0, x1, x2, x3⟩ := cells_two hres
    have HRES := Lib.hid hres
    clear hres
    go_wp2_with fail
    have hq1 := heap_setCell_same V2 br 0 _ _ (.slice none 0 0) HRES.out
    have hq2 := heap_setCell_same _ br 1 _ _ (.slice none 0 0) hq1
    refine bodyPost_ret (results_cell2 Try.results15 _ _ br 0 [.slice none 0 0, .slice none 0 0] _ rfl ?_ Try.underlying25 (by rfl) (by kernel_rfl)) rfl ?_
    · intro j v hj
      match j with
      | 0 => simp at hj; subst hj; rw [cell_of_row _ _ _ _ _ (0, 0) hq2]; rfl
      | 1 => simp at hj; subst hj; rw [cell_of_row _ _ _ _ _ (0, 0) hq2]; rfl
      | j + 2 => simp at hj
    · rw [HP.out.1, HP.out.2]
      exact ⟨_, _, rfl, (((grv_0 _ _)).set HRES.out).set hq1, ((HWB.out V2 B2.out).setCell HBR.out.2.1 _).setCell HBR.out.2.1 _⟩
set_option maxHeartbeats 8000000 in
theorem rApply_1 (G : Gr) (na : Option Addr) (nc : Nat) (la : Option Addr) (lc : Nat) (a b : Int) (q : Nat) (w : World) (hin : GrIn w G na la) (hq : q < 2 ^ 64) (hG : checkG G = 0) (hba : bareB ⟨1, a, b, q⟩ = true) :
    Calls Try.prog 15 #[.agg #[.slice na G.nodes.length nc, .slice la G.links.length lc], .agg #[.int .i64 1, .int .i64 a, .int .i64 b, .float .f64 q]] w fun e w' => LiveEnds w (applyG G ⟨1, a, b, q⟩) (applyE G ⟨1, a, b, q⟩) e w' := by
  have hst := g_storeL
  obtain ⟨W1, hW1⟩ : ∃ W1, W1 = w.alloc (.cells #[.slice na G.nodes.length nc, .slice la G.links.length lc] 25) := ⟨_, rfl⟩
  obtain ⟨W2, hW2⟩ : ∃ W2, W2 = W1.alloc (.cells #[.int .i64 1, .int .i64 a, .int .i64 b, .float .f64 q] 33) := ⟨_, rfl⟩
  obtain ⟨W3, hW3⟩ : ∃ W3, W3 = W2.alloc (.cells #[.slice none 0 0, .slice none 0 0] 25) := ⟨_, rfl⟩
  have b1 : Below w.heap.size w W1 := by rw [hW1]; exact gAl _ _
  have b2 : Below W1.heap.size W1 W2 := by rw [hW2]; exact gAl _ _
  have b3 : Below W2.heap.size W2 W3 := by rw [hW3]; exact gAl _ _
  have s1 : W1.heap.size = w.heap.size + 1 := by rw [hW1]; simp
  have s2 : W2.heap.size = W1.heap.size + 1 := by rw [hW2]; simp
  have s3 : W3.heap.size = W2.heap.size + 1 := by rw [hW3]; simp
  have r1 : W1.heap[w.heap.size]? = some (.cells #[.slice na G.nodes.length nc, .slice la G.links.length lc] 25 (0, 0)) := by rw [hW1]; exact heap_alloc_new w _
  have r2 : W2.heap[W1.heap.size]? = some (.cells #[.int .i64 1, .int .i64 a, .int .i64 b, .float .f64 q] 33 (0, 0)) := by rw [hW2]; exact heap_alloc_new W1 _
  have r3 : W3.heap[W2.heap.size]? = some (.cells #[.slice none 0 0, .slice none 0 0] 25 (0, 0)) := by rw [hW3]; exact heap_alloc_new W2 _
  have hb3 : Below w.heap.size w W3 := gNx (gNx b1 b2) b3
  have q1 : W3.heap[w.heap.size]? = some (.cells #[.slice na G.nodes.length nc, .slice la G.links.length lc] 25 (0, 0)) := (b3.block _ (by omega)).trans ((b2.block _ (by omega)).trans r1)
  have q2 : W3.heap[W1.heap.size]? = some (.cells #[.int .i64 1, .int .i64 a, .int .i64 b, .float .f64 q] 33 (0, 0)) := (b3.block _ (by omega)).trans r2
  obtain ⟨br, hbr⟩ : ∃ br, br = W2.heap.size := ⟨_, rfl⟩
  obtain ⟨bc, hbc⟩ : ∃ bc, bc = W1.heap.size := ⟨_, rfl⟩
  have HBR : Hid (br < W3.heap.size ∧ w.heap.size ≤ br ∧ w.heap.size ≤ W3.heap.size) := Lib.hid (by omega)
  have HKG : Hid (∀ V, Below W3.heap.size W3 V → V.cell? ⟨w.heap.size, 0, none⟩ = some (.slice na G.nodes.length nc) ∧ V.cell? ⟨w.heap.size, 1, none⟩ = some (.slice la G.links.length lc)) := Lib.hid (fun V hV => by
    have := (hV.block w.heap.size (by omega)).trans q1
    exact ⟨by rw [cell_of_row V _ 0 _ _ (0, 0) this]; rfl, by rw [cell_of_row V _ 1 _ _ (0, 0) this]; rfl⟩)
  have HKC : Hid (∀ V, Below W3.heap.size W3 V → V.heap[bc]? = some (.cells #[.int .i64 1, .int .i64 a, .int .i64 b, .float .f64 q] 33 (0, 0))) := Lib.hid (fun V hV => by rw [hbc]; exact (hV.block W1.heap.size (by omega)).trans q2)
  have HRS : Hid (∀ V, Below W3.heap.size W3 V → V.heap[br]? = some (.cells #[.slice none 0 0, .slice none 0 0] 25 (0, 0))) := Lib.hid (fun V hV => by rw [hbr]; exact (hV.block _ (by omega)).trans r3)
  have HWB : Hid (∀ V, Below W3.heap.size W3 V → Below w.heap.size w V) := Lib.hid (fun V hV => gNx hb3 hV)
  have HG2 : Hid (∀ V, Below W3.heap.size W3 V → GrIn V G na la) := Lib.hid (fun V hV => hin.below (gNx hb3 hV))
  have HQ := Lib.hid hin.wts
  have HQQ := Lib.hid hq
  have HSZ : Hid (G.nodes.length * 16 ≤ 140737488351232 ∧ G.links.length * 32 ≤ 140737488351232) := Lib.hid ⟨hin.n1, hin.l1⟩
  clear hin hq b1 b2 b3 r1 r2 r3 q1 q2 hb3 s3
  have HCK := Lib.hid hG
  have HBA := Lib.hid hba
  obtain ⟨n1, n2, n3, n4⟩ := check_zero.1 hG
  have HNP := Lib.hid n3
  have HM1 := Lib.hid (links_iff.1 n4).2
  have HNL : Hid (G.nodes.length ≤ 256 ∧ G.links.length ≤ 4096) := Lib.hid ⟨n1, n2⟩
  clear hG hba n1 n2 n3 n4
  have HP := Lib.hid (apply_add HCK.out HBA.out)
  go_enter Try.func15, Try.ntmps15
  go_upto_region 1 with (fail)
  rw [← hW1, ← hW2, ← hW3, ← s1, ← s2, ← hbr, ← hbc]
  obtain ⟨g0, g1⟩ := HKG.out W3 (Below.refl _ _)
  clear hW1 hW2 hW3 s1 s2 hbr hbc
  go_wp2_with fail
  refine (rCheck_any G na la nc lc W3 (HG2.out W3 (Below.refl _ _)).nodes (HG2.out W3 (Below.refl _ _)).links HQ.out (by have := HSZ.out; omega) (by have := HSZ.out; omega)).mono ?_
  rintro e V1 ⟨rfl, hb⟩
  rw [HCK.out]
  have B1 := Lib.hid hb
  clear hb g0 g1
  obtain ⟨c0, c1, c2, c3⟩ := cells_four (HKC.out V1 B1.out)
  go_wp2_with fail
  refine (rBare_any 1 a b q V1).mono ?_
  rintro e V2 ⟨rfl, hb⟩
  rw [HBA.out]
  have B2 := Lib.hid (gNx B1.out hb)
  clear hb c0 c1 c2 c3
  obtain ⟨c0, c1, c2, c3⟩ := cells_four (HKC.out V2 B2.out)
  obtain ⟨g0, g1⟩ := HKG.out V2 B2.out
  go_wp2_with fail
  refine (rAdded_any G na nc la lc a V2 (HG2.out V2 B2.out) HCK.out).mono ?_
  rintro e V3 ⟨vn, vl, rfl, hv, hb⟩
  have B3 := Lib.hid (gNx B2.out hb)
  obtain ⟨GA, hGA⟩ : ∃ GA, GA = addG G a := ⟨_, rfl⟩
  obtain ⟨ce, hce⟩ : ∃ ce, ce = addE G a := ⟨_, rfl⟩
  rw [← hGA] at hv
  rw [← hce]
  have HP : Hid (applyE G ⟨1, a, b, q⟩ = ce ∧ applyG G ⟨1, a, b, q⟩ = GA) := Lib.hid (by rw [hce, hGA]; exact HP.out)
  obtain ⟨an, cn, rfl⟩ := hv.nodes.slice
  obtain ⟨al, cl, rfl⟩ := hv.links.slice
  have HV := Lib.hid hv
  clear hb hv hGA hce c0 c1 c2 c3 g0 g1
  have hres := HRS.out V3 B3.out
  obtain ⟨x0, x1, x2, x3⟩ := cells_two hres
  have HRES := Lib.hid hres
  clear hres
  go_wp2_with fail
  have hq1 := heap_setCell_same V3 br 0 _ _ (.slice an GA.nodes.length cn) HRES.out
  have hq2 := heap_setCell_same _ br 1 _ _ (.slice al GA.links.length cl) hq1
  refine bodyPost_ret (results_cell2 Try.results15 _ _ br 0 [.slice an GA.nodes.length cn, .slice al GA.links.length cl] _ rfl ?_ Try.underlying25 (by rfl) (by kernel_rfl)) rfl ?_
  · intro j v hj
    match j with
    | 0 => simp at hj; subst hj; rw [cell_of_row _ _ _ _ _ (0, 0) hq2]; rfl
    | 1 => simp at hj; subst hj; rw [cell_of_row _ _ _ _ _ (0, 0) hq2]; rfl
    | j + 2 => simp at hj
  · rw [HP.out.1, HP.out.2]
    exact ⟨_, _, rfl, (((HV.out.mono (Nat.le_trans HBR.out.2.2 B2.out.size))).set HRES.out).set hq1, ((HWB.out V3 B3.out).setCell HBR.out.2.1 _).setCell HBR.out.2.1 _⟩
set_option maxHeartbeats 8000000 in
theorem rApply_2 (G : Gr) (na : Option Addr) (nc : Nat) (la : Option Addr) (lc : Nat) (a b : Int) (q : Nat) (w : World) (hin : GrIn w G na la) (hq : q < 2 ^ 64) (hG : checkG G = 0) (hba : bareB ⟨2, a, b, q⟩ = true) :
    Calls Try.prog 15 #[.agg #[.slice na G.nodes.length nc, .slice la G.links.length lc], .agg #[.int .i64 2, .int .i64 a, .int .i64 b, .float .f64 q]] w fun e w' => LiveEnds w (applyG G ⟨2, a, b, q⟩) (applyE G ⟨2, a, b, q⟩) e w' := by
  have hst := g_storeL
  obtain ⟨W1, hW1⟩ : ∃ W1, W1 = w.alloc (.cells #[.slice na G.nodes.length nc, .slice la G.links.length lc] 25) := ⟨_, rfl⟩
  obtain ⟨W2, hW2⟩ : ∃ W2, W2 = W1.alloc (.cells #[.int .i64 2, .int .i64 a, .int .i64 b, .float .f64 q] 33) := ⟨_, rfl⟩
  obtain ⟨W3, hW3⟩ : ∃ W3, W3 = W2.alloc (.cells #[.slice none 0 0, .slice none 0 0] 25) := ⟨_, rfl⟩
  have b1 : Below w.heap.size w W1 := by rw [hW1]; exact gAl _ _
  have b2 : Below W1.heap.size W1 W2 := by rw [hW2]; exact gAl _ _
  have b3 : Below W2.heap.size W2 W3 := by rw [hW3]; exact gAl _ _
  have s1 : W1.heap.size = w.heap.size + 1 := by rw [hW1]; simp
  have s2 : W2.heap.size = W1.heap.size + 1 := by rw [hW2]; simp
  have s3 : W3.heap.size = W2.heap.size + 1 := by rw [hW3]; simp
  have r1 : W1.heap[w.heap.size]? = some (.cells #[.slice na G.nodes.length nc, .slice la G.links.length lc] 25 (0, 0)) := by rw [hW1]; exact heap_alloc_new w _
  have r2 : W2.heap[W1.heap.size]? = some (.cells #[.int .i64 2, .int .i64 a, .int .i64 b, .float .f64 q] 33 (0, 0)) := by rw [hW2]; exact heap_alloc_new W1 _
  have r3 : W3.heap[W2.heap.size]? = some (.cells #[.slice none 0 0, .slice none 0 0] 25 (0, 0)) := by rw [hW3]; exact heap_alloc_new W2 _
  have hb3 : Below w.heap.size w W3 := gNx (gNx b1 b2) b3
  have q1 : W3.heap[w.heap.size]? = some (.cells #[.slice na G.nodes.length nc, .slice la G.links.length lc] 25 (0, 0)) := (b3.block _ (by omega)).trans ((b2.block _ (by omega)).trans r1)
  have q2 : W3.heap[W1.heap.size]? = some (.cells #[.int .i64 2, .int .i64 a, .int .i64 b, .float .f64 q] 33 (0, 0)) := (b3.block _ (by omega)).trans r2
  obtain ⟨br, hbr⟩ : ∃ br, br = W2.heap.size := ⟨_, rfl⟩
  obtain ⟨bc, hbc⟩ : ∃ bc, bc = W1.heap.size := ⟨_, rfl⟩
  have HBR : Hid (br < W3.heap.size ∧ w.heap.size ≤ br ∧ w.heap.size ≤ W3.heap.size) := Lib.hid (by omega)
  have HKG : Hid (∀ V, Below W3.heap.size W3 V → V.cell? ⟨w.heap.size, 0, none⟩ = some (.slice na G.nodes.length nc) ∧ V.cell? ⟨w.heap.size, 1, none⟩ = some (.slice la G.links.length lc)) := Lib.hid (fun V hV => by
    have := (hV.block w.heap.size (by omega)).trans q1
    exact ⟨by rw [cell_of_row V _ 0 _ _ (0, 0) this]; rfl, by rw [cell_of_row V _ 1 _ _ (0, 0) this]; rfl⟩)
  have HKC : Hid (∀ V, Below W3.heap.size W3 V → V.heap[bc]? = some (.cells #[.int .i64 2, .int .i64 a, .int .i64 b, .float .f64 q] 33 (0, 0))) := Lib.hid (fun V hV => by rw [hbc]; exact (hV.block W1.heap.size (by omega)).trans q2)
  have HRS : Hid (∀ V, Below W3.heap.size W3 V → V.heap[br]? = some (.cells #[.slice none 0 0, .slice none 0 0] 25 (0, 0))) := Lib.hid (fun V hV => by rw [hbr]; exact (hV.block _ (by omega)).trans r3)
  have HWB : Hid (∀ V, Below W3.heap.size W3 V → Below w.heap.size w V) := Lib.hid (fun V hV => gNx hb3 hV)
  have HG2 : Hid (∀ V, Below W3.heap.size W3 V → GrIn V G na la) := Lib.hid (fun V hV => hin.below (gNx hb3 hV))
  have HQ := Lib.hid hin.wts
  have HQQ := Lib.hid hq
  have HSZ : Hid (G.nodes.length * 16 ≤ 140737488351232 ∧ G.links.length * 32 ≤ 140737488351232) := Lib.hid ⟨hin.n1, hin.l1⟩
  clear hin hq b1 b2 b3 r1 r2 r3 q1 q2 hb3 s3
  have HCK := Lib.hid hG
  have HBA := Lib.hid hba
  obtain ⟨n1, n2, n3, n4⟩ := check_zero.1 hG
  have HNP := Lib.hid n3
  have HM1 := Lib.hid (links_iff.1 n4).2
  have HNL : Hid (G.nodes.length ≤ 256 ∧ G.links.length ≤ 4096) := Lib.hid ⟨n1, n2⟩
  clear hG hba n1 n2 n3 n4
  have HP := Lib.hid (apply_link HCK.out HBA.out)
  go_enter Try.func15, Try.ntmps15
  go_upto_region 1 with (fail)
  rw [← hW1, ← hW2, ← hW3, ← s1, ← s2, ← hbr, ← hbc]
  obtain ⟨g0, g1⟩ := HKG.out W3 (Below.refl _ _)
  clear hW1 hW2 hW3 s1 s2 hbr hbc
  go_wp2_with fail
  refine (rCheck_any G na la nc lc W3 (HG2.out W3 (Below.refl _ _)).nodes (HG2.out W3 (Below.refl _ _)).links HQ.out (by have := HSZ.out; omega) (by have := HSZ.out; omega)).mono ?_
  rintro e V1 ⟨rfl, hb⟩
  rw [HCK.out]
  have B1 := Lib.hid hb
  clear hb g0 g1
  obtain ⟨c0, c1, c2, c3⟩ := cells_four (HKC.out V1 B1.out)
  go_wp2_with fail
  refine (rBare_any 2 a b q V1).mono ?_
  rintro e V2 ⟨rfl, hb⟩
  rw [HBA.out]
  have B2 := Lib.hid (gNx B1.out hb)
  clear hb c0 c1 c2 c3
  obtain ⟨c0, c1, c2, c3⟩ := cells_four (HKC.out V2 B2.out)
  obtain ⟨g0, g1⟩ := HKG.out V2 B2.out
  go_wp2_with fail
  refine (rLinked_any G na nc la lc a b q V2 (HG2.out V2 B2.out) HCK.out HQQ.out).mono ?_
  rintro e V3 ⟨vn, vl, rfl, hv, hb⟩
  have B3 := Lib.hid (gNx B2.out hb)
  obtain ⟨GA, hGA⟩ : ∃ GA, GA = linkG G a b q := ⟨_, rfl⟩
  obtain ⟨ce, hce⟩ : ∃ ce, ce = linkE G a b q := ⟨_, rfl⟩
  rw [← hGA] at hv
  rw [← hce]
  have HP : Hid (applyE G ⟨2, a, b, q⟩ = ce ∧ applyG G ⟨2, a, b, q⟩ = GA) := Lib.hid (by rw [hce, hGA]; exact HP.out)
  obtain ⟨an, cn, rfl⟩ := hv.nodes.slice
  obtain ⟨al, cl, rfl⟩ := hv.links.slice
  have HV := Lib.hid hv
  clear hb hv hGA hce c0 c1 c2 c3 g0 g1
  have hres := HRS.out V3 B3.out
  obtain ⟨x0, x1, x2, x3⟩ := cells_two hres
  have HRES := Lib.hid hres
  clear hres
  go_wp2_with fail
  have hq1 := heap_setCell_same V3 br 0 _ _ (.slice an GA.nodes.length cn) HRES.out
  have hq2 := heap_setCell_same _ br 1 _ _ (.slice al GA.links.length cl) hq1
  refine bodyPost_ret (results_cell2 Try.results15 _ _ br 0 [.slice an GA.nodes.length cn, .slice al GA.links.length cl] _ rfl ?_ Try.underlying25 (by rfl) (by kernel_rfl)) rfl ?_
  · intro j v hj
    match j with
    | 0 => simp at hj; subst hj; rw [cell_of_row _ _ _ _ _ (0, 0) hq2]; rfl
    | 1 => simp at hj; subst hj; rw [cell_of_row _ _ _ _ _ (0, 0) hq2]; rfl
    | j + 2 => simp at hj
  · rw [HP.out.1, HP.out.2]
    exact ⟨_, _, rfl, (((HV.out.mono (Nat.le_trans HBR.out.2.2 B2.out.size))).set HRES.out).set hq1, ((HWB.out V3 B3.out).setCell HBR.out.2.1 _).setCell HBR.out.2.1 _⟩
end Go.Proofs.Ytgjpgpjdealbeaa
end

section
namespace Go.Proofs.Ytgjpgpjdealbeaa
open Go.RowKit Go.Lib Go.Fq Go.Iq Go.Nq Go.Ow
set_option linter.unusedVariables false
set_option linter.unusedSimpArgs false
set_option maxRecDepth 100000

theorem rApply_any (G : Gr) (na : Option Addr) (nc : Nat) (la : Option Addr) (lc : Nat) (kd a b : Int) (q : Nat) (w : World) (hin : GrIn w G na la) (hq : q < 2 ^ 64) :
    Calls Try.prog 15 #[.agg #[.slice na G.nodes.length nc, .slice la G.links.length lc], .agg #[.int .i64 kd, .int .i64 a, .int .i64 b, .float .f64 q]] w fun e w' => LiveEnds w (applyG G ⟨kd, a, b, q⟩) (applyE G ⟨kd, a, b, q⟩) e w' := by
  by_cases hz : checkG G = 0
  · cases hba : bareB ⟨kd, a, b, q⟩ with
    | false => exact rApply_no G na nc la lc kd a b q w hin hq (Or.inr hba)
    | true =>
      have hk : kd = 1 ∨ kd = 2 ∨ kd = 3 ∨ kd = 4 ∨ kd = 5 ∨ kd = 6 ∨ kd = 7 ∨ kd = 8 ∨ kd = 9 := by
        have h := hba
        unfold bareB at h
        simp only [Bool.and_eq_true, decide_eq_true_eq] at h
        omega
      rcases hk with rfl | rfl | rfl | rfl | rfl | rfl | rfl | rfl | rfl
      · exact rApply_1 G na nc la lc a b q w hin hq hz hba
      · exact rApply_2 G na nc la lc a b q w hin hq hz hba
      · exact rApply_3 G na nc la lc a b q w hin hq hz hba
      · exact rApply_4 G na nc la lc a b q w hin hq hz hba
      · exact rApply_5 G na nc la lc a b q w hin hq hz hba
      · exact rApply_6 G na nc la lc a b q w hin hq hz hba
      · exact rApply_7 G na nc la lc a b q w hin hq hz hba
      · exact rApply_8 G na nc la lc a b q w hin hq hz hba
      · exact rApply_9 G na nc la lc a b q w hin hq hz hba
  · exact rApply_no G na nc la lc kd a b q w hin hq (Or.inl hz)
end Go.Proofs.Ytgjpgpjdealbeaa
end

section
namespace Go.Proofs.Ytgjpgpjdealbeaa
open Go.RowKit Go.Lib Go.Fq Go.Iq Go.Nq Go.Ow
set_option linter.unusedVariables false
set_option linter.unusedSimpArgs false
set_option maxRecDepth 100000

theorem stChange : Go.Np.St Try.prog 33 [(3, 0), (3, 1), (3, 2), (31, 3)] := ⟨_, Try.underlying33, by kernel_rfl⟩
theorem gcCh : Try.prog.cellsOf 33 = 4 := by kernel_rfl
theorem gbCh : Try.prog.bytesOf 33 = 32 := by kernel_rfl
section
variable {H : Type} {enc : TypeId × Value → H} {w : World} {spare : Nat → Bool} {held : Bool}
theorem gin_change {n : Nat} {cs : List Value} {d : DataW H} {p : List MemPlace} (h : DataW.trod enc Try.prog w 0 spare held n 33 cs = some (d, p)) : ∃ (k a b : Int) (q : Nat), cs = [.int .i64 k, .int .i64 a, .int .i64 b, .float .f64 q] ∧ q < 2 ^ 64 := by
  obtain ⟨xs, m, -, -, hcl, hxl, hat, -⟩ := stChange.opens h
  rw [gcCh] at hcl
  match cs, hcl, xs, hxl with
  | [v0, v1, v2, v3], _, [x0, x1, x2, x3], _ =>
    have e0 := hat 0 (by simp)
    have e1 := hat 1 (by simp)
    have e2 := hat 2 (by simp)
    have e3 := hat 3 (by simp)
    simp [gcInt, gcF64] at e0 e1 e2 e3
    obtain ⟨a0, rfl, -⟩ := gin_int e0
    obtain ⟨a1, rfl, -⟩ := gin_int e1
    obtain ⟨a2, rfl, -⟩ := gin_int e2
    obtain ⟨a3, rfl, p3⟩ := gin_f64 e3
    exact ⟨a0, a1, a2, a3, rfl, p3⟩
/-- What a []api.Change that is handed in is. -/
structure ChsOk (w : World) (l : List Ch) (a : Option Addr) : Prop where
  rows : ChsIn w w.heap.size l a
  wts : ∀ x ∈ l, x.w < 2 ^ 64
  n1 : l.length * 32 ≤ 140737488351232
theorem gin_changes {n : Nat} {a : Option Addr} {k c : Nat} {x : DataW H × List MemPlace} (h : DataW.trod enc Try.prog w 0 spare held n 38 [.slice a k c] = some x) (hw : ∀ z ∈ x.1.weights Try.prog 38, z ≤ reachBytes) :
    ∃ l : List Ch, k = l.length ∧ ChsOk w l a := by
  have hR : reachBytes = 140737488351232 := rfl
  rcases Go.Np.open_slice (k := 4) Try.underlying38 gcCh (by omega) h with h0 | ⟨m, b, o, el, sp, rfl, rfl, hb, he, hel, hel2⟩
  · exact ⟨[], by simpa using h0, Or.inl rfl, by simp, by simp⟩
  · rw [he] at hw
    obtain ⟨hq, hq2⟩ := Go.Np.weights_elem Try.underlying38 hw
    rw [gbCh] at hq
    obtain ⟨l, hl, hl2⟩ := Go.Np.list_of (Q := fun i (y : Ch) => ChAt w b (o + i * 4) y ∧ y.w < 2 ^ 64) el.length (fun i hi => by
      obtain ⟨cs, ps', hcl, hcc, htr⟩ := hel2 i hi
      obtain ⟨k, a, b, q, rfl, hf⟩ := gin_change htr
      have g := fun j hj => hcc j hj
      exact ⟨⟨k, a, b, q⟩, ⟨g 0 (by simp), g 1 (by simp), g 2 (by simp), g 3 (by simp)⟩, hf⟩)
    refine ⟨l, by omega, Or.inr ⟨b, o, rfl, hb, fun i hi => (hl2 i hi).1⟩, fun y hy => ?_, by have := Nat.mul_le_mul_right 32 (Nat.le_add_right el.length sp.length); omega⟩
    obtain ⟨i, hi, rfl⟩ := List.getElem_of_mem hy
    exact (hl2 i hi).2
end
end Go.Proofs.Ytgjpgpjdealbeaa
end

section
namespace Go.Proofs.Ytgjpgpjdealbeaa
open Go.RowKit Go.Lib Go.Fq Go.Iq Go.Nq Go.Ow
set_option linter.unusedVariables false
set_option linter.unusedSimpArgs false
set_option maxRecDepth 100000

theorem GrAt.gin {w : World} {base bg : Nat} {na la : Option Addr} {nc lc : Nat} {G : Gr} (h : GrAt w base bg (.slice na G.nodes.length nc) (.slice la G.links.length lc) G) (n1 : G.nodes.length * 16 ≤ 140737488351232) (l1 : G.links.length * 32 ≤ 140737488351232) : GrIn w G na la := by
  obtain ⟨na', nc', e1, hNI, -⟩ := ownN_in h.nodes
  obtain ⟨la', lc', e2, hLI, -⟩ := ownL_in h.links
  cases e1
  cases e2
  exact ⟨hNI, hLI, h.wts, n1, l1⟩
set_option maxHeartbeats 8000000 in
theorem law_applies (G : Gr) (na : Option Addr) (nc : Nat) (la : Option Addr) (lc : Nat) (kd a b : Int) (q : Nat) (w : World) (hin : GrIn w G na la) (hq : q < 2 ^ 64) :
    Calls Try.prog 4 #[.agg #[.slice na G.nodes.length nc, .slice la G.links.length lc], .agg #[.int .i64 kd, .int .i64 a, .int .i64 b, .float .f64 q]] w fun e w' => e = .returned (.bool true) ∧ Below w.heap.size w w' := by
  have hst := g_storeL
  obtain ⟨W1, hW1⟩ : ∃ W1, W1 = w.alloc (.cells #[.slice na G.nodes.length nc, .slice la G.links.length lc] 25) := ⟨_, rfl⟩
  obtain ⟨W2, hW2⟩ : ∃ W2, W2 = W1.alloc (.cells #[.int .i64 kd, .int .i64 a, .int .i64 b, .float .f64 q] 33) := ⟨_, rfl⟩
  have b1 : Below w.heap.size w W1 := by rw [hW1]; exact gAl _ _
  have b2 : Below W1.heap.size W1 W2 := by rw [hW2]; exact gAl _ _
  have s1 : W1.heap.size = w.heap.size + 1 := by rw [hW1]; simp
  have s2 : W2.heap.size = W1.heap.size + 1 := by rw [hW2]; simp
  have r1 : W1.heap[w.heap.size]? = some (.cells #[.slice na G.nodes.length nc, .slice la G.links.length lc] 25 (0, 0)) := by rw [hW1]; exact heap_alloc_new w _
  have r2 : W2.heap[W1.heap.size]? = some (.cells #[.int .i64 kd, .int .i64 a, .int .i64 b, .float .f64 q] 33 (0, 0)) := by rw [hW2]; exact heap_alloc_new W1 _
  have hb2 : Below w.heap.size w W2 := gNx b1 b2
  have q1 : W2.heap[w.heap.size]? = some (.cells #[.slice na G.nodes.length nc, .slice la G.links.length lc] 25 (0, 0)) := (b2.block _ (by omega)).trans r1
  obtain ⟨bc, hbc⟩ : ∃ bc, bc = W1.heap.size := ⟨_, rfl⟩
  have HKG : Hid (∀ V, Below W2.heap.size W2 V → V.cell? ⟨w.heap.size, 0, none⟩ = some (.slice na G.nodes.length nc) ∧ V.cell? ⟨w.heap.size, 1, none⟩ = some (.slice la G.links.length lc)) := Lib.hid (fun V hV => by
    have := (hV.block w.heap.size (by omega)).trans q1
    exact ⟨by rw [cell_of_row V _ 0 _ _ (0, 0) this]; rfl, by rw [cell_of_row V _ 1 _ _ (0, 0) this]; rfl⟩)
  have HKC : Hid (∀ V, Below W2.heap.size W2 V → V.heap[bc]? = some (.cells #[.int .i64 kd, .int .i64 a, .int .i64 b, .float .f64 q] 33 (0, 0))) := Lib.hid (fun V hV => by rw [hbc]; exact (hV.block W1.heap.size (by omega)).trans r2)
  have HIN : Hid (∀ V, Below W2.heap.size W2 V → GrIn V G na la) := Lib.hid (fun V hV => hin.below (gNx hb2 hV))
  have HB2 := Lib.hid hb2
  have HQ := Lib.hid hin.wts
  have HQQ := Lib.hid hq
  have HSZ : Hid (G.nodes.length * 16 ≤ 140737488351232 ∧ G.links.length * 32 ≤ 140737488351232) := Lib.hid ⟨hin.n1, hin.l1⟩
  obtain ⟨XG, hXG⟩ : ∃ X, X = applyG G ⟨kd, a, b, q⟩ := ⟨_, rfl⟩
  obtain ⟨ce, hce⟩ : ∃ ce, ce = applyE G ⟨kd, a, b, q⟩ := ⟨_, rfl⟩
  have HXG := Lib.hid hXG
  have HCE := Lib.hid hce
  have HXL : Hid (XG.nodes.length * 16 ≤ 140737488351232 ∧ XG.links.length * 32 ≤ 140737488351232) := Lib.hid (by rw [hXG]; have := apply_len G ⟨kd, a, b, q⟩; omega)
  have z0 : (ce == ce) = true := by simp
  clear hin hq b1 b2 r1 r2 q1 hb2 hXG hce s2
  go_enter Try.func4, Try.ntmps4
  go_upto_region 1 with (fail)
  rw [← hW1, ← hW2, ← s1, ← hbc]
  clear hW1 hW2 s1 hbc
  refine wp_region_held_drew (S := fun V => Below W2.heap.size W2 V) (by kernel_rfl) (Below.drew (Below.refl _ _)) (fun hH => ?_)
  have BC : Hid (Below W2.heap.size W2 W2.drew) := Lib.hid (Below.drew (Below.refl _ _))
  obtain ⟨VC, hVC⟩ : ∃ VC, VC = W2.drew := ⟨_, rfl⟩
  rw [← hVC] at hH BC ⊢
  clear hVC
  refine tk 0 (by assumption) rfl (by kernel_rfl) (fun _ _ _ h => h) (fun V hV => by obtain ⟨g0, g1⟩ := HKG.out V hV; obtain ⟨c0, c1, c2, c3⟩ := cells_four (HKC.out V hV); go_simp; try with_reducible rfl) ?_
  try simp only [Act.put, List.setIfInBounds_toArray, List.set_cons_zero, List.set_cons_succ, List.getElem_toArray, List.getElem_cons_succ, List.getElem_cons_zero]
  refine tk 2 (by assumption) rfl (by kernel_rfl) (fun _ _ _ h => h) (fun V hV => by obtain ⟨g0, g1⟩ := HKG.out V hV; obtain ⟨c0, c1, c2, c3⟩ := cells_four (HKC.out V hV); go_simp; try with_reducible rfl) ?_
  try simp only [Act.put, List.setIfInBounds_toArray, List.set_cons_zero, List.set_cons_succ, List.getElem_toArray, List.getElem_cons_succ, List.getElem_cons_zero]
  refine wpAnyH_ready (rs := [1, 7]) (by kernel_rfl) (by simp) ?_
  refine AllReadyH.cons (o := _) rfl (fun K hK => ?_) (AllReadyH.cons (o := _) rfl (fun K hK => ?_) (AllReadyH.nil))
  · go_simp
    refine (rCopy_any G na la nc lc _ (HIN.out _ BC.out).nodes (HIN.out _ BC.out).links HQ.out (by have := HSZ.out; omega) (by have := HSZ.out; omega)).mono ?_
    rintro e VC ⟨vn, vl, rfl, hv, hb⟩
    obtain ⟨na1, nc1, la1, lc1, rfl, rfl, hin1⟩ := hv.gin HSZ.out.1 HSZ.out.2
    try have HGB := Lib.hid ((hb.block _ (Array.getElem?_eq_some_iff.1 HGB.out).1).trans HGB.out)
    have HCI := Lib.hid hin1
    have BC := Lib.hid (gNx BC.out hb)
    clear hv hb hin1
    go_wp2_with fail
    refine hK.out _ _ BC.out (fun hH => ?_)
    clear hK K
    try simp only [Act.put, List.setIfInBounds_toArray, List.set_cons_zero, List.set_cons_succ, List.getElem_toArray, List.getElem_cons_succ, List.getElem_cons_zero]
    refine wpAnyH_ready (rs := [3, 7]) (by kernel_rfl) (by simp) ?_
    refine AllReadyH.cons (o := _) rfl (fun K hK => ?_) (AllReadyH.cons (o := _) rfl (fun K hK => ?_) (AllReadyH.nil))
    · go_simp
      refine (gApply_any G na1 nc1 la1 lc1 kd a b q _ HCI.out HQQ.out).mono ?_
      rintro e VC ⟨vn, vl, rfl, hv, hb⟩
      rw [← HXG.out] at hv
      obtain ⟨na2, nc2, la2, lc2, rfl, rfl, hin2⟩ := hv.gin HXL.out.1 HXL.out.2
      try have HGB := Lib.hid ((hb.block _ (Array.getElem?_eq_some_iff.1 HGB.out).1).trans HGB.out)
      have HXV := Lib.hid (hv.mono (Nat.zero_le _))
      have BC := Lib.hid (gNx BC.out hb)
      clear hv hb hin2
      rw [← HCE.out]
      go_wp2_with fail
      refine hK.out _ _ BC.out (fun hH => ?_)
      clear hK K
      try simp only [Act.put, List.setIfInBounds_toArray, List.set_cons_zero, List.set_cons_succ, List.getElem_toArray, List.getElem_cons_succ, List.getElem_cons_zero]
      refine tk 4 (by assumption) rfl (by kernel_rfl) (fun _ _ _ h => h) (fun V hV => by go_simp; try with_reducible rfl) ?_
      try simp only [Act.put, List.setIfInBounds_toArray, List.set_cons_zero, List.set_cons_succ, List.getElem_toArray, List.getElem_cons_succ, List.getElem_cons_zero]
      refine tk 5 (by assumption) rfl (by kernel_rfl) (fun _ _ _ h => h) (fun V hV => by go_simp; try with_reducible rfl) ?_
      try simp only [Act.put, List.setIfInBounds_toArray, List.set_cons_zero, List.set_cons_succ, List.getElem_toArray, List.getElem_cons_succ, List.getElem_cons_zero]
      refine tk 6 (by assumption) rfl (by kernel_rfl) (fun _ _ _ h => h) (fun V hV => by go_simp; try with_reducible rfl) ?_
      try simp only [Act.put, List.setIfInBounds_toArray, List.set_cons_zero, List.set_cons_succ, List.getElem_toArray, List.getElem_cons_succ, List.getElem_cons_zero]
      refine wpAnyH_ready (rs := [7]) (by kernel_rfl) (by simp) ?_
      refine AllReadyH.cons (o := _) rfl (fun K hK => ?_) AllReadyH.nil
      go_simp
      obtain ⟨VD, hVD⟩ : ∃ VD, VD = VC.alloc (.cells #[.slice none 0 0, .slice none 0 0] 25) := ⟨_, rfl⟩
      rw [← hVD]
      obtain ⟨bg, hbg⟩ : ∃ bg, bg = VC.heap.size := ⟨_, rfl⟩
      rw [← hbg]
      have hb : Below VC.heap.size VC VD := by rw [hVD]; exact gAl _ _
      try have HCI := Lib.hid (HCI.out.below hb)
      try have HXV := Lib.hid (HXV.out.below hb)
      have HGB : Hid (VD.heap[bg]? = some (.cells #[.slice none 0 0, .slice none 0 0] 25 (0, 0))) := Lib.hid (by rw [hVD, hbg]; exact heap_alloc_new VC _)
      have HBB : Hid (W2.heap.size ≤ bg) := Lib.hid (by rw [hbg]; exact BC.out.size)
      have BC := Lib.hid (gNx BC.out hb)
      clear hb hVD hbg
      rename World => VC
      refine hK.out _ _ BC.out (fun hH => ?_)
      clear hK K
      try simp only [Act.put, List.setIfInBounds_toArray, List.set_cons_zero, List.set_cons_succ, List.getElem_toArray, List.getElem_cons_succ, List.getElem_cons_zero]
      refine wpAnyH_ready (rs := [8]) (by kernel_rfl) (by simp) ?_
      refine AllReadyH.cons (o := _) rfl (fun K hK => ?_) AllReadyH.nil
      obtain ⟨d0, d1, d2, d3⟩ := cells_two HGB.out
      go_simp
      obtain ⟨VE, hVE⟩ : ∃ VE, VE = (VC.setCell ⟨bg, 0, none⟩ (.slice na2 XG.nodes.length nc2)).setCell ⟨bg, 1, none⟩ (.slice la2 XG.links.length lc2) := ⟨_, rfl⟩
      rw [← hVE]
      have BE : Hid (Below W2.heap.size W2 VE) := Lib.hid (by rw [hVE]; exact (BC.out.setCell HBB.out _).setCell HBB.out _)
      have HXE : Hid (GrAt VE 0 bg (.slice na2 XG.nodes.length nc2) (.slice la2 XG.links.length lc2) XG) := Lib.hid (by rw [hVE]; exact GrAt.make (Nat.zero_le _) HGB.out HXV.out)
      clear hVE d0 d1 d2 d3
      refine hK.out _ _ BE.out (fun hH => ?_)
      clear hK K
      try simp only [Act.put, List.setIfInBounds_toArray, List.set_cons_zero, List.set_cons_succ, List.getElem_toArray, List.getElem_cons_succ, List.getElem_cons_zero]
      refine tk 9 (by assumption) rfl (by kernel_rfl) (fun _ _ _ h => h) (fun V hV => by go_simp; try with_reducible rfl) ?_
      try simp only [Act.put, List.setIfInBounds_toArray, List.set_cons_zero, List.set_cons_succ, List.getElem_toArray, List.getElem_cons_succ, List.getElem_cons_zero]
      refine wpAnyH_done (by kernel_rfl) ?_ _
      clear HGB HXV BC HCI
      obtain ⟨g0, g1⟩ := HKG.out VE BE.out
      obtain ⟨c0, c1, c2, c3⟩ := cells_four (HKC.out VE BE.out)
      go_wp2_with fail
      refine (rApply_any G na nc la lc kd a b q VE (HIN.out VE BE.out) HQQ.out).mono ?_
      rintro e V4 ⟨vn, vl, rfl, hv, hb⟩
      rw [← HXG.out] at hv
      rw [← HCE.out]
      obtain ⟨na5, nc5, la5, lc5, rfl, rfl, hin5⟩ := hv.gin HXL.out.1 HXL.out.2
      obtain ⟨W5, hW5⟩ : ∃ W5, W5 = V4.alloc (.cells #[.slice na5 XG.nodes.length nc5, .slice la5 XG.links.length lc5] 25) := ⟨_, rfl⟩
      have b5 : Below V4.heap.size V4 W5 := by rw [hW5]; exact gAl _ _
      have r5 : W5.heap[V4.heap.size]? = some (.cells #[.slice na5 XG.nodes.length nc5, .slice la5 XG.links.length lc5] 25 (0, 0)) := by rw [hW5]; exact heap_alloc_new V4 _
      have hx5 := HXE.out.below (gNx hb b5)
      have HI1 := Lib.hid (GrAt.gin hx5 HXL.out.1 HXL.out.2)
      have HI2 := Lib.hid (hin5.below b5)
      have B5 := Lib.hid (gNx BE.out (gNx hb b5))
      clear hv hb b5 hin5 g0 g1 c0 c1 c2 c3 HXE
      go_upto_region 3 with (fail)
      rw [← hW5]
      clear hW5
      obtain ⟨e0, e1, -, -⟩ := hx5.cells
      obtain ⟨e2, e3, -, -⟩ := cells_two r5
      clear hx5 r5
      go_wp2_with fail
      refine (rSame_gin XG na2 na5 la2 la5 nc2 nc5 lc2 lc5 W5 HI1.out HI2.out).mono ?_
      rintro e V6 ⟨rfl, hb⟩
      have B6 := Lib.hid (gNx B5.out hb)
      clear hb e0 e1 e2 e3
      go_wp2_with fail
      refine (gAwake_any _).mono ?_
      rintro e V7 ⟨rfl, hb⟩
      have B7 := Lib.hid (gNx B6.out hb)
      clear hb
      go_wp2_with fail
      go_ret
      exact ⟨rfl, gNx HB2.out B7.out⟩
    · go_simp
      obtain ⟨VD, hVD⟩ : ∃ VD, VD = VC.alloc (.cells #[.slice none 0 0, .slice none 0 0] 25) := ⟨_, rfl⟩
      rw [← hVD]
      obtain ⟨bg, hbg⟩ : ∃ bg, bg = VC.heap.size := ⟨_, rfl⟩
      rw [← hbg]
      have hb : Below VC.heap.size VC VD := by rw [hVD]; exact gAl _ _
      try have HCI := Lib.hid (HCI.out.below hb)
      try have HXV := Lib.hid (HXV.out.below hb)
      have HGB : Hid (VD.heap[bg]? = some (.cells #[.slice none 0 0, .slice none 0 0] 25 (0, 0))) := Lib.hid (by rw [hVD, hbg]; exact heap_alloc_new VC _)
      have HBB : Hid (W2.heap.size ≤ bg) := Lib.hid (by rw [hbg]; exact BC.out.size)
      have BC := Lib.hid (gNx BC.out hb)
      clear hb hVD hbg
      rename World => VC
      refine hK.out _ _ BC.out (fun hH => ?_)
      clear hK K
      try simp only [Act.put, List.setIfInBounds_toArray, List.set_cons_zero, List.set_cons_succ, List.getElem_toArray, List.getElem_cons_succ, List.getElem_cons_zero]
      refine wpAnyH_ready (rs := [3]) (by kernel_rfl) (by simp) ?_
      refine AllReadyH.cons (o := _) rfl (fun K hK => ?_) AllReadyH.nil
      go_simp
      refine (gApply_any G na1 nc1 la1 lc1 kd a b q _ HCI.out HQQ.out).mono ?_
      rintro e VC ⟨vn, vl, rfl, hv, hb⟩
      rw [← HXG.out] at hv
      obtain ⟨na2, nc2, la2, lc2, rfl, rfl, hin2⟩ := hv.gin HXL.out.1 HXL.out.2
      try have HGB := Lib.hid ((hb.block _ (Array.getElem?_eq_some_iff.1 HGB.out).1).trans HGB.out)
      have HXV := Lib.hid (hv.mono (Nat.zero_le _))
      have BC := Lib.hid (gNx BC.out hb)
      clear hv hb hin2
      rw [← HCE.out]
      go_wp2_with fail
      refine hK.out _ _ BC.out (fun hH => ?_)
      clear hK K
      try simp only [Act.put, List.setIfInBounds_toArray, List.set_cons_zero, List.set_cons_succ, List.getElem_toArray, List.getElem_cons_succ, List.getElem_cons_zero]
      refine tk 4 (by assumption) rfl (by kernel_rfl) (fun _ _ _ h => h) (fun V hV => by go_simp; try with_reducible rfl) ?_
      try simp only [Act.put, List.setIfInBounds_toArray, List.set_cons_zero, List.set_cons_succ, List.getElem_toArray, List.getElem_cons_succ, List.getElem_cons_zero]
      refine tk 5 (by assumption) rfl (by kernel_rfl) (fun _ _ _ h => h) (fun V hV => by go_simp; try with_reducible rfl) ?_
      try simp only [Act.put, List.setIfInBounds_toArray, List.set_cons_zero, List.set_cons_succ, List.getElem_toArray, List.getElem_cons_succ, List.getElem_cons_zero]
      refine tk 6 (by assumption) rfl (by kernel_rfl) (fun _ _ _ h => h) (fun V hV => by go_simp; try with_reducible rfl) ?_
      try simp only [Act.put, List.setIfInBounds_toArray, List.set_cons_zero, List.set_cons_succ, List.getElem_toArray, List.getElem_cons_succ, List.getElem_cons_zero]
      refine wpAnyH_ready (rs := [8]) (by kernel_rfl) (by simp) ?_
      refine AllReadyH.cons (o := _) rfl (fun K hK => ?_) AllReadyH.nil
      obtain ⟨d0, d1, d2, d3⟩ := cells_two HGB.out
      go_simp
      obtain ⟨VE, hVE⟩ : ∃ VE, VE = (VC.setCell ⟨bg, 0, none⟩ (.slice na2 XG.nodes.length nc2)).setCell ⟨bg, 1, none⟩ (.slice la2 XG.links.length lc2) := ⟨_, rfl⟩
      rw [← hVE]
      have BE : Hid (Below W2.heap.size W2 VE) := Lib.hid (by rw [hVE]; exact (BC.out.setCell HBB.out _).setCell HBB.out _)
      have HXE : Hid (GrAt VE 0 bg (.slice na2 XG.nodes.length nc2) (.slice la2 XG.links.length lc2) XG) := Lib.hid (by rw [hVE]; exact GrAt.make (Nat.zero_le _) HGB.out HXV.out)
      clear hVE d0 d1 d2 d3
      refine hK.out _ _ BE.out (fun hH => ?_)
      clear hK K
      try simp only [Act.put, List.setIfInBounds_toArray, List.set_cons_zero, List.set_cons_succ, List.getElem_toArray, List.getElem_cons_succ, List.getElem_cons_zero]
      refine tk 9 (by assumption) rfl (by kernel_rfl) (fun _ _ _ h => h) (fun V hV => by go_simp; try with_reducible rfl) ?_
      try simp only [Act.put, List.setIfInBounds_toArray, List.set_cons_zero, List.set_cons_succ, List.getElem_toArray, List.getElem_cons_succ, List.getElem_cons_zero]
      refine wpAnyH_done (by kernel_rfl) ?_ _
      clear HGB HXV BC HCI
      obtain ⟨g0, g1⟩ := HKG.out VE BE.out
      obtain ⟨c0, c1, c2, c3⟩ := cells_four (HKC.out VE BE.out)
      go_wp2_with fail
      refine (rApply_any G na nc la lc kd a b q VE (HIN.out VE BE.out) HQQ.out).mono ?_
      rintro e V4 ⟨vn, vl, rfl, hv, hb⟩
      rw [← HXG.out] at hv
      rw [← HCE.out]
      obtain ⟨na5, nc5, la5, lc5, rfl, rfl, hin5⟩ := hv.gin HXL.out.1 HXL.out.2
      obtain ⟨W5, hW5⟩ : ∃ W5, W5 = V4.alloc (.cells #[.slice na5 XG.nodes.length nc5, .slice la5 XG.links.length lc5] 25) := ⟨_, rfl⟩
      have b5 : Below V4.heap.size V4 W5 := by rw [hW5]; exact gAl _ _
      have r5 : W5.heap[V4.heap.size]? = some (.cells #[.slice na5 XG.nodes.length nc5, .slice la5 XG.links.length lc5] 25 (0, 0)) := by rw [hW5]; exact heap_alloc_new V4 _
      have hx5 := HXE.out.below (gNx hb b5)
      have HI1 := Lib.hid (GrAt.gin hx5 HXL.out.1 HXL.out.2)
      have HI2 := Lib.hid (hin5.below b5)
      have B5 := Lib.hid (gNx BE.out (gNx hb b5))
      clear hv hb b5 hin5 g0 g1 c0 c1 c2 c3 HXE
      go_upto_region 3 with (fail)
      rw [← hW5]
      clear hW5
      obtain ⟨e0, e1, -, -⟩ := hx5.cells
      obtain ⟨e2, e3, -, -⟩ := cells_two r5
      clear hx5 r5
      go_wp2_with fail
      refine (rSame_gin XG na2 na5 la2 la5 nc2 nc5 lc2 lc5 W5 HI1.out HI2.out).mono ?_
      rintro e V6 ⟨rfl, hb⟩
      have B6 := Lib.hid (gNx B5.out hb)
      clear hb e0 e1 e2 e3
      go_wp2_with fail
      refine (gAwake_any _).mono ?_
      rintro e V7 ⟨rfl, hb⟩
      have B7 := Lib.hid (gNx B6.out hb)
      clear hb
      go_wp2_with fail
      go_ret
      exact ⟨rfl, gNx HB2.out B7.out⟩
  · go_simp
    obtain ⟨VD, hVD⟩ : ∃ VD, VD = VC.alloc (.cells #[.slice none 0 0, .slice none 0 0] 25) := ⟨_, rfl⟩
    rw [← hVD]
    obtain ⟨bg, hbg⟩ : ∃ bg, bg = VC.heap.size := ⟨_, rfl⟩
    rw [← hbg]
    have hb : Below VC.heap.size VC VD := by rw [hVD]; exact gAl _ _
    try have HCI := Lib.hid (HCI.out.below hb)
    try have HXV := Lib.hid (HXV.out.below hb)
    have HGB : Hid (VD.heap[bg]? = some (.cells #[.slice none 0 0, .slice none 0 0] 25 (0, 0))) := Lib.hid (by rw [hVD, hbg]; exact heap_alloc_new VC _)
    have HBB : Hid (W2.heap.size ≤ bg) := Lib.hid (by rw [hbg]; exact BC.out.size)
    have BC := Lib.hid (gNx BC.out hb)
    clear hb hVD hbg
    rename World => VC
    refine hK.out _ _ BC.out (fun hH => ?_)
    clear hK K
    try simp only [Act.put, List.setIfInBounds_toArray, List.set_cons_zero, List.set_cons_succ, List.getElem_toArray, List.getElem_cons_succ, List.getElem_cons_zero]
    refine wpAnyH_ready (rs := [1]) (by kernel_rfl) (by simp) ?_
    refine AllReadyH.cons (o := _) rfl (fun K hK => ?_) AllReadyH.nil
    go_simp
    refine (rCopy_any G na la nc lc _ (HIN.out _ BC.out).nodes (HIN.out _ BC.out).links HQ.out (by have := HSZ.out; omega) (by have := HSZ.out; omega)).mono ?_
    rintro e VC ⟨vn, vl, rfl, hv, hb⟩
    obtain ⟨na1, nc1, la1, lc1, rfl, rfl, hin1⟩ := hv.gin HSZ.out.1 HSZ.out.2
    try have HGB := Lib.hid ((hb.block _ (Array.getElem?_eq_some_iff.1 HGB.out).1).trans HGB.out)
    have HCI := Lib.hid hin1
    have BC := Lib.hid (gNx BC.out hb)
    clear hv hb hin1
    go_wp2_with fail
    refine hK.out _ _ BC.out (fun hH => ?_)
    clear hK K
    try simp only [Act.put, List.setIfInBounds_toArray, List.set_cons_zero, List.set_cons_succ, List.getElem_toArray, List.getElem_cons_succ, List.getElem_cons_zero]
    refine wpAnyH_ready (rs := [3]) (by kernel_rfl) (by simp) ?_
    refine AllReadyH.cons (o := _) rfl (fun K hK => ?_) AllReadyH.nil
    go_simp
    refine (gApply_any G na1 nc1 la1 lc1 kd a b q _ HCI.out HQQ.out).mono ?_
    rintro e VC ⟨vn, vl, rfl, hv, hb⟩
    rw [← HXG.out] at hv
    obtain ⟨na2, nc2, la2, lc2, rfl, rfl, hin2⟩ := hv.gin HXL.out.1 HXL.out.2
    try have HGB := Lib.hid ((hb.block _ (Array.getElem?_eq_some_iff.1 HGB.out).1).trans HGB.out)
    have HXV := Lib.hid (hv.mono (Nat.zero_le _))
    have BC := Lib.hid (gNx BC.out hb)
    clear hv hb hin2
    rw [← HCE.out]
    go_wp2_with fail
    refine hK.out _ _ BC.out (fun hH => ?_)
    clear hK K
    try simp only [Act.put, List.setIfInBounds_toArray, List.set_cons_zero, List.set_cons_succ, List.getElem_toArray, List.getElem_cons_succ, List.getElem_cons_zero]
    refine tk 4 (by assumption) rfl (by kernel_rfl) (fun _ _ _ h => h) (fun V hV => by go_simp; try with_reducible rfl) ?_
    try simp only [Act.put, List.setIfInBounds_toArray, List.set_cons_zero, List.set_cons_succ, List.getElem_toArray, List.getElem_cons_succ, List.getElem_cons_zero]
    refine tk 5 (by assumption) rfl (by kernel_rfl) (fun _ _ _ h => h) (fun V hV => by go_simp; try with_reducible rfl) ?_
    try simp only [Act.put, List.setIfInBounds_toArray, List.set_cons_zero, List.set_cons_succ, List.getElem_toArray, List.getElem_cons_succ, List.getElem_cons_zero]
    refine tk 6 (by assumption) rfl (by kernel_rfl) (fun _ _ _ h => h) (fun V hV => by go_simp; try with_reducible rfl) ?_
    try simp only [Act.put, List.setIfInBounds_toArray, List.set_cons_zero, List.set_cons_succ, List.getElem_toArray, List.getElem_cons_succ, List.getElem_cons_zero]
    refine wpAnyH_ready (rs := [8]) (by kernel_rfl) (by simp) ?_
    refine AllReadyH.cons (o := _) rfl (fun K hK => ?_) AllReadyH.nil
    obtain ⟨d0, d1, d2, d3⟩ := cells_two HGB.out
    go_simp
    obtain ⟨VE, hVE⟩ : ∃ VE, VE = (VC.setCell ⟨bg, 0, none⟩ (.slice na2 XG.nodes.length nc2)).setCell ⟨bg, 1, none⟩ (.slice la2 XG.links.length lc2) := ⟨_, rfl⟩
    rw [← hVE]
    have BE : Hid (Below W2.heap.size W2 VE) := Lib.hid (by rw [hVE]; exact (BC.out.setCell HBB.out _).setCell HBB.out _)
    have HXE : Hid (GrAt VE 0 bg (.slice na2 XG.nodes.length nc2) (.slice la2 XG.links.length lc2) XG) := Lib.hid (by rw [hVE]; exact GrAt.make (Nat.zero_le _) HGB.out HXV.out)
    clear hVE d0 d1 d2 d3
    refine hK.out _ _ BE.out (fun hH => ?_)
    clear hK K
    try simp only [Act.put, List.setIfInBounds_toArray, List.set_cons_zero, List.set_cons_succ, List.getElem_toArray, List.getElem_cons_succ, List.getElem_cons_zero]
    refine tk 9 (by assumption) rfl (by kernel_rfl) (fun _ _ _ h => h) (fun V hV => by go_simp; try with_reducible rfl) ?_
    try simp only [Act.put, List.setIfInBounds_toArray, List.set_cons_zero, List.set_cons_succ, List.getElem_toArray, List.getElem_cons_succ, List.getElem_cons_zero]
    refine wpAnyH_done (by kernel_rfl) ?_ _
    clear HGB HXV BC HCI
    obtain ⟨g0, g1⟩ := HKG.out VE BE.out
    obtain ⟨c0, c1, c2, c3⟩ := cells_four (HKC.out VE BE.out)
    go_wp2_with fail
    refine (rApply_any G na nc la lc kd a b q VE (HIN.out VE BE.out) HQQ.out).mono ?_
    rintro e V4 ⟨vn, vl, rfl, hv, hb⟩
    rw [← HXG.out] at hv
    rw [← HCE.out]
    obtain ⟨na5, nc5, la5, lc5, rfl, rfl, hin5⟩ := hv.gin HXL.out.1 HXL.out.2
    obtain ⟨W5, hW5⟩ : ∃ W5, W5 = V4.alloc (.cells #[.slice na5 XG.nodes.length nc5, .slice la5 XG.links.length lc5] 25) := ⟨_, rfl⟩
    have b5 : Below V4.heap.size V4 W5 := by rw [hW5]; exact gAl _ _
    have r5 : W5.heap[V4.heap.size]? = some (.cells #[.slice na5 XG.nodes.length nc5, .slice la5 XG.links.length lc5] 25 (0, 0)) := by rw [hW5]; exact heap_alloc_new V4 _
    have hx5 := HXE.out.below (gNx hb b5)
    have HI1 := Lib.hid (GrAt.gin hx5 HXL.out.1 HXL.out.2)
    have HI2 := Lib.hid (hin5.below b5)
    have B5 := Lib.hid (gNx BE.out (gNx hb b5))
    clear hv hb b5 hin5 g0 g1 c0 c1 c2 c3 HXE
    go_upto_region 3 with (fail)
    rw [← hW5]
    clear hW5
    obtain ⟨e0, e1, -, -⟩ := hx5.cells
    obtain ⟨e2, e3, -, -⟩ := cells_two r5
    clear hx5 r5
    go_wp2_with fail
    refine (rSame_gin XG na2 na5 la2 la5 nc2 nc5 lc2 lc5 W5 HI1.out HI2.out).mono ?_
    rintro e V6 ⟨rfl, hb⟩
    have B6 := Lib.hid (gNx B5.out hb)
    clear hb e0 e1 e2 e3
    go_wp2_with fail
    refine (gAwake_any _).mono ?_
    rintro e V7 ⟨rfl, hb⟩
    have B7 := Lib.hid (gNx B6.out hb)
    clear hb
    go_wp2_with fail
    go_ret
    exact ⟨rfl, gNx HB2.out B7.out⟩
end Go.Proofs.Ytgjpgpjdealbeaa
end
