/- Graphs: the law of neighbours. -/
import Derived.Test.YtgjpgpjdealbeaaNhV
import Derived.Test.YtgjpgpjdealbeaaNgX
namespace Go.Proofs.Ytgjpgpjdealbeaa
open Go.RowKit Go.Lib Go.Fq Go.Iq Go.Nq Go.Ow
set_option linter.unusedVariables false
set_option linter.unusedSimpArgs false
set_option maxRecDepth 100000

set_option maxHeartbeats 2000000 in
theorem rSameLinks_any (L : List Lk) (a1 a2 : Option Addr) (c1 c2 : Nat) (w : World) (h1 : LinksIn w w.heap.size L a1) (h2 : LinksIn w w.heap.size L a2) (hl : L.length < 4611686018427387904) :
    Calls Try.prog 23 #[.slice a1 L.length c1, .slice a2 L.length c2] w fun e w' => e = .returned (.bool true) ∧ Below w.heap.size w w' := by
  have HS := Lib.hid (rSame_any ⟨[], L⟩ none none a1 a2 0 0 c1 c2 w (Or.inl rfl) (Or.inl rfl) h1 h2 (by simp) hl)
  clear h1 h2 hl
  go_enter Try.func23, Try.ntmps23
  go_wp2_with fail
  refine HS.out.mono ?_
  rintro e V1 ⟨rfl, hb⟩
  have B1 := Lib.hid hb
  clear hb
  go_wp2_with fail
  go_ret
  exact ⟨rfl, B1.out⟩
set_option maxHeartbeats 4000000 in
theorem law_neighbours (G : Gr) (na : Option Addr) (nc : Nat) (la : Option Addr) (lc : Nat) (x : Int) (w : World) (hin : GrIn w G na la) :
    Calls Try.prog 7 #[.agg #[.slice na G.nodes.length nc, .slice la G.links.length lc], .int .i64 x] w fun e w' => e = .returned (.bool true) ∧ Below w.heap.size w w' := by
  obtain ⟨W1, hW1⟩ : ∃ W1, W1 = w.alloc (.cells #[.slice na G.nodes.length nc, .slice la G.links.length lc] 25) := ⟨_, rfl⟩
  have hb1 : Below w.heap.size w W1 := by rw [hW1]; exact gAl _ _
  have hs1 : w.heap.size < W1.heap.size := by rw [hW1]; simp
  have hc1 : W1.heap[w.heap.size]? = some (.cells #[.slice na G.nodes.length nc, .slice la G.links.length lc] 25 (0, 0)) := by rw [hW1]; exact heap_alloc_new w _
  have HKG : Hid (∀ V, Below W1.heap.size W1 V → V.cell? ⟨w.heap.size, 0, none⟩ = some (.slice na G.nodes.length nc) ∧ V.cell? ⟨w.heap.size, 1, none⟩ = some (.slice la G.links.length lc)) := Lib.hid (fun V h => by
    have hh := (h.block _ hs1).trans hc1
    exact ⟨by rw [cell_of_row V _ 0 _ _ (0, 0) hh]; rfl, by rw [cell_of_row V _ 1 _ _ (0, 0) hh]; rfl⟩)
  have HB1 := Lib.hid hb1
  have HIN : Hid (∀ V, Below W1.heap.size W1 V → GrIn V G na la) := Lib.hid (fun V hV => hin.below (gNx hb1 hV))
  have HQ := Lib.hid hin.wts
  have HSZ : Hid (G.nodes.length * 16 ≤ 140737488351232 ∧ G.links.length * 32 ≤ 140737488351232) := Lib.hid ⟨hin.n1, hin.l1⟩
  obtain ⟨L, hL⟩ : ∃ L, L = nbL G x := ⟨_, rfl⟩
  obtain ⟨ce, hce⟩ : ∃ ce, ce = nbE G x := ⟨_, rfl⟩
  have HSL : Hid (L.length < 4611686018427387904) := Lib.hid (by rw [hL]; have := nbL_len G x; have := HSZ.out; omega)
  have HL := Lib.hid hL
  have HCE := Lib.hid hce
  have z0 : (ce == ce) = true := by simp
  obtain ⟨g0, g1⟩ := HKG.out W1 (Below.refl _ _)
  clear hin hb1 hs1 hc1 hL hce
  go_enter Try.func7, Try.ntmps7
  go_upto_region 1 with (fail)
  rw [← hW1]
  clear hW1
  go_wp2_with fail
  refine (rCopy_any G na la nc lc W1 (HIN.out _ (Below.refl _ _)).nodes (HIN.out _ (Below.refl _ _)).links HQ.out (by have := HSZ.out; omega) (by have := HSZ.out; omega)).mono ?_
  rintro e V1 ⟨vn, vl, rfl, hv, hb⟩
  obtain ⟨na1, nc1, la1, lc1, rfl, rfl, hin1⟩ := hv.gin HSZ.out.1 HSZ.out.2
  have B1 := Lib.hid hb
  have HI1 := Lib.hid hin1
  clear hv hb hin1 g0 g1
  go_wp2_with fail
  refine (gNeighbours_any G na1 nc1 la1 lc1 x V1 HI1.out).mono ?_
  rintro e V2 ⟨v2, rfl, ho, hw2, hb⟩
  rw [← HL.out] at ho
  rw [← HCE.out]
  obtain ⟨a2, c2, rfl, hi2, -⟩ := ownL_in ho
  have HI2 := Lib.hid hi2
  have B2 := Lib.hid (gNx B1.out hb)
  clear ho hw2 hb hi2 HI1
  obtain ⟨g0, g1⟩ := HKG.out V2 B2.out
  go_wp2_with fail
  refine (rNeighbours_any G na nc la lc x V2 (HIN.out V2 B2.out)).mono ?_
  rintro e V3 ⟨v3, rfl, ho, hw3, hb⟩
  rw [← HL.out] at ho
  rw [← HCE.out]
  obtain ⟨a3, c3, rfl, hi3, -⟩ := ownL_in ho
  have HI3 := Lib.hid hi3
  have HI2 : Hid (LinksIn V3 V3.heap.size L a2) := Lib.hid (HI2.out.kept (fun i hi => hb.block i hi) hb.size)
  have B3 := Lib.hid (gNx B2.out hb)
  clear ho hw3 hb hi3 g0 g1
  go_wp2_with fail
  refine (rSameLinks_any L a2 a3 c2 c3 V3 HI2.out HI3.out HSL.out).mono ?_
  rintro e V4 ⟨rfl, hb⟩
  have B4 := Lib.hid (gNx B3.out hb)
  clear hb
  go_wp2_with fail
  refine (gAwake_any _).mono ?_
  rintro e V5 ⟨rfl, hb⟩
  have B5 := Lib.hid (gNx B4.out hb)
  clear hb
  go_wp2_with fail
  go_ret
  exact ⟨rfl, gNx HB1.out B5.out⟩
end Go.Proofs.Ytgjpgpjdealbeaa
