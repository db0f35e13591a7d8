/- Graphs: the law of lives. -/
import Derived.Test.YtgjpgpjdealbeaaNhC
import Derived.Test.YtgjpgpjdealbeaaNhD
import Derived.Test.YtgjpgpjdealbeaaNgX
namespace Go.Proofs.Ytgjpgpjdealbeaa
open Go.RowKit Go.Lib Go.Fq Go.Iq Go.Nq Go.Ow
set_option linter.unusedVariables false
set_option linter.unusedSimpArgs false
set_option maxRecDepth 100000

theorem GrV.gin {w : World} {base : Nat} {vn vl : Value} {G : Gr} (h : GrV w base vn vl G) (n1 : G.nodes.length * 16 ≤ 140737488351232) (l1 : G.links.length * 32 ≤ 140737488351232) : ∃ na nc la lc, vn = .slice na G.nodes.length nc ∧ vl = .slice la G.links.length lc ∧ GrIn w G na la := by
  obtain ⟨na, nc, rfl, hNI, -⟩ := ownN_in h.nodes
  obtain ⟨la, lc, rfl, hLI, -⟩ := ownL_in h.links
  exact ⟨na, nc, la, lc, rfl, rfl, hNI, hLI, h.wts, n1, l1⟩
theorem liveA_len (G : Gr) : (liveA G).nodes.length ≤ G.nodes.length ∧ (liveA G).links.length ≤ G.links.length := by
  unfold liveA
  split
  · exact ⟨List.length_filter_le _ _, List.length_filter_le _ _⟩
  · exact ⟨Nat.zero_le _, Nat.zero_le _⟩
theorem rSame_gin (G : Gr) (na1 na2 la1 la2 : Option Addr) (nc1 nc2 lc1 lc2 : Nat) (w : World) (h1 : GrIn w G na1 la1) (h2 : GrIn w G na2 la2) :
    Calls Try.prog 16 #[.agg #[.slice na1 G.nodes.length nc1, .slice la1 G.links.length lc1], .agg #[.slice na2 G.nodes.length nc2, .slice la2 G.links.length lc2]] w fun e w' => e = .returned (.bool true) ∧ Below w.heap.size w w' :=
  rSame_any G na1 na2 la1 la2 nc1 nc2 lc1 lc2 w h1.nodes h2.nodes h1.links h2.links (by have := h1.n1; omega) (by have := h1.l1; omega)
set_option maxHeartbeats 4000000 in
theorem law_lives (G : Gr) (na : Option Addr) (nc : Nat) (la : Option Addr) (lc : Nat) (w : World) (hin : GrIn w G na la) :
    Calls Try.prog 6 #[.agg #[.slice na G.nodes.length nc, .slice la G.links.length lc]] w fun e w' => e = .returned (.bool true) ∧ Below w.heap.size w w' := by
  obtain ⟨W1, hW1⟩ : ∃ W1, W1 = w.alloc (.cells #[.slice na G.nodes.length nc, .slice la G.links.length lc] 25) := ⟨_, rfl⟩
  have hb1 : Below w.heap.size w W1 := by rw [hW1]; exact gAl _ _
  have hs1 : w.heap.size < W1.heap.size := by rw [hW1]; simp
  have hc1 : W1.heap[w.heap.size]? = some (.cells #[.slice na G.nodes.length nc, .slice la G.links.length lc] 25 (0, 0)) := by rw [hW1]; exact heap_alloc_new w _
  have HKG : Hid (∀ V, Below W1.heap.size W1 V → V.cell? ⟨w.heap.size, 0, none⟩ = some (.slice na G.nodes.length nc) ∧ V.cell? ⟨w.heap.size, 1, none⟩ = some (.slice la G.links.length lc)) := Lib.hid (fun V h => by
    have hh := (h.block _ hs1).trans hc1
    exact ⟨by rw [cell_of_row V _ 0 _ _ (0, 0) hh]; rfl, by rw [cell_of_row V _ 1 _ _ (0, 0) hh]; rfl⟩)
  have HB1 := Lib.hid hb1
  have HIN : Hid (∀ V, Below W1.heap.size W1 V → GrIn V G na la) := Lib.hid (fun V hV => hin.below (gNx hb1 hV))
  have HQ := Lib.hid hin.wts
  have HSZ : Hid (G.nodes.length * 16 ≤ 140737488351232 ∧ G.links.length * 32 ≤ 140737488351232) := Lib.hid ⟨hin.n1, hin.l1⟩
  obtain ⟨L, hL⟩ : ∃ L, L = liveA G := ⟨_, rfl⟩
  have HSL : Hid (L.nodes.length * 16 ≤ 140737488351232 ∧ L.links.length * 32 ≤ 140737488351232) := Lib.hid (by rw [hL]; have := liveA_len G; have := HSZ.out; omega)
  obtain ⟨ce, hce⟩ : ∃ ce, ce = checkG G := ⟨_, rfl⟩
  have HCC : Hid (ce = 0 → checkG L = 0 ∧ liveA L = L) := Lib.hid (fun h => by
    have hz : checkG G = 0 := by rw [← hce]; exact h
    have hk := live_keeps hz
    rw [hL, liveA_ok hz]
    exact ⟨hk.1, by rw [liveA_ok hk.1]; exact hk.2⟩)
  have HL := Lib.hid hL
  have HCE := Lib.hid hce
  have z0 : (ce != ce) = false := by simp
  obtain ⟨g0, g1⟩ := HKG.out W1 (Below.refl _ _)
  clear hin hb1 hs1 hc1 hL hce
  go_enter Try.func6, Try.ntmps6
  go_upto_region 1 with (fail)
  rw [← hW1]
  clear hW1
  go_wp2_with fail
  refine (rCopy_any G na la nc lc W1 (HIN.out _ (Below.refl _ _)).nodes (HIN.out _ (Below.refl _ _)).links HQ.out (by have := HSZ.out; omega) (by have := HSZ.out; omega)).mono ?_
  rintro e V1 ⟨vn, vl, rfl, hv, hb⟩
  obtain ⟨na1, nc1, la1, lc1, rfl, rfl, hin1⟩ := hv.gin HSZ.out.1 HSZ.out.2
  have B1 := Lib.hid hb
  have HI1 := Lib.hid hin1
  clear hv hb hin1 g0 g1
  go_wp2_with fail
  refine (gLive_any G na1 nc1 la1 lc1 V1 HI1.out).mono ?_
  rintro e V2 ⟨vn, vl, rfl, hv, hb⟩
  rw [← HL.out] at hv
  rw [← HCE.out]
  obtain ⟨na2, nc2, la2, lc2, rfl, rfl, hin2⟩ := hv.gin HSL.out.1 HSL.out.2
  have B2 := Lib.hid (gNx B1.out hb)
  clear hv hb HI1 B1
  obtain ⟨W3, hW3⟩ : ∃ W3, W3 = V2.alloc (.cells #[.slice na2 L.nodes.length nc2, .slice la2 L.links.length lc2] 25) := ⟨_, rfl⟩
  have b3 : Below V2.heap.size V2 W3 := by rw [hW3]; exact gAl _ _
  have s3 : V2.heap.size < W3.heap.size := by rw [hW3]; simp
  have r3 : W3.heap[V2.heap.size]? = some (.cells #[.slice na2 L.nodes.length nc2, .slice la2 L.links.length lc2] 25 (0, 0)) := by rw [hW3]; exact heap_alloc_new V2 _
  have HX : Hid (∀ V, Below W3.heap.size W3 V → (V.cell? ⟨V2.heap.size, 0, none⟩ = some (.slice na2 L.nodes.length nc2) ∧ V.cell? ⟨V2.heap.size, 1, none⟩ = some (.slice la2 L.links.length lc2)) ∧ GrIn V L na2 la2) := Lib.hid (fun V h => by
    have hh := (h.block _ s3).trans r3
    exact ⟨⟨by rw [cell_of_row V _ 0 _ _ (0, 0) hh]; rfl, by rw [cell_of_row V _ 1 _ _ (0, 0) hh]; rfl⟩, hin2.below (gNx b3 h)⟩)
  have B3 := Lib.hid (gNx B2.out b3)
  clear b3 s3 r3 hin2 B2
  go_upto_region 2 with (fail)
  rw [← hW3]
  clear hW3
  obtain ⟨g0, g1⟩ := HKG.out W3 B3.out
  go_wp2_with fail
  refine (rLive_any G na nc la lc W3 (HIN.out W3 B3.out)).mono ?_
  rintro e V4 ⟨vn, vl, rfl, hv, hb⟩
  rw [← HL.out] at hv
  rw [← HCE.out]
  obtain ⟨na5, nc5, la5, lc5, rfl, rfl, hin5⟩ := hv.gin HSL.out.1 HSL.out.2
  have B4 := Lib.hid (gNx B3.out hb)
  obtain ⟨W5, hW5⟩ : ∃ W5, W5 = V4.alloc (.cells #[.slice na5 L.nodes.length nc5, .slice la5 L.links.length lc5] 25) := ⟨_, rfl⟩
  have b5 : Below V4.heap.size V4 W5 := by rw [hW5]; exact gAl _ _
  have s5 : V4.heap.size < W5.heap.size := by rw [hW5]; simp
  have r5 : W5.heap[V4.heap.size]? = some (.cells #[.slice na5 L.nodes.length nc5, .slice la5 L.links.length lc5] 25 (0, 0)) := by rw [hW5]; exact heap_alloc_new V4 _
  have HY : Hid (∀ V, Below W5.heap.size W5 V → (V.cell? ⟨V4.heap.size, 0, none⟩ = some (.slice na5 L.nodes.length nc5) ∧ V.cell? ⟨V4.heap.size, 1, none⟩ = some (.slice la5 L.links.length lc5)) ∧ GrIn V L na5 la5) := Lib.hid (fun V h => by
    have hh := (h.block _ s5).trans r5
    exact ⟨⟨by rw [cell_of_row V _ 0 _ _ (0, 0) hh]; rfl, by rw [cell_of_row V _ 1 _ _ (0, 0) hh]; rfl⟩, hin5.below (gNx b5 h)⟩)
  have B35 := Lib.hid (gNx hb b5)
  have B5 := Lib.hid (gNx B3.out B35.out)
  clear hv hb b5 s5 r5 hin5 g0 g1 B4
  go_upto_region 3 with (fail)
  rw [← hW5]
  clear hW5
  obtain ⟨⟨g0, g1⟩, hgi0⟩ := HX.out W5 B35.out
  obtain ⟨⟨g2, g3⟩, hgi1⟩ := HY.out W5 (Below.refl _ _)
  have HG0 := Lib.hid hgi0
  have HG1 := Lib.hid hgi1
  clear hgi0 hgi1
  by_cases hz : ce = 0
  · subst hz
    obtain ⟨hl1, hl2⟩ := HCC.out rfl
    have HL1 := Lib.hid hl1
    have HL2 := Lib.hid hl2
    clear hl1 hl2 HCC z0
    go_wp2_with fail
    refine (rSame_gin L na2 na5 la2 la5 nc2 nc5 lc2 lc5 W5 HG0.out HG1.out).mono ?_
    rintro e V6 ⟨rfl, hb⟩
    have B6 := Lib.hid hb
    clear hb g0 g1 g2 g3
    obtain ⟨⟨g0, g1⟩, hgi0⟩ := HX.out V6 (gNx B35.out B6.out)
    have HI6 := Lib.hid hgi0
    clear hgi0
    go_wp2_with fail
    refine (gLive_any L na2 nc2 la2 lc2 V6 HI6.out).mono ?_
    rintro e V7 ⟨vn, vl, rfl, hv, hb⟩
    rw [HL2.out] at hv
    rw [HL1.out]
    obtain ⟨na7, nc7, la7, lc7, rfl, rfl, hin7⟩ := hv.gin HSL.out.1 HSL.out.2
    obtain ⟨W8, hW8⟩ : ∃ W8, W8 = V7.alloc (.cells #[.slice na7 L.nodes.length nc7, .slice la7 L.links.length lc7] 25) := ⟨_, rfl⟩
    have b8 : Below V7.heap.size V7 W8 := by rw [hW8]; exact gAl _ _
    have r8 : W8.heap[V7.heap.size]? = some (.cells #[.slice na7 L.nodes.length nc7, .slice la7 L.links.length lc7] 25 (0, 0)) := by rw [hW8]; exact heap_alloc_new V7 _
    have B8 := Lib.hid (gNx B6.out (gNx hb b8))
    have HI8 := Lib.hid (hin7.below b8)
    clear hv hb b8 hin7 g0 g1
    go_upto_region 8 with (fail)
    rw [← hW8]
    clear hW8
    have e0 : W8.cell? ⟨V7.heap.size, 0, none⟩ = some (.slice na7 L.nodes.length nc7) := by rw [cell_of_row W8 _ 0 _ _ (0, 0) r8]; rfl
    have e1 : W8.cell? ⟨V7.heap.size, 1, none⟩ = some (.slice la7 L.links.length lc7) := by rw [cell_of_row W8 _ 1 _ _ (0, 0) r8]; rfl
    obtain ⟨⟨g0, g1⟩, hgi0⟩ := HX.out W8 (gNx B35.out B8.out)
    have HI9 := Lib.hid hgi0
    clear hgi0 r8
    go_wp2_with fail
    refine (rSame_gin L na7 na2 la7 la2 nc7 nc2 lc7 lc2 W8 HI8.out HI9.out).mono ?_
    rintro e V9 ⟨rfl, hb⟩
    have B9 := Lib.hid (gNx B8.out hb)
    clear hb g0 g1 e0 e1
    go_wp2_with fail
    refine (gAwake_any _).mono ?_
    rintro e V10 ⟨rfl, hb⟩
    have B10 := Lib.hid (gNx B9.out hb)
    clear hb
    go_wp2_with fail
    go_ret
    exact ⟨rfl, gNx HB1.out (gNx B5.out B10.out)⟩
  · have hz2 : (ce != 0) = true := by simpa using hz
    clear hz
    go_wp2_with fail
    refine (rSame_gin L na2 na5 la2 la5 nc2 nc5 lc2 lc5 W5 HG0.out HG1.out).mono ?_
    rintro e V6 ⟨rfl, hb⟩
    have B6 := Lib.hid hb
    clear hb g0 g1 g2 g3
    go_wp2_with fail
    refine (gAwake_any _).mono ?_
    rintro e V10 ⟨rfl, hb⟩
    have B10 := Lib.hid (gNx B6.out hb)
    clear hb
    go_wp2_with fail
    go_ret
    exact ⟨rfl, gNx HB1.out (gNx B5.out B10.out)⟩
end Go.Proofs.Ytgjpgpjdealbeaa
