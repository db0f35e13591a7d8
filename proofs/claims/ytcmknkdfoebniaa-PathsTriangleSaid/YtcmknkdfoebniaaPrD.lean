/- Paths: the document's Dists; the law of distances. -/
import Derived.Test.YtcmknkdfoebniaaPrB
import Derived.Test.YtcmknkdfoebniaaPrC
namespace Go.Proofs.Ytcmknkdfoebniaa
open Go.RowKit Go.Lib Go.Fq Go.Pq Go.Iq Go.Nq Go.Ow
set_option linter.unusedVariables false
set_option linter.unusedSimpArgs false
set_option maxRecDepth 100000

set_option maxHeartbeats 8000000 in
theorem rDists_any (G : Gr) (na : Option Addr) (nc : Nat) (la : Option Addr) (lc : Nat) (max : Nat) (fr : Int) (w : World) (hin : GrIn w G na la) (hm : max < 2 ^ 64) :
    Calls Try.prog 12 #[.agg #[.slice na G.nodes.length nc, .slice la G.links.length lc], .float .f64 max, .int .i64 fr] w fun e w' => DistsEnds w G (askE G max [fr]) (Nq.ahead G.nodes fr) (qn max) e w' := by
  obtain ⟨W1, hW1⟩ : ∃ W1, W1 = w.alloc (.cells #[.slice na G.nodes.length nc, .slice la G.links.length lc] 25) := ⟨_, rfl⟩
  have b1 : Below w.heap.size w W1 := by rw [hW1]; exact gAl _ _
  have s1 : w.heap.size < W1.heap.size := by rw [hW1]; simp
  have r1 : W1.heap[w.heap.size]? = some (.cells #[.slice na G.nodes.length nc, .slice la G.links.length lc] 25 (0, 0)) := by rw [hW1]; exact heap_alloc_new w _
  have HKG : Hid (∀ V, Below W1.heap.size W1 V → V.cell? ⟨w.heap.size, 0, none⟩ = some (.slice na G.nodes.length nc) ∧ V.cell? ⟨w.heap.size, 1, none⟩ = some (.slice la G.links.length lc)) := Lib.hid (fun V hV => by
    have := two_cells ((hV.block _ s1).trans r1)
    exact ⟨this.1, this.2.1⟩)
  have HB1 := Lib.hid b1
  have HIN : Hid (∀ V, Below W1.heap.size W1 V → GrIn V G na la) := Lib.hid (fun V hV => (hin.below b1).below hV)
  have HAK := Lib.hid (asked_any G na nc la lc max fr W1 (hin.below b1) hm)
  have HM := Lib.hid hm
  obtain ⟨g0, g1⟩ := HKG.out W1 (Below.refl _ _)
  clear hin hm b1 s1 r1
  go_enter Try.func12, Try.ntmps12
  go_upto_region 1 with (fail)
  rw [← hW1]
  clear hW1
  go_wp2_with fail
  refine HAK.out.mono ?_
  rintro e w2 ⟨rfl, hb2⟩
  have HB2 := Lib.hid hb2
  clear hb2 g0 g1
  by_cases hE : askE G max [fr] = 0
  · obtain ⟨a1, a2, a3⟩ := askE_zero hE
    have hhas : has G.nodes fr = true := by simpa using a3
    obtain ⟨lim, l1, l2, l3⟩ := limit_q max HM.out a1
    subst l3
    have HQ : Hid (qn (qw lim) = lim) := Lib.hid (qn_qw (by omega))
    have HD := Lib.hid (rdists_any G na nc la lc lim fr w2 (HIN.out w2 HB2.out) a2 hhas (by omega) l2)
    have HE := Lib.hid hE
    rw [hE]
    obtain ⟨g0, g1⟩ := HKG.out w2 HB2.out
    clear a1 a2 a3 l1 l2 hhas hE
    go_wp2_with fail
    refine HD.out.mono ?_
    rintro e w3 ⟨l, v, rfl, ho, hdp, hb3⟩
    have HF : Hid (DistsEnds w G (askE G (qw lim) [fr]) (Nq.ahead G.nodes fr) (qn (qw lim)) (.returned (.tuple #[v, .int .i64 0])) w3) := Lib.hid (Or.inr ⟨HE.out, l, v, rfl, ho.mono (gNx HB1.out HB2.out).size, by rw [HQ.out]; exact hdp, gNx HB1.out (gNx HB2.out hb3)⟩)
    obtain ⟨av, cv, rfl⟩ := ho.slice
    clear ho hdp hb3 g0 g1
    go_wp2_with fail
    refine bodyPost_ret (v := .tuple #[.slice av G.nodes.length cv, .int .i64 0]) (by simp [results, Try.results12, go_sem]) rfl ?_
    exact HF.out
  · obtain ⟨E, hEE⟩ : ∃ E, E = askE G max [fr] := ⟨_, rfl⟩
    have HEE := Lib.hid hEE
    rw [← hEE] at hE ⊢
    have HNE := Lib.hid hE
    have hz2 : (E != 0) = true := by simpa using hE
    clear hE hEE
    go_wp2_with fail
    refine bodyPost_ret (v := .tuple #[.slice none 0 0, .int .i64 E]) (by simp [results, Try.results12, go_sem]) rfl ?_
    rw [← HEE.out]
    exact Or.inl ⟨HNE.out, rfl, gNx HB1.out HB2.out⟩
theorem floats_none (w : World) : Calls Try.prog 13 #[.slice none 0 0, .slice none 0 0] w fun e w' => e = .returned (.bool true) ∧ Below w.heap.size w w' :=
  floats_same w.heap.size w.heap.size _ _ [] 0 w (Or.inl ⟨rfl, rfl, none, rfl⟩) (Or.inl ⟨rfl, rfl, none, rfl⟩) rfl (by omega)
set_option maxHeartbeats 8000000 in
theorem law_pdists (G : Gr) (na : Option Addr) (nc : Nat) (la : Option Addr) (lc : Nat) (max : Nat) (fr : Int) (w : World) (hin : GrIn w G na la) (hm : max < 2 ^ 64) (_ : (Lit.int .i64 fr).wf = true) :
    Calls Try.prog 3 #[.agg #[.slice na G.nodes.length nc, .slice la G.links.length lc], .float .f64 max, .int .i64 fr] w fun e w' => e = .returned (.bool true) ∧ Below w.heap.size w w' := by
  obtain ⟨W1, hW1⟩ : ∃ W1, W1 = w.alloc (.cells #[.slice na G.nodes.length nc, .slice la G.links.length lc] 25) := ⟨_, rfl⟩
  have b1 : Below w.heap.size w W1 := by rw [hW1]; exact gAl _ _
  have s1 : w.heap.size < W1.heap.size := by rw [hW1]; simp
  have r1 : W1.heap[w.heap.size]? = some (.cells #[.slice na G.nodes.length nc, .slice la G.links.length lc] 25 (0, 0)) := by rw [hW1]; exact heap_alloc_new w _
  have HKG : Hid (∀ V, Below W1.heap.size W1 V → V.cell? ⟨w.heap.size, 0, none⟩ = some (.slice na G.nodes.length nc) ∧ V.cell? ⟨w.heap.size, 1, none⟩ = some (.slice la G.links.length lc)) := Lib.hid (fun V hV => by
    have := two_cells ((hV.block _ s1).trans r1)
    exact ⟨this.1, this.2.1⟩)
  have HB1 := Lib.hid b1
  have HP := Lib.hid (pDists_any G na nc la lc max fr W1 (hin.below b1) hm)
  have HR := Lib.hid (fun V (hV : Below W1.heap.size W1 V) => rDists_any G na nc la lc max fr V ((hin.below b1).below hV) hm)
  have HNL : Hid (askE G max [fr] = 0 → G.nodes.length ≤ 256) := Lib.hid (fun h => (check_zero.1 (askE_zero h).2.1).1)
  have HAW := Lib.hid pAwake_any
  obtain ⟨g0, g1⟩ := HKG.out W1 (Below.refl _ _)
  generalize askE G max [fr] = E at *
  clear hin hm b1 s1 r1
  go_enter Try.func3, Try.ntmps3
  go_upto_region 1 with (fail)
  rw [← hW1]
  clear hW1
  go_wp2_with fail
  refine HP.out.mono ?_
  rintro e w2 (⟨hne, rfl, hb2⟩ | ⟨hE, l, v, rfl, ho, hdp, hb2⟩)
  · have HB2 := Lib.hid hb2
    have HNE := Lib.hid hne
    clear hb2 hne g0 g1
    obtain ⟨g0, g1⟩ := HKG.out w2 HB2.out
    go_wp2_with fail
    refine (HR.out w2 HB2.out).mono ?_
    rintro e w3 (⟨-, rfl, hb3⟩ | ⟨hE, -⟩)
    case inr => exact absurd hE HNE.out
    have HB3 := Lib.hid (gNx HB1.out (gNx HB2.out hb3))
    clear hb3 g0 g1
    go_wp2_with fail
    refine (floats_none w3).mono ?_
    rintro e w4 ⟨rfl, hb4⟩
    have HB4 := Lib.hid (gNx HB3.out hb4)
    clear hb4
    go_wp2_with fail
    refine (HAW.out w4).mono ?_
    rintro e w5 ⟨rfl, hb5⟩
    have HB5 := Lib.hid (gNx HB4.out hb5)
    clear hb5
    go_wp2_with fail
    go_ret
    exact ⟨rfl, HB5.out⟩
  · subst hE
    have HB2 := Lib.hid hb2
    have HO := Lib.hid ho
    have HDP := Lib.hid hdp
    have HN := Lib.hid (HNL.out rfl)
    clear hb2 ho hdp g0 g1
    obtain ⟨g0, g1⟩ := HKG.out w2 HB2.out
    go_wp2_with fail
    refine (HR.out w2 HB2.out).mono ?_
    rintro e w3 (⟨hne, -⟩ | ⟨-, l2, v2, rfl, ho2, hdp2, hb3⟩)
    case inl => exact absurd rfl hne
    have hll := hdp2.unique HDP.out
    subst hll
    have HFS := Lib.hid (floats_same _ _ v v2 l2 G.nodes.length w3 (HO.out.below hb3) ho2 HDP.out.1 (by have := HN.out; omega))
    have HB3 := Lib.hid (gNx HB1.out (gNx HB2.out hb3))
    obtain ⟨av, cv, rfl⟩ := HO.out.slice
    obtain ⟨av2, cv2, rfl⟩ := ho2.slice
    clear ho2 hdp2 hb3 g0 g1
    go_wp2_with fail
    refine HFS.out.mono ?_
    rintro e w4 ⟨rfl, hb4⟩
    have HB4 := Lib.hid (gNx HB3.out hb4)
    clear hb4
    go_wp2_with fail
    refine (HAW.out w4).mono ?_
    rintro e w5 ⟨rfl, hb5⟩
    have HB5 := Lib.hid (gNx HB4.out hb5)
    clear hb5
    go_wp2_with fail
    go_ret
    exact ⟨rfl, HB5.out⟩
end Go.Proofs.Ytcmknkdfoebniaa
