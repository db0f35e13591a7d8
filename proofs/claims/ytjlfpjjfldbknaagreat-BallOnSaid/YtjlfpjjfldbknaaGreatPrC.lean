/- Paths: rows that are the same; a graph of its own; awake. Paths: the document's Dists; the law of distances. -/
import Derived.Test.YtjlfpjjfldbknaaGreatPtJ
import Derived.Test.YtjlfpjjfldbknaaGreatPqA
import Derived.Test.YtjlfpjjfldbknaaGreatPrA
section
namespace Go.Proofs.YtjlfpjjfldbknaaGreat
open Go.RowKit Go.Lib Go.Fq Go.Pq Go.Iq Go.Nq Go.Ow
set_option linter.unusedVariables false
set_option linter.unusedSimpArgs false
set_option maxRecDepth 100000

theorem own1_cell {w : World} {base n : Nat} {t : TypeId} {v : Value} {xs : List Value} (h : Own w base t 1 v n xs) (hn : 0 < n) : ∃ g cap, v = .slice (some ⟨g, 0, none⟩) n cap ∧ ∀ i (hi : i < n) x, xs[i]? = some x → w.cell? ⟨g, i, none⟩ = some x := by
  obtain ⟨g, cap, e1, e2, e3, e4, e5⟩ := h.range hn
  exact ⟨g, cap, e1, fun i hi x hx => by simpa using e4 i x hx⟩
end Go.Proofs.YtjlfpjjfldbknaaGreat
end

section
namespace Go.Proofs.YtjlfpjjfldbknaaGreat
open Go.RowKit Go.Lib Go.Fq Go.Pq Go.Iq Go.Nq Go.Ow
set_option linter.unusedVariables false
set_option linter.unusedSimpArgs false
set_option maxRecDepth 100000

set_option maxHeartbeats 8000000 in
theorem rDists_any (G : Gr) (na : Option Addr) (nc : Nat) (la : Option Addr) (lc : Nat) (max : Nat) (fr : Int) (w : World) (hin : GrIn w G na la) (hm : max < 2 ^ 64) :
    Calls Tryz.prog 42 #[.agg #[.slice na G.nodes.length nc, .slice la G.links.length lc], .float .f64 max, .int .i64 fr] w fun e w' => DistsEnds w G (askE G max [fr]) (Nq.ahead G.nodes fr) (qn max) e w' := by
  obtain ⟨W1, hW1⟩ : ∃ W1, W1 = w.alloc (.cells #[.slice na G.nodes.length nc, .slice la G.links.length lc] 25) := ⟨_, rfl⟩
  have b1 : Below w.heap.size w W1 := by rw [hW1]; exact gAl _ _
  have s1 : w.heap.size < W1.heap.size := by rw [hW1]; simp
  have r1 : W1.heap[w.heap.size]? = some (.cells #[.slice na G.nodes.length nc, .slice la G.links.length lc] 25 (0, 0)) := by rw [hW1]; exact heap_alloc_new w _
  have HKG : Hid (∀ V, Below W1.heap.size W1 V → V.cell? ⟨w.heap.size, 0, none⟩ = some (.slice na G.nodes.length nc) ∧ V.cell? ⟨w.heap.size, 1, none⟩ = some (.slice la G.links.length lc)) := Lib.hid (fun V hV => by
    have := two_cells ((hV.block _ s1).trans r1)
    exact ⟨this.1, this.2.1⟩)
  have HB1 := Lib.hid b1
  have HIN : Hid (∀ V, Below W1.heap.size W1 V → GrIn V G na la) := Lib.hid (fun V hV => (hin.below b1).below hV)
  have HAK := Lib.hid (asked_any G na nc la lc max fr W1 (hin.below b1) hm)
  have HM := Lib.hid hm
  obtain ⟨g0, g1⟩ := HKG.out W1 (Below.refl _ _)
  clear hin hm b1 s1 r1
  go_enter Tryz.func42, Tryz.ntmps42
  go_upto_region 1 with (fail)
  rw [← hW1]
  clear hW1
  go_wp2_with fail
  refine HAK.out.mono ?_
  rintro e w2 ⟨rfl, hb2⟩
  have HB2 := Lib.hid hb2
  clear hb2 g0 g1
  by_cases hE : askE G max [fr] = 0
  · obtain ⟨a1, a2, a3⟩ := askE_zero hE
    have hhas : has G.nodes fr = true := by simpa using a3
    obtain ⟨lim, l1, l2, l3⟩ := limit_q max HM.out a1
    subst l3
    have HQ : Hid (qn (qw lim) = lim) := Lib.hid (qn_qw (by omega))
    have HD := Lib.hid (rdists_any G na nc la lc lim fr w2 (HIN.out w2 HB2.out) a2 hhas (by omega) l2)
    have HE := Lib.hid hE
    rw [hE]
    obtain ⟨g0, g1⟩ := HKG.out w2 HB2.out
    clear a1 a2 a3 l1 l2 hhas hE
    go_wp2_with fail
    refine HD.out.mono ?_
    rintro e w3 ⟨l, v, rfl, ho, hdp, hb3⟩
    have HF : Hid (DistsEnds w G (askE G (qw lim) [fr]) (Nq.ahead G.nodes fr) (qn (qw lim)) (.returned (.tuple #[v, .int .i64 0])) w3) := Lib.hid (Or.inr ⟨HE.out, l, v, rfl, ho.mono (gNx HB1.out HB2.out).size, by rw [HQ.out]; exact hdp, gNx HB1.out (gNx HB2.out hb3)⟩)
    obtain ⟨av, cv, rfl⟩ := ho.slice
    clear ho hdp hb3 g0 g1
    go_wp2_with fail
    refine bodyPost_ret (v := .tuple #[.slice av G.nodes.length cv, .int .i64 0]) (by simp [results, Tryz.results42, go_sem]) rfl ?_
    exact HF.out
  · obtain ⟨E, hEE⟩ : ∃ E, E = askE G max [fr] := ⟨_, rfl⟩
    have HEE := Lib.hid hEE
    rw [← hEE] at hE ⊢
    have HNE := Lib.hid hE
    have hz2 : (E != 0) = true := by simpa using hE
    clear hE hEE
    go_wp2_with fail
    refine bodyPost_ret (v := .tuple #[.slice none 0 0, .int .i64 E]) (by simp [results, Tryz.results42, go_sem]) rfl ?_
    rw [← HEE.out]
    exact Or.inl ⟨HNE.out, rfl, gNx HB1.out HB2.out⟩
end Go.Proofs.YtjlfpjjfldbknaaGreat
end
