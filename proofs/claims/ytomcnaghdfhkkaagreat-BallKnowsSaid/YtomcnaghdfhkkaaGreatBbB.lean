/- Balls: the document's Homes, SameHomes; the law of homes. -/
import Derived.Test.YtomcnaghdfhkkaaGreatBbA
import Derived.Test.YtomcnaghdfhkkaaGreatNgW
namespace Go.Proofs.YtomcnaghdfhkkaaGreat
open Go.RowKit Go.Lib Go.Fq Go.Pq Go.Iq Go.Nq Go.Ow Go.Bq
set_option linter.unusedVariables false
set_option linter.unusedSimpArgs false
set_option maxRecDepth 100000

theorem row_cells4 {w : World} {base n : Nat} {v : Value} {l : List (Option Nat)} (ho : Own w base 26 1 v n (dRow l)) (hl : l.length = n) (hn : 0 < n) : ∃ dg dc, v = .slice (some ⟨dg, 0, none⟩) n dc ∧ ∀ V, Below w.heap.size w V → ∀ i, i < n → V.cell? ⟨dg, i, none⟩ = some (.float .f64 (dw (g_ l i))) := by
  obtain ⟨dg, dc, rfl, -⟩ := own1_cell ho hn
  refine ⟨dg, dc, rfl, fun V hV i hi => ?_⟩
  obtain ⟨g', c', e1, e2⟩ := own1_cell (ho.below hV) hn
  simp only [Value.slice.injEq, Option.some.injEq, Addr.mk.injEq, and_true, true_and] at e1
  obtain ⟨rfl, rfl⟩ := e1
  exact e2 i hi _ (dRow_at (by rw [hl]; exact hi))
/-- Dists of a router of a graph that may be. -/
theorem rbDists_any (i max : Nat) (G : Gr) (na : Option Addr) (nc : Nat) (la : Option Addr) (lc : Nat) (w : World) (hin : GrIn w G na la) (hz : checkG G = 0) (hl : limitF max = 0) (hm : max < 2 ^ 64) (hi : i < G.nodes.length) :
    Calls Tryz.prog 33 #[.agg #[.slice na G.nodes.length nc, .slice la G.links.length lc], .float .f64 max, .int .i64 (idf G.nodes i : Int)] w fun e w' => ∃ b c, e = .returned (.tuple #[.slice (some ⟨b, 0, none⟩) G.nodes.length c, .int .i64 0]) ∧ Below w.heap.size w w' ∧ ∀ V, Below w'.heap.size w' V → ∀ j, j < G.nodes.length → V.cell? ⟨b, j, none⟩ = some (.float .f64 (dw (g_ (dst G (qn max) i) j))) := by
  have n3 := (check_zero.1 hz).2.2.1
  obtain ⟨a1, a2⟩ := aheadOf n3 hi
  have hE : askE G max [(idf G.nodes i : Int)] = 0 := askE_ok hl hz (by simp [a1])
  have hp := rDists_any G na nc la lc max (idf G.nodes i : Int) w hin hm
  rw [hE, a2] at hp
  refine hp.mono ?_
  rintro e w' (⟨hne, -⟩ | ⟨-, l, v, rfl, ho, hdp, hb⟩)
  · exact absurd rfl hne
  have hll := dst_is hz hin.wts hdp
  subst hll
  obtain ⟨dg, dc, rfl, hc⟩ := row_cells4 ho (dst_len hz hin.wts _ _) (by omega)
  exact ⟨dg, dc, rfl, hb, hc⟩
end Go.Proofs.YtomcnaghdfhkkaaGreat
