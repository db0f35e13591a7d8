/- Balls: the document's Homes, SameHomes; the law of homes. -/
import Derived.Test.YtjlfpjjfldbknaaGreatBbA
import Derived.Test.YtjlfpjjfldbknaaGreatNgW
namespace Go.Proofs.YtjlfpjjfldbknaaGreat
open Go.RowKit Go.Lib Go.Fq Go.Pq Go.Iq Go.Nq Go.Ow Go.Bq
set_option linter.unusedVariables false
set_option linter.unusedSimpArgs false
set_option maxRecDepth 100000

theorem row_cells4 {w : World} {base n : Nat} {v : Value} {l : List (Option Nat)} (ho : Own w base 26 1 v n (dRow l)) (hl : l.length = n) (hn : 0 < n) : ∃ dg dc, v = .slice (some ⟨dg, 0, none⟩) n dc ∧ ∀ V, Below w.heap.size w V → ∀ i, i < n → V.cell? ⟨dg, i, none⟩ = some (.float .f64 (dw (g_ l i))) := by
  obtain ⟨dg, dc, rfl, -⟩ := own1_cell ho hn
  refine ⟨dg, dc, rfl, fun V hV i hi => ?_⟩
  obtain ⟨g', c', e1, e2⟩ := own1_cell (ho.below hV) hn
  simp only [Value.slice.injEq, Option.some.injEq, Addr.mk.injEq, and_true, true_and] at e1
  obtain ⟨rfl, rfl⟩ := e1
  exact e2 i hi _ (dRow_at (by rw [hl]; exact hi))
theorem same_self (a : Nat) (w : World) : Calls Tryz.prog 27 #[.float .f64 a, .float .f64 a] w fun e w' => e = .returned (.bool true) ∧ w' = w :=
  (same_any a a w).mono fun e w' h => ⟨by rw [h.1]; simp, h.2.symm⟩
end Go.Proofs.YtjlfpjjfldbknaaGreat
