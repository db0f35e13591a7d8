/- Balls: a sight's knows; the program's Knows. Balls: the law of balls: who knows whom. -/
import Derived.Test.YtjlfpjjfldbknaaGreatBaH
import Derived.Test.YtjlfpjjfldbknaaGreatBqA
import Derived.Test.YtjlfpjjfldbknaaGreatBbB
section
namespace Go.Proofs.YtjlfpjjfldbknaaGreat
open Go.RowKit Go.Lib Go.Fq Go.Pq Go.Iq Go.Nq Go.Ow Go.Bq
set_option linter.unusedVariables false
set_option linter.unusedSimpArgs false
set_option maxRecDepth 100000

/-- What Knows tells. -/
def KnEnds (w : World) (G : Gr) (max : Nat) (u v : Int) (e : Ending) (w' : World) : Prop := Below w.heap.size w w' ∧
  ((ballE G max ≠ 0 ∧ e = .returned (.tuple #[.bool false, .int .i64 (ballE G max)])) ∨
   (ballE G max = 0 ∧ (upB G.nodes u && upB G.nodes v) = false ∧ e = .returned (.tuple #[.bool false, .int .i64 4])) ∨
   (ballE G max = 0 ∧ upB G.nodes u = true ∧ ∃ m ∈ G.nodes, m.up = true ∧ m.id = v ∧ e = .returned (.tuple #[.bool (knI G (qn max) u m), .int .i64 0])))
end Go.Proofs.YtjlfpjjfldbknaaGreat
end

section
namespace Go.Proofs.YtjlfpjjfldbknaaGreat
open Go.RowKit Go.Lib Go.Fq Go.Pq Go.Iq Go.Nq Go.Ow Go.Bq
set_option linter.unusedVariables false
set_option linter.unusedSimpArgs false
set_option maxRecDepth 100000

theorem dw_top {a : Option Nat} (h : Sm a) : (FloatKind.f64.format.order (dw a) 9218868437227405311 == some .gt) = a.isNone := by
  cases a with
  | none => decide +kernel
  | some n =>
    have hn : n < 2 ^ 53 := by have : n ≤ 4294967296 := h; omega
    have h1 := ik_qw_inf n hn
    have e1 : ik 9218868437227405312 = 9218868437227405312 := by decide +kernel
    have e2 : ik 9218868437227405311 = 9218868437227405311 := by decide +kernel
    have h3 := qw_nan hn
    have h4 : nanB 9218868437227405311 = false := by decide +kernel
    show (FloatKind.f64.format.order (qw n) _ == some .gt) = false
    by_cases hlt : ik (qw n) < ik 9218868437227405311
    · rw [od_lt h3 h4 hlt]; rfl
    · rw [od_same h3 h4 (by omega)]; rfl
theorem rbFar_any (a : Option Nat) (h : Sm a) (w : World) : Calls Tryz.prog 15 #[.float .f64 (dw a)] w fun e w' => e = .returned (.bool a.isNone) ∧ w = w' := by
  have e1 := dw_top h
  generalize dw a = d at *
  generalize a.isNone = b at *
  clear h
  go_enter Tryz.func15, Tryz.ntmps15
  go_wp2_with fail
  go_ret
  exact ⟨rfl, rfl⟩
end Go.Proofs.YtjlfpjjfldbknaaGreat
end
