/- Package ident's and the document's own small functions: Mix, Sum, letters, CheckId, CheckName. -/
import Derived.Test.YtjlfpjjfldbknaaGreatProg
import Derived.WalkKit
import Derived.ProofKit
import Derived.Lib.Hide
import Derived.LoopTactic
import Derived.Outline
import Derived.IntWalk
import Derived.BigQuiet
import Derived.Deep.QuietTactic
import Derived.Test.YtjlfpjjfldbknaaGreatFqA
namespace Go.Proofs.YtjlfpjjfldbknaaGreat
open Go.RowKit Go.Lib Go.Iq
set_option linter.unusedVariables false

theorem checkId_any (n : Int) (w : World) : Calls Tryz.prog 65 #[.int .i64 n] w fun e w' => e = .returned (.int .i64 (idE n)) ∧ w = w' := by
  by_cases h : 1 ≤ n <;> by_cases g : n ≤ 2147483647 <;>
  · go_enter Tryz.func65, Tryz.ntmps65
    go_wp2
    go_ret
    exact ⟨by simp [idE, idB, h, g], rfl⟩
theorem refcheckId_any (n : Int) (w : World) : Calls Tryz.prog 55 #[.int .i64 n] w fun e w' => e = .returned (.int .i64 (idE n)) ∧ w = w' := by
  by_cases h : 1 ≤ n <;> by_cases g : n ≤ 2147483647 <;>
  · go_enter Tryz.func55, Tryz.ntmps55
    go_wp2
    go_ret
    exact ⟨by simp [idE, idB, h, g], rfl⟩

end Go.Proofs.YtjlfpjjfldbknaaGreat
