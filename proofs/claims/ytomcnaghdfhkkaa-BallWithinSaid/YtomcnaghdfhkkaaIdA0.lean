/- Package ident's and the document's own small functions: Mix, Sum, letters, CheckId, CheckName. -/
import Derived.Test.YtomcnaghdfhkkaaProg
import Derived.WalkKit
import Derived.ProofKit
import Derived.Lib.Hide
import Derived.LoopTactic
import Derived.Outline
import Derived.IntWalk
import Derived.BigQuiet
import Derived.Deep.QuietTactic
import Derived.Test.YtomcnaghdfhkkaaFqA
namespace Go.Proofs.Ytomcnaghdfhkkaa
open Go.RowKit Go.Lib Go.Iq
set_option linter.unusedVariables false

theorem ret_ik {k : IntKind} {a b : Int} (h : a = b) : Ending.returned (.int k a) = .returned (.int k b) := by rw [h]

theorem checkId_any (n : Int) (w : World) : Calls Try.prog 87 #[.int .i64 n] w fun e w' => e = .returned (.int .i64 (idE n)) ∧ w = w' := by
  by_cases h : 1 ≤ n <;> by_cases g : n ≤ 2147483647 <;>
  · go_enter Try.func87, Try.ntmps87
    go_wp2
    go_ret
    exact ⟨by simp [idE, idB, h, g], rfl⟩
theorem refcheckId_any (n : Int) (w : World) : Calls Try.prog 53 #[.int .i64 n] w fun e w' => e = .returned (.int .i64 (idE n)) ∧ w = w' := by
  by_cases h : 1 ≤ n <;> by_cases g : n ≤ 2147483647 <;>
  · go_enter Try.func53, Try.ntmps53
    go_wp2
    go_ret
    exact ⟨by simp [idE, idB, h, g], rfl⟩

theorem getD_eq (s : ByteArray) (k : Nat) (h : k < s.size) : s.data.toList.getD k 0 = s[k] := getD_size s k h

end Go.Proofs.Ytomcnaghdfhkkaa
