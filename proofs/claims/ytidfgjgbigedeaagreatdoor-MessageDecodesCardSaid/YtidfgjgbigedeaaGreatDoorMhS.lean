/- Messages: the document's shape. -/
import Derived.Test.YtidfgjgbigedeaaGreatDoorMqA
import Derived.Test.YtidfgjgbigedeaaGreatDoorMgA
namespace Go.Proofs.YtidfgjgbigedeaaGreatDoor
open Go.RowKit Go.Lib Go.Wq Go.Mq
set_option linter.unusedVariables false
set_option linter.unusedSimpArgs false
set_option maxRecDepth 100000

theorem rShape_any (k : Int) (w : World) (hk : k = 1 ∨ k = 2 ∨ k = 3 ∨ k = 4) : Calls Tryz.prog 21 #[.int .i64 k] w fun e w' => e = .returned (.string (shp k)) ∧ w' = w := by
  rcases hk with rfl | rfl | rfl | rfl
  all_goals
    go_enter Tryz.func21, Tryz.ntmps21
    go_wp2_with fail
    go_ret
    exact ⟨rfl, rfl⟩

end Go.Proofs.YtidfgjgbigedeaaGreatDoor
