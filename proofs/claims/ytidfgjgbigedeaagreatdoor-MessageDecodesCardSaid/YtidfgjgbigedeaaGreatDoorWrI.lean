/- The reference's Same. -/
import Derived.Test.YtidfgjgbigedeaaGreatDoorWrA
import Derived.Test.YtidfgjgbigedeaaGreatDoorWqAll
import Derived.StillTailTactics
namespace Go.Proofs.YtidfgjgbigedeaaGreatDoor
open Go.RowKit Go.Lib Go.Wq
set_option linter.unusedVariables false
set_option linter.unusedSimpArgs false
set_option maxRecDepth 100000

theorem bne_i {a b : Int} (h : a ≠ b) : (a != b) = true := by simp [h]
theorem bne_c {a b : Nat} (h : a ≠ b) : ((a : Int) != (b : Int)) = true := by simp; omega
theorem drawn_below {B : Nat} {a w W : World} (h : Below B a w) (hl : Like w W) : Below B a W := h.trans ⟨hl.os, hl.tape, hl.output, by rw [hl.heap]; exact Nat.le_refl _, fun _ _ => by rw [hl.heap]⟩
end Go.Proofs.YtidfgjgbigedeaaGreatDoor
