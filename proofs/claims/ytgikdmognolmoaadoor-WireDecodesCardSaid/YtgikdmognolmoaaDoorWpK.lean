/- The law WireUnlike. -/
import Derived.Test.YtgikdmognolmoaaDoorWpJ
import Derived.Test.YtgikdmognolmoaaDoorWrI
namespace Go.Proofs.YtgikdmognolmoaaDoor
open Go.RowKit Go.Lib Go.Wq
set_option linter.unusedVariables false
set_option linter.unusedSimpArgs false
set_option maxRecDepth 100000

theorem encSays_ok {s : List UInt8} {fs : List Fld} (h : (encSays s fs).2 = 0) : ∃ its, Go.Wq.shape s = some its ∧ encAll its fs = some (encSays s fs).1 ∧ (encSays s fs).1.length ≤ 65536 := by
  cases hx : Go.Wq.shape s with
  | none => unfold encSays at h; simp [hx] at h
  | some its =>
    cases he : encAll its fs with
    | none => unfold encSays at h; simp [hx, he] at h
    | some a =>
      by_cases hb : 65536 < a.length
      · unfold encSays at h; simp [hx, he, hb] at h
      · have e : encSays s fs = (a, 0) := by unfold encSays; simp [hx, he, hb]
        refine ⟨its, rfl, ?_, ?_⟩
        · rw [e]; exact he
        · rw [e]; simpa using hb

end Go.Proofs.YtgikdmognolmoaaDoor
