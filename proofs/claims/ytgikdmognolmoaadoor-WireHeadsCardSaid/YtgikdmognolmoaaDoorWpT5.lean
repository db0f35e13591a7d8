/- The program's reader: all letters; fields to any depth. -/
import Derived.Test.YtgikdmognolmoaaDoorWpT4
import Derived.Test.YtgikdmognolmoaaDoorShelf
namespace Go.Proofs.YtgikdmognolmoaaDoor
open Go.RowKit Go.Lib Go.Wq
set_option linter.unusedVariables false
set_option linter.unusedSimpArgs false
set_option maxRecDepth 100000

theorem clone_any (T : ByteArray) (w : World) (hT : T.size ≤ 65536) : Calls Tryd.prog 45 #[.string T] w fun e w' => e = .returned (.string T) ∧ Below w.heap.size w w' := by
  have HC := Lib.hid (Tryd.stringslite_Clone T w (by omega))
  go_enter Tryd.func45, Tryd.ntmps45
  go_wp2_with fail
  refine HC.out.mono ?_
  rintro e w3 ⟨rfl, hb⟩
  have HB := Lib.hid hb
  clear hb
  go_wp2_with fail
  go_ret
  exact ⟨rfl, HB.out⟩
theorem pone_all (rb : Nat) (s : ByteArray) (it : It) (h : ∀ its, it = .l its → PAllSays rb s its) : POneSays rb s it := by
  cases it with
  | u => exact pfield_u rb s
  | i => exact pfield_i rb s
  | f => exact pfield_f rb s
  | b => exact pfield_b rb s
  | t => exact pfield_t clone_any rb s
  | l its => exact pfield_l rb s its (h its rfl)
theorem pall_says (rb : Nat) (s : ByteArray) (its : List It) : PAllSays rb s its := its_ind (PAllSays rb s) (fun its ih => pfields_any rb s its (fun it hit => pone_all rb s it (fun its' e => ih its' (by rw [← e]; exact hit)))) its
end Go.Proofs.YtgikdmognolmoaaDoor
