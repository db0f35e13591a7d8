/- The reference's zero. -/
import Derived.Test.YtgikdmognolmoaaDoorWrA
namespace Go.Proofs.YtgikdmognolmoaaDoor
open Go.RowKit Go.Lib Go.Wq
set_option linter.unusedVariables false
set_option linter.unusedSimpArgs false
set_option maxRecDepth 100000

theorem w_bits (b : Nat) (w : World) : (callFunc 21 #[.float .f64 b]).run Tryd.prog w = .ok (.value (.int .u64 b)) w := by
  rw [run_callFunc_extern Tryd.func21 (by kernel_rfl) (by kernel_rfl) (by kernel_rfl) (e := Extern.MathFloatBits.float64bits) (by kernel_rfl)]; rfl
theorem w_not (x : Bool) (w : World) : (Op.unary .not (.bool x)).run Tryd.prog w = .ok (.bool (!x)) w := rfl
def zeroV (c : Int) (u : Int) (i : Int) (f : Nat) (bb : Bool) (t : ByteArray) (n : Nat) : Bool :=
  (c == 117 || u == 0) && (c == 105 || i == 0) && (c == 102 || f == 0) && (c == 98 || !bb) && (c == 116 || t.size == 0) && (c == 40 || (n : Int) == 0)

end Go.Proofs.YtgikdmognolmoaaDoor
