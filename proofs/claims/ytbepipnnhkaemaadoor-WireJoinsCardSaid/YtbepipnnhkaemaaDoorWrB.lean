/- The reference's zero. -/
import Derived.Test.YtbepipnnhkaemaaDoorWrA
namespace Go.Proofs.YtbepipnnhkaemaaDoor
open Go.RowKit Go.Lib Go.Wq
set_option linter.unusedVariables false
set_option linter.unusedSimpArgs false

theorem w_bits (b : Nat) (w : World) : (callFunc 37 #[.float .f64 b]).run Tryd.prog w = .ok (.value (.int .u64 b)) w := by
  rw [run_callFunc_extern Tryd.func37 (by kernel_rfl) (by kernel_rfl) (by kernel_rfl) (e := Extern.MathFloatBits.float64bits) (by kernel_rfl)]; rfl
theorem w_not (x : Bool) (w : World) : (Op.unary .not (.bool x)).run Tryd.prog w = .ok (.bool (!x)) w := rfl
def zeroV (c : Int) (u : Int) (i : Int) (f : Nat) (bb : Bool) (t : ByteArray) (n : Nat) : Bool :=
  (c == 117 || u == 0) && (c == 105 || i == 0) && (c == 102 || f == 0) && (c == 98 || !bb) && (c == 116 || t.size == 0) && (c == 40 || (n : Int) == 0)

set_option maxHeartbeats 4000000 in
theorem zero_u (u i : Int) (f : Nat) (bb : Bool) (t : ByteArray) (ra : Option Addr) (n cap : Nat) (w : World) :
    Calls Tryd.prog 47 #[.agg #[.int .u64 u, .int .i64 i, .float .f64 f, .bool bb, .string t, .slice ra n cap], .int .u8 117] w fun e w' => e = .returned (.bool (zeroV 117 u i f bb t n)) ∧ Below w.heap.size w w' := by
  have hb := w_bits
  have hn := w_not
  go_enter Tryd.func47, Tryd.ntmps47
  go_wp2_with fail
  all_goals (go_ret; refine ⟨?_, (Below.refl _ w).alloc (Nat.le_refl _) _⟩; clear hb hn; simp_all [zeroV, toList_nil])

set_option maxHeartbeats 4000000 in
theorem zero_i (u i : Int) (f : Nat) (bb : Bool) (t : ByteArray) (ra : Option Addr) (n cap : Nat) (w : World) :
    Calls Tryd.prog 47 #[.agg #[.int .u64 u, .int .i64 i, .float .f64 f, .bool bb, .string t, .slice ra n cap], .int .u8 105] w fun e w' => e = .returned (.bool (zeroV 105 u i f bb t n)) ∧ Below w.heap.size w w' := by
  have hb := w_bits
  have hn := w_not
  go_enter Tryd.func47, Tryd.ntmps47
  go_wp2_with fail
  all_goals (go_ret; refine ⟨?_, (Below.refl _ w).alloc (Nat.le_refl _) _⟩; clear hb hn; simp_all [zeroV, toList_nil])

set_option maxHeartbeats 4000000 in
theorem zero_f (u i : Int) (f : Nat) (bb : Bool) (t : ByteArray) (ra : Option Addr) (n cap : Nat) (w : World) :
    Calls Tryd.prog 47 #[.agg #[.int .u64 u, .int .i64 i, .float .f64 f, .bool bb, .string t, .slice ra n cap], .int .u8 102] w fun e w' => e = .returned (.bool (zeroV 102 u i f bb t n)) ∧ Below w.heap.size w w' := by
  have hb := w_bits
  have hn := w_not
  go_enter Tryd.func47, Tryd.ntmps47
  go_wp2_with fail
  all_goals (go_ret; refine ⟨?_, (Below.refl _ w).alloc (Nat.le_refl _) _⟩; clear hb hn; simp_all [zeroV, toList_nil])

set_option maxHeartbeats 4000000 in
theorem zero_b (u i : Int) (f : Nat) (bb : Bool) (t : ByteArray) (ra : Option Addr) (n cap : Nat) (w : World) :
    Calls Tryd.prog 47 #[.agg #[.int .u64 u, .int .i64 i, .float .f64 f, .bool bb, .string t, .slice ra n cap], .int .u8 98] w fun e w' => e = .returned (.bool (zeroV 98 u i f bb t n)) ∧ Below w.heap.size w w' := by
  have hb := w_bits
  have hn := w_not
  go_enter Tryd.func47, Tryd.ntmps47
  go_wp2_with fail
  all_goals (go_ret; refine ⟨?_, (Below.refl _ w).alloc (Nat.le_refl _) _⟩; clear hb hn; simp_all [zeroV, toList_nil])

set_option maxHeartbeats 4000000 in
theorem zero_t (u i : Int) (f : Nat) (bb : Bool) (t : ByteArray) (ra : Option Addr) (n cap : Nat) (w : World) :
    Calls Tryd.prog 47 #[.agg #[.int .u64 u, .int .i64 i, .float .f64 f, .bool bb, .string t, .slice ra n cap], .int .u8 116] w fun e w' => e = .returned (.bool (zeroV 116 u i f bb t n)) ∧ Below w.heap.size w w' := by
  have hb := w_bits
  have hn := w_not
  go_enter Tryd.func47, Tryd.ntmps47
  go_wp2_with fail
  all_goals (go_ret; refine ⟨?_, (Below.refl _ w).alloc (Nat.le_refl _) _⟩; clear hb hn; simp_all [zeroV, toList_nil])

set_option maxHeartbeats 4000000 in
theorem zero_l (u i : Int) (f : Nat) (bb : Bool) (t : ByteArray) (ra : Option Addr) (n cap : Nat) (w : World) :
    Calls Tryd.prog 47 #[.agg #[.int .u64 u, .int .i64 i, .float .f64 f, .bool bb, .string t, .slice ra n cap], .int .u8 40] w fun e w' => e = .returned (.bool (zeroV 40 u i f bb t n)) ∧ Below w.heap.size w w' := by
  have hb := w_bits
  have hn := w_not
  go_enter Tryd.func47, Tryd.ntmps47
  go_wp2_with fail
  all_goals (go_ret; refine ⟨?_, (Below.refl _ w).alloc (Nat.le_refl _) _⟩; clear hb hn; simp_all [zeroV, toList_nil])
end Go.Proofs.YtbepipnnhkaemaaDoor
