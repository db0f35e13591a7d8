/- The program's isBare. -/
import Derived.Test.YtgikdmognolmoaaDoorWpB
import Derived.Test.YtgikdmognolmoaaDoorWrC
import Derived.RegionCalls
import Derived.Deep.RegionWith
namespace Go.Proofs.YtgikdmognolmoaaDoor
open Go.RowKit Go.Lib Go.Wq
set_option linter.unusedVariables false
set_option linter.unusedSimpArgs false
set_option maxRecDepth 100000

set_option maxHeartbeats 4000000 in
theorem bare_u (u i : Int) (f : Nat) (bb : Bool) (t : ByteArray) (ra : Option Addr) (n cap : Nat) (w : World) :
    Calls Tryd.prog 34 #[.int .u8 117, .agg #[.int .u64 u, .int .i64 i, .float .f64 f, .bool bb, .string t, .slice ra n cap]] w fun e w' => e = .returned (.bool (zeroV 117 u i f bb t n)) ∧ Below w.heap.size w w' := by
  have hb := w_bits
  have hn := w_not
  go_enter Tryd.func34, Tryd.ntmps34
  go_wp2_with fail
  all_goals (go_ret; refine ⟨?_, (Below.refl _ w).alloc (Nat.le_refl _) _⟩; clear hb hn; simp_all [zeroV, toList_nil])
set_option maxHeartbeats 4000000 in
theorem bare_i (u i : Int) (f : Nat) (bb : Bool) (t : ByteArray) (ra : Option Addr) (n cap : Nat) (w : World) :
    Calls Tryd.prog 34 #[.int .u8 105, .agg #[.int .u64 u, .int .i64 i, .float .f64 f, .bool bb, .string t, .slice ra n cap]] w fun e w' => e = .returned (.bool (zeroV 105 u i f bb t n)) ∧ Below w.heap.size w w' := by
  have hb := w_bits
  have hn := w_not
  go_enter Tryd.func34, Tryd.ntmps34
  go_wp2_with fail
  all_goals (go_ret; refine ⟨?_, (Below.refl _ w).alloc (Nat.le_refl _) _⟩; clear hb hn; simp_all [zeroV, toList_nil])
set_option maxHeartbeats 4000000 in
theorem bare_f (u i : Int) (f : Nat) (bb : Bool) (t : ByteArray) (ra : Option Addr) (n cap : Nat) (w : World) :
    Calls Tryd.prog 34 #[.int .u8 102, .agg #[.int .u64 u, .int .i64 i, .float .f64 f, .bool bb, .string t, .slice ra n cap]] w fun e w' => e = .returned (.bool (zeroV 102 u i f bb t n)) ∧ Below w.heap.size w w' := by
  have hb := w_bits
  have hn := w_not
  go_enter Tryd.func34, Tryd.ntmps34
  go_wp2_with fail
  all_goals (go_ret; refine ⟨?_, (Below.refl _ w).alloc (Nat.le_refl _) _⟩; clear hb hn; simp_all [zeroV, toList_nil])
set_option maxHeartbeats 4000000 in
theorem bare_b (u i : Int) (f : Nat) (bb : Bool) (t : ByteArray) (ra : Option Addr) (n cap : Nat) (w : World) :
    Calls Tryd.prog 34 #[.int .u8 98, .agg #[.int .u64 u, .int .i64 i, .float .f64 f, .bool bb, .string t, .slice ra n cap]] w fun e w' => e = .returned (.bool (zeroV 98 u i f bb t n)) ∧ Below w.heap.size w w' := by
  have hb := w_bits
  have hn := w_not
  go_enter Tryd.func34, Tryd.ntmps34
  go_wp2_with fail
  all_goals (go_ret; refine ⟨?_, (Below.refl _ w).alloc (Nat.le_refl _) _⟩; clear hb hn; simp_all [zeroV, toList_nil])
set_option maxHeartbeats 4000000 in
theorem bare_t (u i : Int) (f : Nat) (bb : Bool) (t : ByteArray) (ra : Option Addr) (n cap : Nat) (w : World) :
    Calls Tryd.prog 34 #[.int .u8 116, .agg #[.int .u64 u, .int .i64 i, .float .f64 f, .bool bb, .string t, .slice ra n cap]] w fun e w' => e = .returned (.bool (zeroV 116 u i f bb t n)) ∧ Below w.heap.size w w' := by
  have hb := w_bits
  have hn := w_not
  go_enter Tryd.func34, Tryd.ntmps34
  go_wp2_with fail
  all_goals (go_ret; refine ⟨?_, (Below.refl _ w).alloc (Nat.le_refl _) _⟩; clear hb hn; simp_all [zeroV, toList_nil])
set_option maxHeartbeats 4000000 in
theorem bare_l (u i : Int) (f : Nat) (bb : Bool) (t : ByteArray) (ra : Option Addr) (n cap : Nat) (w : World) :
    Calls Tryd.prog 34 #[.int .u8 40, .agg #[.int .u64 u, .int .i64 i, .float .f64 f, .bool bb, .string t, .slice ra n cap]] w fun e w' => e = .returned (.bool (zeroV 40 u i f bb t n)) ∧ Below w.heap.size w w' := by
  have hb := w_bits
  have hn := w_not
  go_enter Tryd.func34, Tryd.ntmps34
  go_wp2_with fail
  all_goals (go_ret; refine ⟨?_, (Below.refl _ w).alloc (Nat.le_refl _) _⟩; clear hb hn; simp_all [zeroV, toList_nil])
theorem bare_it (it : It) (u : Nat) (i : Int) (f : Nat) (bb : Bool) (s : ByteArray) (l : List (List Fld)) (ra : Option Addr) (cap : Nat) (w : World) :
    Calls Tryd.prog 34 #[.int .u8 it.code, .agg #[.int .u64 (u : Int), .int .i64 i, .float .f64 f, .bool bb, .string s, .slice ra l.length cap]] w fun e w' => e = .returned (.bool (zeroBut it.letter (.mk u i f bb s.data.toList l))) ∧ Below w.heap.size w w' := by
  cases it with
  | u => simp only [It.letter, It.code]; rw [← zV_u]; exact bare_u _ _ _ _ _ _ _ _ _
  | i => simp only [It.letter, It.code]; rw [← zV_i]; exact bare_i _ _ _ _ _ _ _ _ _
  | f => simp only [It.letter, It.code]; rw [← zV_f]; exact bare_f _ _ _ _ _ _ _ _ _
  | b => simp only [It.letter, It.code]; rw [← zV_b]; exact bare_b _ _ _ _ _ _ _ _ _
  | t => simp only [It.letter, It.code]; rw [← zV_t]; exact bare_t _ _ _ _ _ _ _ _ _
  | l its => simp only [It.letter, It.code]; rw [← zV_l]; exact bare_l _ _ _ _ _ _ _ _ _

end Go.Proofs.YtgikdmognolmoaaDoor
