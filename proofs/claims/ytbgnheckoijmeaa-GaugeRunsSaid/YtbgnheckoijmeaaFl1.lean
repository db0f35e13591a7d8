/- The walks of the small functions on floats: package math's tests, and whether a float is a multiple of a quarter. -/
import Derived.Test.YtbgnheckoijmeaaChecked
import Derived.Tactics
import Derived.Tactics2
import Derived.StillTactics
import Derived.WalkKit
import Derived.WalkLawsBesides
import Derived.Outline
import Derived.KernelRfl
import Derived.Laws.Externs
import Derived.Lib.Hide
import Derived.Test.YtbgnheckoijmeaaFqC
namespace Go.Proofs.Ytbgnheckoijmeaa
open Go.Fq

theorem x_bits (b : Nat) (w : World) : (callFunc 34 #[.float .f64 b]).run Try.prog w = .ok (.value (.int .u64 b)) w := by
  rw [run_callFunc_extern Try.func34 (by kernel_rfl) (by kernel_rfl) (by kernel_rfl) (e := Extern.MathFloatBits.float64bits) (by kernel_rfl)]; rfl
theorem x_from (b : Int) (w : World) : (callFunc 40 #[.int .u64 b]).run Try.prog w = .ok (.value (.float .f64 b.toNat)) w := by
  rw [run_callFunc_extern Try.func40 (by kernel_rfl) (by kernel_rfl) (by kernel_rfl) (e := Extern.MathFloatBits.float64frombits) (by kernel_rfl)]; rfl
theorem run_toInt {P : Program} (name : String) (way : Ieee.Toward) (x : Nat) (h : nanB x = false) (w : World) :
    (Extern.MathFloor.toIntegral name way #[.float .f64 x]).run P w = .ok (.float .f64 (truncD way x)) w := by
  unfold Extern.MathFloor.toIntegral truncD
  have hn := not_isNaN_read x h
  show Sem.run P (match Ieee.double.read x with
    | .nan s t => _
    | d => _) w = _
  generalize Ieee.double.read x = d at hn
  cases d with
  | nan s t => exact absurd rfl (hn s t)
  | number s m e => rfl
  | infinity s => rfl
theorem x_trunc (x : Nat) (h : nanB x = false) (w : World) : (callFunc 61 #[.float .f64 x]).run Try.prog w = .ok (.value (.float .f64 (truncD .zero x))) w := by
  rw [run_callFunc_extern Try.func61 (by kernel_rfl) (by kernel_rfl) (by kernel_rfl) (e := Extern.MathFloor.toIntegral "math.archTrunc" .zero) (by kernel_rfl), run_toInt _ _ _ h]; rfl

theorem isnan (a : Nat) (w : World) : Calls Try.prog 42 #[.float .f64 a] w fun e w' => e = .returned (.bool (nanB a)) ∧ w = w' := by
  cases h : nanB a
  · have e := od_self h; clear h
    go_enter Try.func42, Try.ntmps42
    go_wp2
    go_ret
    exact ⟨rfl, rfl⟩
  · have e := od_nan_l a h; clear h
    go_enter Try.func42, Try.ntmps42
    go_wp2
    go_ret
    exact ⟨rfl, rfl⟩
theorem refnan (a : Nat) (w : World) : Calls Try.prog 44 #[.float .f64 a] w fun e w' => e = .returned (.bool (nanB a)) ∧ w = w' := by
  cases h : nanB a
  · have e := od_self h; clear h
    go_enter Try.func44, Try.ntmps44
    go_wp2
    go_ret
    exact ⟨rfl, rfl⟩
  · have e := od_nan_l a h; clear h
    go_enter Try.func44, Try.ntmps44
    go_wp2
    go_ret
    exact ⟨rfl, rfl⟩
theorem ret_bool {a b : Bool} (h : a = b) : Ending.returned (.bool a) = .returned (.bool b) := by rw [h]
theorem ret_float {a b : Nat} (h : a = b) : Ending.returned (.float .f64 a) = .returned (.float .f64 b) := by rw [h]
theorem signbit (a : Nat) (w : World) (h : a < 2 ^ 64) : Calls Try.prog 41 #[.float .f64 a] w fun e w' => e = .returned (.bool (ng a)) ∧ w = w' := by
  have H := Lib.hid h; clear h
  have e := x_bits
  go_enter Try.func41, Try.ntmps41
  go_wp2
  go_ret
  exact ⟨ret_bool (ng_wrap a H.out), rfl⟩
theorem refsign (a : Nat) (w : World) (h : a < 2 ^ 64) : Calls Try.prog 49 #[.float .f64 a] w fun e w' => e = .returned (.bool (ng a)) ∧ w = w' := by
  have H := Lib.hid h; clear h
  have e := x_bits
  go_enter Try.func49, Try.ntmps49
  go_wp2
  go_ret
  exact ⟨ret_bool (ng_div a H.out), rfl⟩
theorem abs_any (a : Nat) (w : World) (h : a < 2 ^ 64) : Calls Try.prog 26 #[.float .f64 a] w fun e w' => e = .returned (.float .f64 (mg a)) ∧ w = w' := by
  have H := Lib.hid h; clear h
  have e := x_bits
  have e2 := x_from
  go_enter Try.func26, Try.ntmps26
  go_wp2
  go_ret
  exact ⟨ret_float (abs_bits a H.out), rfl⟩
theorem isinf0 (a : Nat) (w : World) (h : a < 2 ^ 64) : Calls Try.prog 38 #[.float .f64 a, .int .i64 0] w fun e w' => e = .returned (.bool (infB a)) ∧ w = w' := by
  have H := Lib.hid h; clear h
  go_enter Try.func38, Try.ntmps38
  go_wp2_with (go_at_call 26; refine (abs_any _ _ H.out).mono ?_; rintro e w' ⟨rfl, rfl⟩)
  go_ret
  exact ⟨ret_bool (inf_of_gt a), rfl⟩
theorem trunc_any (a : Nat) (w : World) (h : nanB a = false) : Calls Try.prog 56 #[.float .f64 a] w fun e w' => e = .returned (.float .f64 (truncD .zero a)) ∧ w = w' := by
  have e := x_trunc a h
  clear h
  go_enter Try.func56, Try.ntmps56
  go_wp2
  go_ret
  exact ⟨rfl, rfl⟩
theorem run_mul4 {P : Program} (f : Nat) (h : nanB f = false) (w : World) : (binOp .mul 22 (.float .f64 f) (.float .f64 4616189618054758400)).run P w = .ok (.float .f64 (mul4 f)) w :=
  run_float_arith w .mul _ .f64 f _ _ (mul4_some f h).1
theorem inq (a : Nat) (w : World) (h : nanB a = false) : Calls Try.prog 55 #[.float .f64 a] w fun e w' => e = .returned (.bool (qF a)) ∧ w = w' := by
  have e := run_mul4 (P := Try.prog) a h
  have hn := Lib.hid (mul4_some a h).2
  clear h
  go_enter Try.func55, Try.ntmps55
  go_wp2_with (go_at_call 56; refine (trunc_any _ _ hn.out).mono ?_; rintro e w' ⟨rfl, rfl⟩)
  go_ret
  exact ⟨rfl, rfl⟩
theorem refq (a : Nat) (w : World) (h : nanB a = false) : Calls Try.prog 50 #[.float .f64 a] w fun e w' => e = .returned (.bool (qF a)) ∧ w = w' := by
  have e := run_mul4 (P := Try.prog) a h
  have hn := Lib.hid (mul4_some a h).2
  clear h
  go_enter Try.func50, Try.ntmps50
  go_wp2_with (go_at_call 56; refine (trunc_any _ _ hn.out).mono ?_; rintro e w' ⟨rfl, rfl⟩)
  go_ret
  exact ⟨rfl, rfl⟩
end Go.Proofs.Ytbgnheckoijmeaa
