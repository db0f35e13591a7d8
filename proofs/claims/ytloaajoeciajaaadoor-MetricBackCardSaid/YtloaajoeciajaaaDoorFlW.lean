/- The walks that every seat of layer 1 needs: weights, sums that are no NaN, and that the layer answers at all. -/
import Derived.Test.YtloaajoeciajaaaDoorFl1
import Derived.Test.YtloaajoeciajaaaDoorFqD
import Derived.RowKit3
import Derived.BigQuiet
import Derived.Deep.QuietTactic
namespace Go.Proofs.YtloaajoeciajaaaDoor
open Go.Fq Go.RowKit

theorem ret_int {a b : Int} (h : a = b) : Ending.returned (.int .i64 a) = .returned (.int .i64 b) := by rw [h]

theorem within_any (f most : Nat) (w : World) (hf : f < 2 ^ 64) : Calls Tryd.prog 34 #[.float .f64 f, .float .f64 most] w fun e w' => e = .returned (.int .i64 (withinF f most)) ∧ w = w' := by
  have H := Lib.hid hf; clear hf
  go_enter Tryd.func34, Tryd.ntmps34
  go_wp2_with (first | (go_at_call 18; refine (isnan _ _).mono ?_; rintro e w' ⟨rfl, rfl⟩) | (go_at_call 14; refine (isinf0 _ _ H.out).mono ?_; rintro e w' ⟨rfl, rfl⟩) | (go_at_call 19; refine (signbit _ _ H.out).mono ?_; rintro e w' ⟨rfl, rfl⟩) | (go_at_call 20; refine (inq _ _ (by assumption)).mono ?_; rintro e w' ⟨rfl, rfl⟩))
  all_goals (go_ret; exact ⟨ret_int (by simp [withinF, *]), rfl⟩)
theorem weight_any (f : Nat) (w : World) (hf : f < 2 ^ 64) : Calls Tryd.prog 21 #[.float .f64 f] w fun e w' => e = .returned (.int .i64 (weightF f)) ∧ w = w' := by
  have H := Lib.hid hf; clear hf
  go_enter Tryd.func21, Tryd.ntmps21
  go_wp2_with (go_at_call 34; refine (within_any _ _ _ H.out).mono ?_; rintro e w' ⟨rfl, rfl⟩)
  go_ret
  exact ⟨rfl, rfl⟩
theorem run_add_some {P : Program} (t : TypeId) (x y s : Nat) (h : Ieee.double.add x y = some s) (w : World) : (binOp .add t (.float .f64 x) (.float .f64 y)).run P w = .ok (.float .f64 s) w :=
  run_float_arith w .add t .f64 x y s h

theorem add_some (x y max s : Nat) (w : World) (h : Ieee.double.add x y = some s) : Calls Tryd.prog 22 #[.float .f64 x, .float .f64 y, .float .f64 max] w fun e w' => e = .returned (.float .f64 (addF x y max)) ∧ w = w' := by
  have e1 := fun w => run_add_some (P := Tryd.prog) 22 x y s h w
  have e2 := add_not_nan h
  have e3 := x_from
  have hf := Lib.hid (addF_some max h); clear h
  cases h1 : (FloatKind.f64.format.order s max == some Ordering.lt) <;> cases h2 : (FloatKind.f64.format.order s 0 == some Ordering.eq)
  all_goals
    rw [hf.out, h1, h2]
    go_enter Tryd.func22, Tryd.ntmps22
    go_wp2_with (first | (go_at_call 18; refine (isnan _ _).mono ?_; rintro e w' ⟨rfl, rfl⟩) | (go_at_call 24; go_in))
    go_ret
    exact ⟨rfl, rfl⟩

theorem same_any (a b : Nat) (w : World) : Calls Tryd.prog 13 #[.float .f64 a, .float .f64 b] w fun e w' => e = .returned (.bool ((a : Int) == (b : Int))) ∧ w = w' := by
  have e := x_bits
  go_enter Tryd.func13, Tryd.ntmps13
  go_wp2
  go_ret
  exact ⟨rfl, rfl⟩

theorem awake_any (w : World) : Calls Tryd.prog 10 #[] w fun e w' => e = .returned (.bool true) ∧ w = w' := by
  have h1 : weightF 4609434218613702656 = 0 := by decide +kernel
  have h2 : weightF 4602678819172646912 = 13 := by decide +kernel
  have h3 : addF 4608308318706860032 4612811918334230528 4621819117588971520 = 4615626668101337088 := by decide +kernel
  have h4 : FloatKind.f64.format.order 4615626668101337088 4615626668101337088 = some .eq := by decide +kernel
  have hs := Lib.hid (show Ieee.double.add 4608308318706860032 4612811918334230528 = some 4615626668101337088 by decide +kernel)
  go_enter Tryd.func10, Tryd.ntmps10
  go_wp2_with (first | (go_at_call 21; refine (weight_any _ _ (by omega)).mono ?_; rintro e w' ⟨rfl, rfl⟩) | (go_at_call 22; refine (add_some _ _ _ _ _ hs.out).mono ?_; rintro e w' ⟨rfl, rfl⟩))
  go_ret
  exact ⟨rfl, rfl⟩

end Go.Proofs.YtloaajoeciajaaaDoor
