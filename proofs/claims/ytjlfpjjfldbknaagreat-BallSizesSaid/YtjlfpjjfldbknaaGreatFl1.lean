/- The walks of the small functions on floats: package math's tests, and whether a float is a multiple of a quarter. The walks that every seat of layer 1 needs: weights, sums that are no NaN, and that the layer answers at all. The walks of layer 1's functions and of the document's own: weights, limits, distances, the order. Distances, sums, the order, the laws over them. -/
import Derived.Test.YtjlfpjjfldbknaaGreatChecked
import Derived.Tactics
import Derived.Tactics2
import Derived.StillTactics
import Derived.WalkKit
import Derived.WalkLawsBesides
import Derived.Outline
import Derived.KernelRfl
import Derived.Laws.Externs
import Derived.Lib.Hide
import Derived.Test.YtjlfpjjfldbknaaGreatFqA
import Derived.RowKit3
import Derived.BigQuiet
import Derived.Deep.QuietTactic
section
namespace Go.Proofs.YtjlfpjjfldbknaaGreat
open Go.Fq

theorem x_bits (b : Nat) (w : World) : (callFunc 43 #[.float .f64 b]).run Tryz.prog w = .ok (.value (.int .u64 b)) w := by
  rw [run_callFunc_extern Tryz.func43 (by kernel_rfl) (by kernel_rfl) (by kernel_rfl) (e := Extern.MathFloatBits.float64bits) (by kernel_rfl)]; rfl
theorem x_from (b : Int) (w : World) : (callFunc 75 #[.int .u64 b]).run Tryz.prog w = .ok (.value (.float .f64 b.toNat)) w := by
  rw [run_callFunc_extern Tryz.func75 (by kernel_rfl) (by kernel_rfl) (by kernel_rfl) (e := Extern.MathFloatBits.float64frombits) (by kernel_rfl)]; rfl
theorem run_toInt {P : Program} (name : String) (way : Ieee.Toward) (x : Nat) (h : nanB x = false) (w : World) :
    (Extern.MathFloor.toIntegral name way #[.float .f64 x]).run P w = .ok (.float .f64 (truncD way x)) w := by
  unfold Extern.MathFloor.toIntegral truncD
  have hn := not_isNaN_read x h
  show Sem.run P (match Ieee.double.read x with
    | .nan s t => _
    | d => _) w = _
  generalize Ieee.double.read x = d at hn
  cases d with
  | nan s t => exact absurd rfl (hn s t)
  | number s m e => rfl
  | infinity s => rfl
theorem x_trunc (x : Nat) (h : nanB x = false) (w : World) : (callFunc 90 #[.float .f64 x]).run Tryz.prog w = .ok (.value (.float .f64 (truncD .zero x))) w := by
  rw [run_callFunc_extern Tryz.func90 (by kernel_rfl) (by kernel_rfl) (by kernel_rfl) (e := Extern.MathFloor.toIntegral "math.archTrunc" .zero) (by kernel_rfl), run_toInt _ _ _ h]; rfl

theorem isnan (a : Nat) (w : World) : Calls Tryz.prog 70 #[.float .f64 a] w fun e w' => e = .returned (.bool (nanB a)) ∧ w = w' := by
  cases h : nanB a
  · have e := od_self h; clear h
    go_enter Tryz.func70, Tryz.ntmps70
    go_wp2
    go_ret
    exact ⟨rfl, rfl⟩
  · have e := od_nan_l a h; clear h
    go_enter Tryz.func70, Tryz.ntmps70
    go_wp2
    go_ret
    exact ⟨rfl, rfl⟩
theorem refnan (a : Nat) (w : World) : Calls Tryz.prog 76 #[.float .f64 a] w fun e w' => e = .returned (.bool (nanB a)) ∧ w = w' := by
  cases h : nanB a
  · have e := od_self h; clear h
    go_enter Tryz.func76, Tryz.ntmps76
    go_wp2
    go_ret
    exact ⟨rfl, rfl⟩
  · have e := od_nan_l a h; clear h
    go_enter Tryz.func76, Tryz.ntmps76
    go_wp2
    go_ret
    exact ⟨rfl, rfl⟩
theorem ret_bool {a b : Bool} (h : a = b) : Ending.returned (.bool a) = .returned (.bool b) := by rw [h]
theorem ret_float {a b : Nat} (h : a = b) : Ending.returned (.float .f64 a) = .returned (.float .f64 b) := by rw [h]
theorem signbit (a : Nat) (w : World) (h : a < 2 ^ 64) : Calls Tryz.prog 72 #[.float .f64 a] w fun e w' => e = .returned (.bool (ng a)) ∧ w = w' := by
  have H := Lib.hid h; clear h
  have e := x_bits
  go_enter Tryz.func72, Tryz.ntmps72
  go_wp2
  go_ret
  exact ⟨ret_bool (ng_wrap a H.out), rfl⟩
theorem refsign (a : Nat) (w : World) (h : a < 2 ^ 64) : Calls Tryz.prog 78 #[.float .f64 a] w fun e w' => e = .returned (.bool (ng a)) ∧ w = w' := by
  have H := Lib.hid h; clear h
  have e := x_bits
  go_enter Tryz.func78, Tryz.ntmps78
  go_wp2
  go_ret
  exact ⟨ret_bool (ng_div a H.out), rfl⟩
theorem abs_any (a : Nat) (w : World) (h : a < 2 ^ 64) : Calls Tryz.prog 85 #[.float .f64 a] w fun e w' => e = .returned (.float .f64 (mg a)) ∧ w = w' := by
  have H := Lib.hid h; clear h
  have e := x_bits
  have e2 := x_from
  go_enter Tryz.func85, Tryz.ntmps85
  go_wp2
  go_ret
  exact ⟨ret_float (abs_bits a H.out), rfl⟩
theorem isinf0 (a : Nat) (w : World) (h : a < 2 ^ 64) : Calls Tryz.prog 71 #[.float .f64 a, .int .i64 0] w fun e w' => e = .returned (.bool (infB a)) ∧ w = w' := by
  have H := Lib.hid h; clear h
  go_enter Tryz.func71, Tryz.ntmps71
  go_wp2_with (go_at_call 85; refine (abs_any _ _ H.out).mono ?_; rintro e w' ⟨rfl, rfl⟩)
  go_ret
  exact ⟨ret_bool (inf_of_gt a), rfl⟩
theorem trunc_any (a : Nat) (w : World) (h : nanB a = false) : Calls Tryz.prog 86 #[.float .f64 a] w fun e w' => e = .returned (.float .f64 (truncD .zero a)) ∧ w = w' := by
  have e := x_trunc a h
  clear h
  go_enter Tryz.func86, Tryz.ntmps86
  go_wp2
  go_ret
  exact ⟨rfl, rfl⟩
theorem run_mul4 {P : Program} (f : Nat) (h : nanB f = false) (w : World) : (binOp .mul 26 (.float .f64 f) (.float .f64 4616189618054758400)).run P w = .ok (.float .f64 (mul4 f)) w :=
  run_float_arith w .mul _ .f64 f _ _ (mul4_some f h).1
theorem inq (a : Nat) (w : World) (h : nanB a = false) : Calls Tryz.prog 73 #[.float .f64 a] w fun e w' => e = .returned (.bool (qF a)) ∧ w = w' := by
  have e := run_mul4 (P := Tryz.prog) a h
  have hn := Lib.hid (mul4_some a h).2
  clear h
  go_enter Tryz.func73, Tryz.ntmps73
  go_wp2_with (go_at_call 86; refine (trunc_any _ _ hn.out).mono ?_; rintro e w' ⟨rfl, rfl⟩)
  go_ret
  exact ⟨rfl, rfl⟩
theorem refq (a : Nat) (w : World) (h : nanB a = false) : Calls Tryz.prog 79 #[.float .f64 a] w fun e w' => e = .returned (.bool (qF a)) ∧ w = w' := by
  have e := run_mul4 (P := Tryz.prog) a h
  have hn := Lib.hid (mul4_some a h).2
  clear h
  go_enter Tryz.func79, Tryz.ntmps79
  go_wp2_with (go_at_call 86; refine (trunc_any _ _ hn.out).mono ?_; rintro e w' ⟨rfl, rfl⟩)
  go_ret
  exact ⟨rfl, rfl⟩
end Go.Proofs.YtjlfpjjfldbknaaGreat
end

section
namespace Go.Proofs.YtjlfpjjfldbknaaGreat
open Go.Fq Go.RowKit

theorem ret_int {a b : Int} (h : a = b) : Ending.returned (.int .i64 a) = .returned (.int .i64 b) := by rw [h]

theorem within_any (f most : Nat) (w : World) (hf : f < 2 ^ 64) : Calls Tryz.prog 48 #[.float .f64 f, .float .f64 most] w fun e w' => e = .returned (.int .i64 (withinF f most)) ∧ w = w' := by
  have H := Lib.hid hf; clear hf
  go_enter Tryz.func48, Tryz.ntmps48
  go_wp2_with (first | (go_at_call 70; refine (isnan _ _).mono ?_; rintro e w' ⟨rfl, rfl⟩) | (go_at_call 71; refine (isinf0 _ _ H.out).mono ?_; rintro e w' ⟨rfl, rfl⟩) | (go_at_call 72; refine (signbit _ _ H.out).mono ?_; rintro e w' ⟨rfl, rfl⟩) | (go_at_call 73; refine (inq _ _ (by assumption)).mono ?_; rintro e w' ⟨rfl, rfl⟩))
  all_goals (go_ret; exact ⟨ret_int (by simp [withinF, *]), rfl⟩)
theorem weight_any (f : Nat) (w : World) (hf : f < 2 ^ 64) : Calls Tryz.prog 68 #[.float .f64 f] w fun e w' => e = .returned (.int .i64 (weightF f)) ∧ w = w' := by
  have H := Lib.hid hf; clear hf
  go_enter Tryz.func68, Tryz.ntmps68
  go_wp2_with (go_at_call 48; refine (within_any _ _ _ H.out).mono ?_; rintro e w' ⟨rfl, rfl⟩)
  go_ret
  exact ⟨rfl, rfl⟩
theorem run_add_some {P : Program} (t : TypeId) (x y s : Nat) (h : Ieee.double.add x y = some s) (w : World) : (binOp .add t (.float .f64 x) (.float .f64 y)).run P w = .ok (.float .f64 s) w :=
  run_float_arith w .add t .f64 x y s h

theorem add_some (x y max s : Nat) (w : World) (h : Ieee.double.add x y = some s) : Calls Tryz.prog 102 #[.float .f64 x, .float .f64 y, .float .f64 max] w fun e w' => e = .returned (.float .f64 (addF x y max)) ∧ w = w' := by
  have e1 := fun w => run_add_some (P := Tryz.prog) 26 x y s h w
  have e2 := add_not_nan h
  have e3 := x_from
  have hf := Lib.hid (addF_some max h); clear h
  cases h1 : (FloatKind.f64.format.order s max == some Ordering.lt) <;> cases h2 : (FloatKind.f64.format.order s 0 == some Ordering.eq)
  all_goals
    rw [hf.out, h1, h2]
    go_enter Tryz.func102, Tryz.ntmps102
    go_wp2_with (first | (go_at_call 70; refine (isnan _ _).mono ?_; rintro e w' ⟨rfl, rfl⟩) | (go_at_call 54; go_in))
    go_ret
    exact ⟨rfl, rfl⟩

theorem same_any (a b : Nat) (w : World) : Calls Tryz.prog 27 #[.float .f64 a, .float .f64 b] w fun e w' => e = .returned (.bool ((a : Int) == (b : Int))) ∧ w = w' := by
  have e := x_bits
  go_enter Tryz.func27, Tryz.ntmps27
  go_wp2
  go_ret
  exact ⟨rfl, rfl⟩

end Go.Proofs.YtjlfpjjfldbknaaGreat
end

section
namespace Go.Proofs.YtjlfpjjfldbknaaGreat
open Go.Fq

theorem refinf (a : Nat) (w : World) : Calls Tryz.prog 77 #[.float .f64 a] w fun e w' => e = .returned (.bool (infB a)) ∧ w = w' := by
  have H := Lib.hid (inf_two a)
  cases h1 : FloatKind.f64.format.order a MAXF == some .gt
  · have e1 : (FloatKind.f64.format.order a 9218868437227405311 == some .gt) = false := h1
    go_enter Tryz.func77, Tryz.ntmps77
    go_wp2
    go_ret
    exact ⟨ret_bool (by rw [← H.out, h1]; rfl), rfl⟩
  · have e1 : (FloatKind.f64.format.order a 9218868437227405311 == some .gt) = true := h1
    go_enter Tryz.func77, Tryz.ntmps77
    go_wp2
    go_ret
    exact ⟨ret_bool (by rw [← H.out, h1]; rfl), rfl⟩
set_option maxHeartbeats 400000 in
set_option maxHeartbeats 400000 in
theorem bounded_any (f most : Nat) (w : World) (hf : f < 2 ^ 64) : Calls Tryz.prog 57 #[.float .f64 f, .float .f64 most] w fun e w' => e = .returned (.int .i64 (withinF f most)) ∧ w = w' := by
  have H := Lib.hid hf; clear hf
  go_enter Tryz.func57, Tryz.ntmps57
  go_wp2_with (first | (go_at_call 76; refine (refnan _ _).mono ?_; rintro e w' ⟨rfl, rfl⟩) | (go_at_call 77; refine (refinf _ _).mono ?_; rintro e w' ⟨rfl, rfl⟩) | (go_at_call 78; refine (refsign _ _ H.out).mono ?_; rintro e w' ⟨rfl, rfl⟩) | (go_at_call 79; refine (refq _ _ (by assumption)).mono ?_; rintro e w' ⟨rfl, rfl⟩))
  all_goals (go_ret; exact ⟨ret_int (by simp [withinF, *]), rfl⟩)
theorem refweight_any (f : Nat) (w : World) (hf : f < 2 ^ 64) : Calls Tryz.prog 56 #[.float .f64 f] w fun e w' => e = .returned (.int .i64 (weightF f)) ∧ w = w' := by
  have H := Lib.hid hf; clear hf
  go_enter Tryz.func56, Tryz.ntmps56
  go_wp2_with (go_at_call 57; refine (bounded_any _ _ _ H.out).mono ?_; rintro e w' ⟨rfl, rfl⟩)
  go_ret
  exact ⟨rfl, rfl⟩
theorem limit_any (f : Nat) (w : World) (hf : f < 2 ^ 64) : Calls Tryz.prog 31 #[.float .f64 f] w fun e w' => e = .returned (.int .i64 (limitF f)) ∧ w = w' := by
  have H := Lib.hid hf; clear hf
  go_enter Tryz.func31, Tryz.ntmps31
  go_wp2_with (go_at_call 48; refine (within_any _ _ _ H.out).mono ?_; rintro e w' ⟨rfl, rfl⟩)
  go_ret
  exact ⟨rfl, rfl⟩
theorem reflimit_any (f : Nat) (w : World) (hf : f < 2 ^ 64) : Calls Tryz.prog 39 #[.float .f64 f] w fun e w' => e = .returned (.int .i64 (limitF f)) ∧ w = w' := by
  have H := Lib.hid hf; clear hf
  go_enter Tryz.func39, Tryz.ntmps39
  go_wp2_with (go_at_call 57; refine (bounded_any _ _ _ H.out).mono ?_; rintro e w' ⟨rfl, rfl⟩)
  go_ret
  exact ⟨rfl, rfl⟩
end Go.Proofs.YtjlfpjjfldbknaaGreat
end

section
namespace Go.Proofs.YtjlfpjjfldbknaaGreat
open Go.Fq Go.RowKit

theorem isinf1 (a : Nat) (w : World) (h : ng a = false) : Calls Tryz.prog 71 #[.float .f64 a, .int .i64 1] w fun e w' => e = .returned (.bool (infB a)) ∧ w = w' := by
  have H := Lib.hid (inf_one a h); clear h
  go_enter Tryz.func71, Tryz.ntmps71
  go_wp2_with fail
  go_ret
  exact ⟨ret_bool H.out, rfl⟩

/-- The bits of the NaN that a sum makes, off the tape. -/
def nanAt (w : World) (x y : Nat) : Nat := Question.cut (.nanBits .f64 x y) (w.tape w.drawn (.nanBits .f64 x y))
theorem nanAt_nan (w : World) (x y : Nat) : nanB (nanAt w x y) = true := nan_made _
theorem run_add_none {P : Program} (t : TypeId) (x y : Nat) (h : Ieee.double.add x y = none) (w : World) : (binOp .add t (.float .f64 x) (.float .f64 y)).run P w = .ok (.float .f64 (nanAt w x y)) w.drew := by
  have h' : FloatKind.f64.format.add x y = none := h
  simp [binOp, Op.floatArith, h', nanAt]
  intro hc; exact absurd hc (by simp [Question.forced])
theorem add_none (x y max : Nat) (w : World) (h : Ieee.double.add x y = none) : Calls Tryz.prog 102 #[.float .f64 x, .float .f64 y, .float .f64 max] w fun e w' => e = .returned (.float .f64 (addF x y max)) ∧ w' = w.drew := by
  have e1 := fun w => run_add_none (P := Tryz.prog) 26 x y h w
  have e2 := nanAt_nan w x y
  have e3 := x_from
  rw [addF_none max h]; clear h
  go_enter Tryz.func102, Tryz.ntmps102
  go_wp2_with (go_at_call 70; refine (isnan _ _).mono ?_; rintro e w' ⟨rfl, rfl⟩)
  go_ret
  exact ⟨rfl, rfl⟩
theorem refadd_some (x y max s : Nat) (w : World) (h : Ieee.double.add x y = some s) : Calls Tryz.prog 81 #[.float .f64 x, .float .f64 y, .float .f64 max] w fun e w' => e = .returned (.float .f64 (addF x y max)) ∧ w = w' := by
  have e1 := fun w => run_add_some (P := Tryz.prog) 26 x y s h w
  have e2 := add_not_nan h
  have e3 := x_from
  have hf := Lib.hid (addF_some max h); clear h
  cases h1 : (FloatKind.f64.format.order s max == some Ordering.lt) <;> cases h2 : (FloatKind.f64.format.order s 0 == some Ordering.eq)
  all_goals
    rw [hf.out, h1, h2]
    go_enter Tryz.func81, Tryz.ntmps81
    go_wp2_with (first | (go_at_call 76; refine (refnan _ _).mono ?_; rintro e w' ⟨rfl, rfl⟩) | (go_at_call 54; go_in))
    go_ret
    exact ⟨rfl, rfl⟩

end Go.Proofs.YtjlfpjjfldbknaaGreat
end
