/- The walks of the small functions on floats: package math's tests, and whether a float is a multiple of a quarter. The walks that every seat of layer 1 needs: weights, sums that are no NaN, and that the layer answers at all. The walks of layer 1's functions and of the document's own: weights, limits, distances, the order. Distances, sums, the order, the laws over them. -/
import Derived.Test.YtjhmfmpaaljegaaGreatChecked
import Derived.Tactics
import Derived.Tactics2
import Derived.StillTactics
import Derived.WalkKit
import Derived.WalkLawsBesides
import Derived.Outline
import Derived.KernelRfl
import Derived.Laws.Externs
import Derived.Lib.Hide
import Derived.Test.YtjhmfmpaaljegaaGreatFqA
import Derived.RowKit3
import Derived.BigQuiet
import Derived.Deep.QuietTactic
section
namespace Go.Proofs.YtjhmfmpaaljegaaGreat
open Go.Fq

theorem x_bits (b : Nat) (w : World) : (callFunc 36 #[.float .f64 b]).run Tryz.prog w = .ok (.value (.int .u64 b)) w := by
  rw [run_callFunc_extern Tryz.func36 (by kernel_rfl) (by kernel_rfl) (by kernel_rfl) (e := Extern.MathFloatBits.float64bits) (by kernel_rfl)]; rfl
theorem x_from (b : Int) (w : World) : (callFunc 111 #[.int .u64 b]).run Tryz.prog w = .ok (.value (.float .f64 b.toNat)) w := by
  rw [run_callFunc_extern Tryz.func111 (by kernel_rfl) (by kernel_rfl) (by kernel_rfl) (e := Extern.MathFloatBits.float64frombits) (by kernel_rfl)]; rfl
theorem run_toInt {P : Program} (name : String) (way : Ieee.Toward) (x : Nat) (h : nanB x = false) (w : World) :
    (Extern.MathFloor.toIntegral name way #[.float .f64 x]).run P w = .ok (.float .f64 (truncD way x)) w := by
  unfold Extern.MathFloor.toIntegral truncD
  have hn := not_isNaN_read x h
  show Sem.run P (match Ieee.double.read x with
    | .nan s t => _
    | d => _) w = _
  generalize Ieee.double.read x = d at hn
  cases d with
  | nan s t => exact absurd rfl (hn s t)
  | number s m e => rfl
  | infinity s => rfl
theorem x_trunc (x : Nat) (h : nanB x = false) (w : World) : (callFunc 112 #[.float .f64 x]).run Tryz.prog w = .ok (.value (.float .f64 (truncD .zero x))) w := by
  rw [run_callFunc_extern Tryz.func112 (by kernel_rfl) (by kernel_rfl) (by kernel_rfl) (e := Extern.MathFloor.toIntegral "math.archTrunc" .zero) (by kernel_rfl), run_toInt _ _ _ h]; rfl

theorem isnan (a : Nat) (w : World) : Calls Tryz.prog 78 #[.float .f64 a] w fun e w' => e = .returned (.bool (nanB a)) ∧ w = w' := by
  cases h : nanB a
  · have e := od_self h; clear h
    go_enter Tryz.func78, Tryz.ntmps78
    go_wp2
    go_ret
    exact ⟨rfl, rfl⟩
  · have e := od_nan_l a h; clear h
    go_enter Tryz.func78, Tryz.ntmps78
    go_wp2
    go_ret
    exact ⟨rfl, rfl⟩
theorem refnan (a : Nat) (w : World) : Calls Tryz.prog 81 #[.float .f64 a] w fun e w' => e = .returned (.bool (nanB a)) ∧ w = w' := by
  cases h : nanB a
  · have e := od_self h; clear h
    go_enter Tryz.func81, Tryz.ntmps81
    go_wp2
    go_ret
    exact ⟨rfl, rfl⟩
  · have e := od_nan_l a h; clear h
    go_enter Tryz.func81, Tryz.ntmps81
    go_wp2
    go_ret
    exact ⟨rfl, rfl⟩
theorem ret_bool {a b : Bool} (h : a = b) : Ending.returned (.bool a) = .returned (.bool b) := by rw [h]
theorem ret_float {a b : Nat} (h : a = b) : Ending.returned (.float .f64 a) = .returned (.float .f64 b) := by rw [h]
theorem signbit (a : Nat) (w : World) (h : a < 2 ^ 64) : Calls Tryz.prog 79 #[.float .f64 a] w fun e w' => e = .returned (.bool (ng a)) ∧ w = w' := by
  have H := Lib.hid h; clear h
  have e := x_bits
  go_enter Tryz.func79, Tryz.ntmps79
  go_wp2
  go_ret
  exact ⟨ret_bool (ng_wrap a H.out), rfl⟩
theorem refsign (a : Nat) (w : World) (h : a < 2 ^ 64) : Calls Tryz.prog 83 #[.float .f64 a] w fun e w' => e = .returned (.bool (ng a)) ∧ w = w' := by
  have H := Lib.hid h; clear h
  have e := x_bits
  go_enter Tryz.func83, Tryz.ntmps83
  go_wp2
  go_ret
  exact ⟨ret_bool (ng_div a H.out), rfl⟩
theorem abs_any (a : Nat) (w : World) (h : a < 2 ^ 64) : Calls Tryz.prog 98 #[.float .f64 a] w fun e w' => e = .returned (.float .f64 (mg a)) ∧ w = w' := by
  have H := Lib.hid h; clear h
  have e := x_bits
  have e2 := x_from
  go_enter Tryz.func98, Tryz.ntmps98
  go_wp2
  go_ret
  exact ⟨ret_float (abs_bits a H.out), rfl⟩
theorem isinf0 (a : Nat) (w : World) (h : a < 2 ^ 64) : Calls Tryz.prog 74 #[.float .f64 a, .int .i64 0] w fun e w' => e = .returned (.bool (infB a)) ∧ w = w' := by
  have H := Lib.hid h; clear h
  go_enter Tryz.func74, Tryz.ntmps74
  go_wp2_with (go_at_call 98; refine (abs_any _ _ H.out).mono ?_; rintro e w' ⟨rfl, rfl⟩)
  go_ret
  exact ⟨ret_bool (inf_of_gt a), rfl⟩
theorem trunc_any (a : Nat) (w : World) (h : nanB a = false) : Calls Tryz.prog 99 #[.float .f64 a] w fun e w' => e = .returned (.float .f64 (truncD .zero a)) ∧ w = w' := by
  have e := x_trunc a h
  clear h
  go_enter Tryz.func99, Tryz.ntmps99
  go_wp2
  go_ret
  exact ⟨rfl, rfl⟩
theorem run_mul4 {P : Program} (f : Nat) (h : nanB f = false) (w : World) : (binOp .mul 28 (.float .f64 f) (.float .f64 4616189618054758400)).run P w = .ok (.float .f64 (mul4 f)) w :=
  run_float_arith w .mul _ .f64 f _ _ (mul4_some f h).1
theorem inq (a : Nat) (w : World) (h : nanB a = false) : Calls Tryz.prog 80 #[.float .f64 a] w fun e w' => e = .returned (.bool (qF a)) ∧ w = w' := by
  have e := run_mul4 (P := Tryz.prog) a h
  have hn := Lib.hid (mul4_some a h).2
  clear h
  go_enter Tryz.func80, Tryz.ntmps80
  go_wp2_with (go_at_call 99; refine (trunc_any _ _ hn.out).mono ?_; rintro e w' ⟨rfl, rfl⟩)
  go_ret
  exact ⟨rfl, rfl⟩
theorem refq (a : Nat) (w : World) (h : nanB a = false) : Calls Tryz.prog 84 #[.float .f64 a] w fun e w' => e = .returned (.bool (qF a)) ∧ w = w' := by
  have e := run_mul4 (P := Tryz.prog) a h
  have hn := Lib.hid (mul4_some a h).2
  clear h
  go_enter Tryz.func84, Tryz.ntmps84
  go_wp2_with (go_at_call 99; refine (trunc_any _ _ hn.out).mono ?_; rintro e w' ⟨rfl, rfl⟩)
  go_ret
  exact ⟨rfl, rfl⟩
end Go.Proofs.YtjhmfmpaaljegaaGreat
end

section
namespace Go.Proofs.YtjhmfmpaaljegaaGreat
open Go.Fq Go.RowKit

theorem ret_int {a b : Int} (h : a = b) : Ending.returned (.int .i64 a) = .returned (.int .i64 b) := by rw [h]

theorem within_any (f most : Nat) (w : World) (hf : f < 2 ^ 64) : Calls Tryz.prog 65 #[.float .f64 f, .float .f64 most] w fun e w' => e = .returned (.int .i64 (withinF f most)) ∧ w = w' := by
  have H := Lib.hid hf; clear hf
  go_enter Tryz.func65, Tryz.ntmps65
  go_wp2_with (first | (go_at_call 78; refine (isnan _ _).mono ?_; rintro e w' ⟨rfl, rfl⟩) | (go_at_call 74; refine (isinf0 _ _ H.out).mono ?_; rintro e w' ⟨rfl, rfl⟩) | (go_at_call 79; refine (signbit _ _ H.out).mono ?_; rintro e w' ⟨rfl, rfl⟩) | (go_at_call 80; refine (inq _ _ (by assumption)).mono ?_; rintro e w' ⟨rfl, rfl⟩))
  all_goals (go_ret; exact ⟨ret_int (by simp [withinF, *]), rfl⟩)
theorem weight_any (f : Nat) (w : World) (hf : f < 2 ^ 64) : Calls Tryz.prog 52 #[.float .f64 f] w fun e w' => e = .returned (.int .i64 (weightF f)) ∧ w = w' := by
  have H := Lib.hid hf; clear hf
  go_enter Tryz.func52, Tryz.ntmps52
  go_wp2_with (go_at_call 65; refine (within_any _ _ _ H.out).mono ?_; rintro e w' ⟨rfl, rfl⟩)
  go_ret
  exact ⟨rfl, rfl⟩
theorem run_add_some {P : Program} (t : TypeId) (x y s : Nat) (h : Ieee.double.add x y = some s) (w : World) : (binOp .add t (.float .f64 x) (.float .f64 y)).run P w = .ok (.float .f64 s) w :=
  run_float_arith w .add t .f64 x y s h

theorem same_any (a b : Nat) (w : World) : Calls Tryz.prog 37 #[.float .f64 a, .float .f64 b] w fun e w' => e = .returned (.bool ((a : Int) == (b : Int))) ∧ w = w' := by
  have e := x_bits
  go_enter Tryz.func37, Tryz.ntmps37
  go_wp2
  go_ret
  exact ⟨rfl, rfl⟩

end Go.Proofs.YtjhmfmpaaljegaaGreat
end

section
namespace Go.Proofs.YtjhmfmpaaljegaaGreat
open Go.Fq

theorem refinf (a : Nat) (w : World) : Calls Tryz.prog 82 #[.float .f64 a] w fun e w' => e = .returned (.bool (infB a)) ∧ w = w' := by
  have H := Lib.hid (inf_two a)
  cases h1 : FloatKind.f64.format.order a MAXF == some .gt
  · have e1 : (FloatKind.f64.format.order a 9218868437227405311 == some .gt) = false := h1
    go_enter Tryz.func82, Tryz.ntmps82
    go_wp2
    go_ret
    exact ⟨ret_bool (by rw [← H.out, h1]; rfl), rfl⟩
  · have e1 : (FloatKind.f64.format.order a 9218868437227405311 == some .gt) = true := h1
    go_enter Tryz.func82, Tryz.ntmps82
    go_wp2
    go_ret
    exact ⟨ret_bool (by rw [← H.out, h1]; rfl), rfl⟩
set_option maxHeartbeats 400000 in
set_option maxHeartbeats 400000 in
theorem bounded_any (f most : Nat) (w : World) (hf : f < 2 ^ 64) : Calls Tryz.prog 66 #[.float .f64 f, .float .f64 most] w fun e w' => e = .returned (.int .i64 (withinF f most)) ∧ w = w' := by
  have H := Lib.hid hf; clear hf
  go_enter Tryz.func66, Tryz.ntmps66
  go_wp2_with (first | (go_at_call 81; refine (refnan _ _).mono ?_; rintro e w' ⟨rfl, rfl⟩) | (go_at_call 82; refine (refinf _ _).mono ?_; rintro e w' ⟨rfl, rfl⟩) | (go_at_call 83; refine (refsign _ _ H.out).mono ?_; rintro e w' ⟨rfl, rfl⟩) | (go_at_call 84; refine (refq _ _ (by assumption)).mono ?_; rintro e w' ⟨rfl, rfl⟩))
  all_goals (go_ret; exact ⟨ret_int (by simp [withinF, *]), rfl⟩)
theorem refweight_any (f : Nat) (w : World) (hf : f < 2 ^ 64) : Calls Tryz.prog 54 #[.float .f64 f] w fun e w' => e = .returned (.int .i64 (weightF f)) ∧ w = w' := by
  have H := Lib.hid hf; clear hf
  go_enter Tryz.func54, Tryz.ntmps54
  go_wp2_with (go_at_call 66; refine (bounded_any _ _ _ H.out).mono ?_; rintro e w' ⟨rfl, rfl⟩)
  go_ret
  exact ⟨rfl, rfl⟩
theorem limit_any (f : Nat) (w : World) (hf : f < 2 ^ 64) : Calls Tryz.prog 132 #[.float .f64 f] w fun e w' => e = .returned (.int .i64 (limitF f)) ∧ w = w' := by
  have H := Lib.hid hf; clear hf
  go_enter Tryz.func132, Tryz.ntmps132
  go_wp2_with (go_at_call 65; refine (within_any _ _ _ H.out).mono ?_; rintro e w' ⟨rfl, rfl⟩)
  go_ret
  exact ⟨rfl, rfl⟩
end Go.Proofs.YtjhmfmpaaljegaaGreat
end

section
namespace Go.Proofs.YtjhmfmpaaljegaaGreat
open Go.Fq Go.RowKit

theorem isinf1 (a : Nat) (w : World) (h : ng a = false) : Calls Tryz.prog 74 #[.float .f64 a, .int .i64 1] w fun e w' => e = .returned (.bool (infB a)) ∧ w = w' := by
  have H := Lib.hid (inf_one a h); clear h
  go_enter Tryz.func74, Tryz.ntmps74
  go_wp2_with fail
  go_ret
  exact ⟨ret_bool H.out, rfl⟩

set_option maxHeartbeats 400000 in
theorem dist_any (d max : Nat) (w : World) (hd : d < 2 ^ 64) (hm : max < 2 ^ 64) : Calls Tryz.prog 130 #[.float .f64 d, .float .f64 max] w fun e w' => e = .returned (.int .i64 (distF d max)) ∧ w = w' := by
  have H := Lib.hid hd; clear hd
  have H2 := Lib.hid hm; clear hm
  go_enter Tryz.func130, Tryz.ntmps130
  go_wp2_with (first | (go_at_call 78; refine (isnan _ _).mono ?_; rintro e w' ⟨rfl, rfl⟩) | (go_at_call 74; refine (isinf1 _ _ (by assumption)).mono ?_; rintro e w' ⟨rfl, rfl⟩) | (go_at_call 79; refine (signbit _ _ H.out).mono ?_; rintro e w' ⟨rfl, rfl⟩) | (go_at_call 80; refine (inq _ _ (by assumption)).mono ?_; rintro e w' ⟨rfl, rfl⟩) | (go_at_call 132; refine (limit_any _ _ H2.out).mono ?_; rintro e w' ⟨rfl, rfl⟩))
  all_goals (go_ret; exact ⟨ret_int (by first | (simp [distF, *]; done) | (rename_i hor; rcases hor with hh | hh <;> simp [distF, *])), rfl⟩)
/-- The bits of the NaN that a sum makes, off the tape. -/
def nanAt (w : World) (x y : Nat) : Nat := Question.cut (.nanBits .f64 x y) (w.tape w.drawn (.nanBits .f64 x y))
theorem nanAt_nan (w : World) (x y : Nat) : nanB (nanAt w x y) = true := nan_made _
theorem run_add_none {P : Program} (t : TypeId) (x y : Nat) (h : Ieee.double.add x y = none) (w : World) : (binOp .add t (.float .f64 x) (.float .f64 y)).run P w = .ok (.float .f64 (nanAt w x y)) w.drew := by
  have h' : FloatKind.f64.format.add x y = none := h
  simp [binOp, Op.floatArith, h', nanAt]
  intro hc; exact absurd hc (by simp [Question.forced])
end Go.Proofs.YtjhmfmpaaljegaaGreat
end
