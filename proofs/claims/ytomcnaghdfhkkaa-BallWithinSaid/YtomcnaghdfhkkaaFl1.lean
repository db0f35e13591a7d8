/- The walks of the small functions on floats: package math's tests, and whether a float is a multiple of a quarter. The walks that every seat of layer 1 needs: weights, sums that are no NaN, and that the layer answers at all. The walks of layer 1's functions and of the document's own: weights, limits, distances, the order. Distances, sums, the order, the laws over them. -/
import Derived.Test.YtomcnaghdfhkkaaChecked
import Derived.Tactics
import Derived.Tactics2
import Derived.StillTactics
import Derived.WalkKit
import Derived.WalkLawsBesides
import Derived.Outline
import Derived.KernelRfl
import Derived.Laws.Externs
import Derived.Lib.Hide
import Derived.Test.YtomcnaghdfhkkaaFqA
import Derived.RowKit3
import Derived.BigQuiet
import Derived.Deep.QuietTactic
section
namespace Go.Proofs.Ytomcnaghdfhkkaa
open Go.Fq

theorem x_bits (b : Nat) (w : World) : (callFunc 11 #[.float .f64 b]).run Try.prog w = .ok (.value (.int .u64 b)) w := by
  rw [run_callFunc_extern Try.func11 (by kernel_rfl) (by kernel_rfl) (by kernel_rfl) (e := Extern.MathFloatBits.float64bits) (by kernel_rfl)]; rfl
theorem x_from (b : Int) (w : World) : (callFunc 52 #[.int .u64 b]).run Try.prog w = .ok (.value (.float .f64 b.toNat)) w := by
  rw [run_callFunc_extern Try.func52 (by kernel_rfl) (by kernel_rfl) (by kernel_rfl) (e := Extern.MathFloatBits.float64frombits) (by kernel_rfl)]; rfl
theorem run_toInt {P : Program} (name : String) (way : Ieee.Toward) (x : Nat) (h : nanB x = false) (w : World) :
    (Extern.MathFloor.toIntegral name way #[.float .f64 x]).run P w = .ok (.float .f64 (truncD way x)) w := by
  unfold Extern.MathFloor.toIntegral truncD
  have hn := not_isNaN_read x h
  show Sem.run P (match Ieee.double.read x with
    | .nan s t => _
    | d => _) w = _
  generalize Ieee.double.read x = d at hn
  cases d with
  | nan s t => exact absurd rfl (hn s t)
  | number s m e => rfl
  | infinity s => rfl
theorem x_trunc (x : Nat) (h : nanB x = false) (w : World) : (callFunc 99 #[.float .f64 x]).run Try.prog w = .ok (.value (.float .f64 (truncD .zero x))) w := by
  rw [run_callFunc_extern Try.func99 (by kernel_rfl) (by kernel_rfl) (by kernel_rfl) (e := Extern.MathFloor.toIntegral "math.archTrunc" .zero) (by kernel_rfl), run_toInt _ _ _ h]; rfl

theorem isnan (a : Nat) (w : World) : Calls Try.prog 82 #[.float .f64 a] w fun e w' => e = .returned (.bool (nanB a)) ∧ w = w' := by
  cases h : nanB a
  · have e := od_self h; clear h
    go_enter Try.func82, Try.ntmps82
    go_wp2
    go_ret
    exact ⟨rfl, rfl⟩
  · have e := od_nan_l a h; clear h
    go_enter Try.func82, Try.ntmps82
    go_wp2
    go_ret
    exact ⟨rfl, rfl⟩
theorem refnan (a : Nat) (w : World) : Calls Try.prog 76 #[.float .f64 a] w fun e w' => e = .returned (.bool (nanB a)) ∧ w = w' := by
  cases h : nanB a
  · have e := od_self h; clear h
    go_enter Try.func76, Try.ntmps76
    go_wp2
    go_ret
    exact ⟨rfl, rfl⟩
  · have e := od_nan_l a h; clear h
    go_enter Try.func76, Try.ntmps76
    go_wp2
    go_ret
    exact ⟨rfl, rfl⟩
theorem ret_bool {a b : Bool} (h : a = b) : Ending.returned (.bool a) = .returned (.bool b) := by rw [h]
theorem ret_float {a b : Nat} (h : a = b) : Ending.returned (.float .f64 a) = .returned (.float .f64 b) := by rw [h]
theorem signbit (a : Nat) (w : World) (h : a < 2 ^ 64) : Calls Try.prog 92 #[.float .f64 a] w fun e w' => e = .returned (.bool (ng a)) ∧ w = w' := by
  have H := Lib.hid h; clear h
  have e := x_bits
  go_enter Try.func92, Try.ntmps92
  go_wp2
  go_ret
  exact ⟨ret_bool (ng_wrap a H.out), rfl⟩
theorem refsign (a : Nat) (w : World) (h : a < 2 ^ 64) : Calls Try.prog 78 #[.float .f64 a] w fun e w' => e = .returned (.bool (ng a)) ∧ w = w' := by
  have H := Lib.hid h; clear h
  have e := x_bits
  go_enter Try.func78, Try.ntmps78
  go_wp2
  go_ret
  exact ⟨ret_bool (ng_div a H.out), rfl⟩
theorem abs_any (a : Nat) (w : World) (h : a < 2 ^ 64) : Calls Try.prog 39 #[.float .f64 a] w fun e w' => e = .returned (.float .f64 (mg a)) ∧ w = w' := by
  have H := Lib.hid h; clear h
  have e := x_bits
  have e2 := x_from
  go_enter Try.func39, Try.ntmps39
  go_wp2
  go_ret
  exact ⟨ret_float (abs_bits a H.out), rfl⟩
theorem isinf0 (a : Nat) (w : World) (h : a < 2 ^ 64) : Calls Try.prog 15 #[.float .f64 a, .int .i64 0] w fun e w' => e = .returned (.bool (infB a)) ∧ w = w' := by
  have H := Lib.hid h; clear h
  go_enter Try.func15, Try.ntmps15
  go_wp2_with (go_at_call 39; refine (abs_any _ _ H.out).mono ?_; rintro e w' ⟨rfl, rfl⟩)
  go_ret
  exact ⟨ret_bool (inf_of_gt a), rfl⟩
theorem trunc_any (a : Nat) (w : World) (h : nanB a = false) : Calls Try.prog 94 #[.float .f64 a] w fun e w' => e = .returned (.float .f64 (truncD .zero a)) ∧ w = w' := by
  have e := x_trunc a h
  clear h
  go_enter Try.func94, Try.ntmps94
  go_wp2
  go_ret
  exact ⟨rfl, rfl⟩
theorem run_mul4 {P : Program} (f : Nat) (h : nanB f = false) (w : World) : (binOp .mul 26 (.float .f64 f) (.float .f64 4616189618054758400)).run P w = .ok (.float .f64 (mul4 f)) w :=
  run_float_arith w .mul _ .f64 f _ _ (mul4_some f h).1
theorem inq (a : Nat) (w : World) (h : nanB a = false) : Calls Try.prog 93 #[.float .f64 a] w fun e w' => e = .returned (.bool (qF a)) ∧ w = w' := by
  have e := run_mul4 (P := Try.prog) a h
  have hn := Lib.hid (mul4_some a h).2
  clear h
  go_enter Try.func93, Try.ntmps93
  go_wp2_with (go_at_call 94; refine (trunc_any _ _ hn.out).mono ?_; rintro e w' ⟨rfl, rfl⟩)
  go_ret
  exact ⟨rfl, rfl⟩
theorem refq (a : Nat) (w : World) (h : nanB a = false) : Calls Try.prog 79 #[.float .f64 a] w fun e w' => e = .returned (.bool (qF a)) ∧ w = w' := by
  have e := run_mul4 (P := Try.prog) a h
  have hn := Lib.hid (mul4_some a h).2
  clear h
  go_enter Try.func79, Try.ntmps79
  go_wp2_with (go_at_call 94; refine (trunc_any _ _ hn.out).mono ?_; rintro e w' ⟨rfl, rfl⟩)
  go_ret
  exact ⟨rfl, rfl⟩
end Go.Proofs.Ytomcnaghdfhkkaa
end

section
namespace Go.Proofs.Ytomcnaghdfhkkaa
open Go.Fq Go.RowKit

theorem ret_int {a b : Int} (h : a = b) : Ending.returned (.int .i64 a) = .returned (.int .i64 b) := by rw [h]

theorem within_any (f most : Nat) (w : World) (hf : f < 2 ^ 64) : Calls Try.prog 75 #[.float .f64 f, .float .f64 most] w fun e w' => e = .returned (.int .i64 (withinF f most)) ∧ w = w' := by
  have H := Lib.hid hf; clear hf
  go_enter Try.func75, Try.ntmps75
  go_wp2_with (first | (go_at_call 82; refine (isnan _ _).mono ?_; rintro e w' ⟨rfl, rfl⟩) | (go_at_call 15; refine (isinf0 _ _ H.out).mono ?_; rintro e w' ⟨rfl, rfl⟩) | (go_at_call 92; refine (signbit _ _ H.out).mono ?_; rintro e w' ⟨rfl, rfl⟩) | (go_at_call 93; refine (inq _ _ (by assumption)).mono ?_; rintro e w' ⟨rfl, rfl⟩))
  all_goals (go_ret; exact ⟨ret_int (by simp [withinF, *]), rfl⟩)
theorem weight_any (f : Nat) (w : World) (hf : f < 2 ^ 64) : Calls Try.prog 90 #[.float .f64 f] w fun e w' => e = .returned (.int .i64 (weightF f)) ∧ w = w' := by
  have H := Lib.hid hf; clear hf
  go_enter Try.func90, Try.ntmps90
  go_wp2_with (go_at_call 75; refine (within_any _ _ _ H.out).mono ?_; rintro e w' ⟨rfl, rfl⟩)
  go_ret
  exact ⟨rfl, rfl⟩
theorem run_add_some {P : Program} (t : TypeId) (x y s : Nat) (h : Ieee.double.add x y = some s) (w : World) : (binOp .add t (.float .f64 x) (.float .f64 y)).run P w = .ok (.float .f64 s) w :=
  run_float_arith w .add t .f64 x y s h

theorem add_some (x y max s : Nat) (w : World) (h : Ieee.double.add x y = some s) : Calls Try.prog 63 #[.float .f64 x, .float .f64 y, .float .f64 max] w fun e w' => e = .returned (.float .f64 (addF x y max)) ∧ w = w' := by
  have e1 := fun w => run_add_some (P := Try.prog) 26 x y s h w
  have e2 := add_not_nan h
  have e3 := x_from
  have hf := Lib.hid (addF_some max h); clear h
  cases h1 : (FloatKind.f64.format.order s max == some Ordering.lt) <;> cases h2 : (FloatKind.f64.format.order s 0 == some Ordering.eq)
  all_goals
    rw [hf.out, h1, h2]
    go_enter Try.func63, Try.ntmps63
    go_wp2_with (first | (go_at_call 82; refine (isnan _ _).mono ?_; rintro e w' ⟨rfl, rfl⟩) | (go_at_call 27; go_in))
    go_ret
    exact ⟨rfl, rfl⟩

theorem same_any (a b : Nat) (w : World) : Calls Try.prog 44 #[.float .f64 a, .float .f64 b] w fun e w' => e = .returned (.bool ((a : Int) == (b : Int))) ∧ w = w' := by
  have e := x_bits
  go_enter Try.func44, Try.ntmps44
  go_wp2
  go_ret
  exact ⟨rfl, rfl⟩

end Go.Proofs.Ytomcnaghdfhkkaa
end

section
namespace Go.Proofs.Ytomcnaghdfhkkaa
open Go.Fq

theorem refinf (a : Nat) (w : World) : Calls Try.prog 77 #[.float .f64 a] w fun e w' => e = .returned (.bool (infB a)) ∧ w = w' := by
  have H := Lib.hid (inf_two a)
  cases h1 : FloatKind.f64.format.order a MAXF == some .gt
  · have e1 : (FloatKind.f64.format.order a 9218868437227405311 == some .gt) = false := h1
    go_enter Try.func77, Try.ntmps77
    go_wp2
    go_ret
    exact ⟨ret_bool (by rw [← H.out, h1]; rfl), rfl⟩
  · have e1 : (FloatKind.f64.format.order a 9218868437227405311 == some .gt) = true := h1
    go_enter Try.func77, Try.ntmps77
    go_wp2
    go_ret
    exact ⟨ret_bool (by rw [← H.out, h1]; rfl), rfl⟩
set_option maxHeartbeats 400000 in
set_option maxHeartbeats 400000 in
theorem bounded_any (f most : Nat) (w : World) (hf : f < 2 ^ 64) : Calls Try.prog 57 #[.float .f64 f, .float .f64 most] w fun e w' => e = .returned (.int .i64 (withinF f most)) ∧ w = w' := by
  have H := Lib.hid hf; clear hf
  go_enter Try.func57, Try.ntmps57
  go_wp2_with (first | (go_at_call 76; refine (refnan _ _).mono ?_; rintro e w' ⟨rfl, rfl⟩) | (go_at_call 77; refine (refinf _ _).mono ?_; rintro e w' ⟨rfl, rfl⟩) | (go_at_call 78; refine (refsign _ _ H.out).mono ?_; rintro e w' ⟨rfl, rfl⟩) | (go_at_call 79; refine (refq _ _ (by assumption)).mono ?_; rintro e w' ⟨rfl, rfl⟩))
  all_goals (go_ret; exact ⟨ret_int (by simp [withinF, *]), rfl⟩)
theorem refweight_any (f : Nat) (w : World) (hf : f < 2 ^ 64) : Calls Try.prog 55 #[.float .f64 f] w fun e w' => e = .returned (.int .i64 (weightF f)) ∧ w = w' := by
  have H := Lib.hid hf; clear hf
  go_enter Try.func55, Try.ntmps55
  go_wp2_with (go_at_call 57; refine (bounded_any _ _ _ H.out).mono ?_; rintro e w' ⟨rfl, rfl⟩)
  go_ret
  exact ⟨rfl, rfl⟩
theorem limit_any (f : Nat) (w : World) (hf : f < 2 ^ 64) : Calls Try.prog 56 #[.float .f64 f] w fun e w' => e = .returned (.int .i64 (limitF f)) ∧ w = w' := by
  have H := Lib.hid hf; clear hf
  go_enter Try.func56, Try.ntmps56
  go_wp2_with (go_at_call 75; refine (within_any _ _ _ H.out).mono ?_; rintro e w' ⟨rfl, rfl⟩)
  go_ret
  exact ⟨rfl, rfl⟩
theorem reflimit_any (f : Nat) (w : World) (hf : f < 2 ^ 64) : Calls Try.prog 32 #[.float .f64 f] w fun e w' => e = .returned (.int .i64 (limitF f)) ∧ w = w' := by
  have H := Lib.hid hf; clear hf
  go_enter Try.func32, Try.ntmps32
  go_wp2_with (go_at_call 57; refine (bounded_any _ _ _ H.out).mono ?_; rintro e w' ⟨rfl, rfl⟩)
  go_ret
  exact ⟨rfl, rfl⟩
end Go.Proofs.Ytomcnaghdfhkkaa
end

section
namespace Go.Proofs.Ytomcnaghdfhkkaa
open Go.Fq Go.RowKit

theorem isinf1 (a : Nat) (w : World) (h : ng a = false) : Calls Try.prog 15 #[.float .f64 a, .int .i64 1] w fun e w' => e = .returned (.bool (infB a)) ∧ w = w' := by
  have H := Lib.hid (inf_one a h); clear h
  go_enter Try.func15, Try.ntmps15
  go_wp2_with fail
  go_ret
  exact ⟨ret_bool H.out, rfl⟩

theorem compare_any (a b : Nat) (w : World) : Calls Try.prog 83 #[.float .f64 a, .float .f64 b] w fun e w' => e = .returned (.int .i64 (cmpF a b)) ∧ w = w' := by
  have e1 := Lib.hid (cmp_lt a b)
  have e2 := Lib.hid (cmp_gt a b)
  cases ha : nanB a <;> cases hb : nanB b
  · rcases Int.lt_trichotomy (ik a) (ik b) with h | h | h
    · have hl : (FloatKind.f64.format.order a b == some Ordering.lt) = true := by rw [e1.out, ha, hb]; simp [h]
      have hf : cmpF a b = -1 := by unfold cmpF; rw [ha, hb]; simp [h]
      rw [hf]; clear hf h
      go_enter Try.func83, Try.ntmps83
      go_wp2_with (go_at_call 82; refine (isnan _ _).mono ?_; rintro e w' ⟨rfl, rfl⟩)
      go_ret
      exact ⟨rfl, rfl⟩
    · have hl : (FloatKind.f64.format.order a b == some Ordering.lt) = false := by rw [e1.out, ha, hb]; simp; omega
      have hg : (FloatKind.f64.format.order a b == some Ordering.gt) = false := by rw [e2.out, ha, hb]; simp; omega
      have hf : cmpF a b = 0 := by unfold cmpF; rw [ha, hb]; simp [h]
      rw [hf]; clear hf h
      go_enter Try.func83, Try.ntmps83
      go_wp2_with (go_at_call 82; refine (isnan _ _).mono ?_; rintro e w' ⟨rfl, rfl⟩)
      go_ret
      exact ⟨rfl, rfl⟩
    · have hl : (FloatKind.f64.format.order a b == some Ordering.lt) = false := by rw [e1.out, ha, hb]; simp; omega
      have hg : (FloatKind.f64.format.order a b == some Ordering.gt) = true := by rw [e2.out, ha, hb]; simp [h]
      have hf : cmpF a b = 1 := by unfold cmpF; rw [ha, hb]; simp [h]; omega
      rw [hf]; clear hf h
      go_enter Try.func83, Try.ntmps83
      go_wp2_with (go_at_call 82; refine (isnan _ _).mono ?_; rintro e w' ⟨rfl, rfl⟩)
      go_ret
      exact ⟨rfl, rfl⟩
  all_goals
    have hl : (FloatKind.f64.format.order a b == some Ordering.lt) = false := by rw [e1.out, ha, hb]; simp
    have hg : (FloatKind.f64.format.order a b == some Ordering.gt) = false := by rw [e2.out, ha, hb]; simp
    have hf : cmpF a b = if nanB a then (if nanB b then 0 else 1) else if nanB b then -1 else 0 := by unfold cmpF; rw [ha, hb]; simp
    rw [ha, hb] at hf
    simp only [Bool.false_eq_true, if_false, if_true] at hf
    rw [hf]; clear hf
    go_enter Try.func83, Try.ntmps83
    go_wp2_with (go_at_call 82; refine (isnan _ _).mono ?_; rintro e w' ⟨rfl, rfl⟩)
    go_ret
    exact ⟨rfl, rfl⟩

/-- The bits of the NaN that a sum makes, off the tape. -/
def nanAt (w : World) (x y : Nat) : Nat := Question.cut (.nanBits .f64 x y) (w.tape w.drawn (.nanBits .f64 x y))
theorem nanAt_nan (w : World) (x y : Nat) : nanB (nanAt w x y) = true := nan_made _
theorem run_add_none {P : Program} (t : TypeId) (x y : Nat) (h : Ieee.double.add x y = none) (w : World) : (binOp .add t (.float .f64 x) (.float .f64 y)).run P w = .ok (.float .f64 (nanAt w x y)) w.drew := by
  have h' : FloatKind.f64.format.add x y = none := h
  simp [binOp, Op.floatArith, h', nanAt]
  intro hc; exact absurd hc (by simp [Question.forced])
theorem add_none (x y max : Nat) (w : World) (h : Ieee.double.add x y = none) : Calls Try.prog 63 #[.float .f64 x, .float .f64 y, .float .f64 max] w fun e w' => e = .returned (.float .f64 (addF x y max)) ∧ w' = w.drew := by
  have e1 := fun w => run_add_none (P := Try.prog) 26 x y h w
  have e2 := nanAt_nan w x y
  have e3 := x_from
  rw [addF_none max h]; clear h
  go_enter Try.func63, Try.ntmps63
  go_wp2_with (go_at_call 82; refine (isnan _ _).mono ?_; rintro e w' ⟨rfl, rfl⟩)
  go_ret
  exact ⟨rfl, rfl⟩
theorem refadd_none (x y max : Nat) (w : World) (h : Ieee.double.add x y = none) : Calls Try.prog 58 #[.float .f64 x, .float .f64 y, .float .f64 max] w fun e w' => e = .returned (.float .f64 (addF x y max)) ∧ w' = w.drew := by
  have e1 := fun w => run_add_none (P := Try.prog) 26 x y h w
  have e2 := nanAt_nan w x y
  have e3 := x_from
  rw [addF_none max h]; clear h
  go_enter Try.func58, Try.ntmps58
  go_wp2_with (first | (go_at_call 76; refine (refnan _ _).mono ?_; rintro e w' ⟨rfl, rfl⟩) | (go_at_call 80; go_in))
  go_ret
  exact ⟨rfl, rfl⟩

theorem refadd_some (x y max s : Nat) (w : World) (h : Ieee.double.add x y = some s) : Calls Try.prog 58 #[.float .f64 x, .float .f64 y, .float .f64 max] w fun e w' => e = .returned (.float .f64 (addF x y max)) ∧ w = w' := by
  have e1 := fun w => run_add_some (P := Try.prog) 26 x y s h w
  have e2 := add_not_nan h
  have e3 := x_from
  have hf := Lib.hid (addF_some max h); clear h
  cases h1 : (FloatKind.f64.format.order s max == some Ordering.lt) <;> cases h2 : (FloatKind.f64.format.order s 0 == some Ordering.eq)
  all_goals
    rw [hf.out, h1, h2]
    go_enter Try.func58, Try.ntmps58
    go_wp2_with (first | (go_at_call 76; refine (refnan _ _).mono ?_; rintro e w' ⟨rfl, rfl⟩) | (go_at_call 27; go_in))
    go_ret
    exact ⟨rfl, rfl⟩

end Go.Proofs.Ytomcnaghdfhkkaa
end
