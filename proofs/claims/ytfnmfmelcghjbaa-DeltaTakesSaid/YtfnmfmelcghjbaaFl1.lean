/- The walks of the small functions on floats: package math's tests, and whether a float is a multiple of a quarter. The walks that every seat of layer 1 needs: weights, sums that are no NaN, and that the layer answers at all. The walks of layer 1's functions and of the document's own: weights, limits, distances, the order. Distances, sums, the order, the laws over them. -/
import Derived.Test.YtfnmfmelcghjbaaChecked
import Derived.Tactics
import Derived.Tactics2
import Derived.StillTactics
import Derived.WalkKit
import Derived.WalkLawsBesides
import Derived.Outline
import Derived.KernelRfl
import Derived.Laws.Externs
import Derived.Lib.Hide
import Derived.Test.YtfnmfmelcghjbaaFqA
import Derived.RowKit3
import Derived.BigQuiet
import Derived.Deep.QuietTactic
section
namespace Go.Proofs.Ytfnmfmelcghjbaa
open Go.Fq

theorem x_bits (b : Nat) (w : World) : (callFunc 37 #[.float .f64 b]).run Try.prog w = .ok (.value (.int .u64 b)) w := by
  rw [run_callFunc_extern Try.func37 (by kernel_rfl) (by kernel_rfl) (by kernel_rfl) (e := Extern.MathFloatBits.float64bits) (by kernel_rfl)]; rfl
theorem x_from (b : Int) (w : World) : (callFunc 64 #[.int .u64 b]).run Try.prog w = .ok (.value (.float .f64 b.toNat)) w := by
  rw [run_callFunc_extern Try.func64 (by kernel_rfl) (by kernel_rfl) (by kernel_rfl) (e := Extern.MathFloatBits.float64frombits) (by kernel_rfl)]; rfl
theorem run_toInt {P : Program} (name : String) (way : Ieee.Toward) (x : Nat) (h : nanB x = false) (w : World) :
    (Extern.MathFloor.toIntegral name way #[.float .f64 x]).run P w = .ok (.float .f64 (truncD way x)) w := by
  unfold Extern.MathFloor.toIntegral truncD
  have hn := not_isNaN_read x h
  show Sem.run P (match Ieee.double.read x with
    | .nan s t => _
    | d => _) w = _
  generalize Ieee.double.read x = d at hn
  cases d with
  | nan s t => exact absurd rfl (hn s t)
  | number s m e => rfl
  | infinity s => rfl
theorem x_trunc (x : Nat) (h : nanB x = false) (w : World) : (callFunc 81 #[.float .f64 x]).run Try.prog w = .ok (.value (.float .f64 (truncD .zero x))) w := by
  rw [run_callFunc_extern Try.func81 (by kernel_rfl) (by kernel_rfl) (by kernel_rfl) (e := Extern.MathFloor.toIntegral "math.archTrunc" .zero) (by kernel_rfl), run_toInt _ _ _ h]; rfl

theorem isnan (a : Nat) (w : World) : Calls Try.prog 101 #[.float .f64 a] w fun e w' => e = .returned (.bool (nanB a)) ∧ w = w' := by
  cases h : nanB a
  · have e := od_self h; clear h
    go_enter Try.func101, Try.ntmps101
    go_wp2
    go_ret
    exact ⟨rfl, rfl⟩
  · have e := od_nan_l a h; clear h
    go_enter Try.func101, Try.ntmps101
    go_wp2
    go_ret
    exact ⟨rfl, rfl⟩
theorem ret_bool {a b : Bool} (h : a = b) : Ending.returned (.bool a) = .returned (.bool b) := by rw [h]
theorem ret_float {a b : Nat} (h : a = b) : Ending.returned (.float .f64 a) = .returned (.float .f64 b) := by rw [h]
theorem signbit (a : Nat) (w : World) (h : a < 2 ^ 64) : Calls Try.prog 102 #[.float .f64 a] w fun e w' => e = .returned (.bool (ng a)) ∧ w = w' := by
  have H := Lib.hid h; clear h
  have e := x_bits
  go_enter Try.func102, Try.ntmps102
  go_wp2
  go_ret
  exact ⟨ret_bool (ng_wrap a H.out), rfl⟩
theorem abs_any (a : Nat) (w : World) (h : a < 2 ^ 64) : Calls Try.prog 59 #[.float .f64 a] w fun e w' => e = .returned (.float .f64 (mg a)) ∧ w = w' := by
  have H := Lib.hid h; clear h
  have e := x_bits
  have e2 := x_from
  go_enter Try.func59, Try.ntmps59
  go_wp2
  go_ret
  exact ⟨ret_float (abs_bits a H.out), rfl⟩
theorem isinf0 (a : Nat) (w : World) (h : a < 2 ^ 64) : Calls Try.prog 44 #[.float .f64 a, .int .i64 0] w fun e w' => e = .returned (.bool (infB a)) ∧ w = w' := by
  have H := Lib.hid h; clear h
  go_enter Try.func44, Try.ntmps44
  go_wp2_with (go_at_call 59; refine (abs_any _ _ H.out).mono ?_; rintro e w' ⟨rfl, rfl⟩)
  go_ret
  exact ⟨ret_bool (inf_of_gt a), rfl⟩
theorem trunc_any (a : Nat) (w : World) (h : nanB a = false) : Calls Try.prog 74 #[.float .f64 a] w fun e w' => e = .returned (.float .f64 (truncD .zero a)) ∧ w = w' := by
  have e := x_trunc a h
  clear h
  go_enter Try.func74, Try.ntmps74
  go_wp2
  go_ret
  exact ⟨rfl, rfl⟩
theorem run_mul4 {P : Program} (f : Nat) (h : nanB f = false) (w : World) : (binOp .mul 61 (.float .f64 f) (.float .f64 4616189618054758400)).run P w = .ok (.float .f64 (mul4 f)) w :=
  run_float_arith w .mul _ .f64 f _ _ (mul4_some f h).1
theorem inq (a : Nat) (w : World) (h : nanB a = false) : Calls Try.prog 103 #[.float .f64 a] w fun e w' => e = .returned (.bool (qF a)) ∧ w = w' := by
  have e := run_mul4 (P := Try.prog) a h
  have hn := Lib.hid (mul4_some a h).2
  clear h
  go_enter Try.func103, Try.ntmps103
  go_wp2_with (go_at_call 74; refine (trunc_any _ _ hn.out).mono ?_; rintro e w' ⟨rfl, rfl⟩)
  go_ret
  exact ⟨rfl, rfl⟩
end Go.Proofs.Ytfnmfmelcghjbaa
end

section
namespace Go.Proofs.Ytfnmfmelcghjbaa
open Go.Fq Go.RowKit

theorem ret_int {a b : Int} (h : a = b) : Ending.returned (.int .i64 a) = .returned (.int .i64 b) := by rw [h]

theorem within_any (f most : Nat) (w : World) (hf : f < 2 ^ 64) : Calls Try.prog 106 #[.float .f64 f, .float .f64 most] w fun e w' => e = .returned (.int .i64 (withinF f most)) ∧ w = w' := by
  have H := Lib.hid hf; clear hf
  go_enter Try.func106, Try.ntmps106
  go_wp2_with (first | (go_at_call 101; refine (isnan _ _).mono ?_; rintro e w' ⟨rfl, rfl⟩) | (go_at_call 44; refine (isinf0 _ _ H.out).mono ?_; rintro e w' ⟨rfl, rfl⟩) | (go_at_call 102; refine (signbit _ _ H.out).mono ?_; rintro e w' ⟨rfl, rfl⟩) | (go_at_call 103; refine (inq _ _ (by assumption)).mono ?_; rintro e w' ⟨rfl, rfl⟩))
  all_goals (go_ret; exact ⟨ret_int (by simp [withinF, *]), rfl⟩)
theorem run_add_some {P : Program} (t : TypeId) (x y s : Nat) (h : Ieee.double.add x y = some s) (w : World) : (binOp .add t (.float .f64 x) (.float .f64 y)).run P w = .ok (.float .f64 s) w :=
  run_float_arith w .add t .f64 x y s h

end Go.Proofs.Ytfnmfmelcghjbaa
end

section
namespace Go.Proofs.Ytfnmfmelcghjbaa
open Go.Fq

theorem limit_any (f : Nat) (w : World) (hf : f < 2 ^ 64) : Calls Try.prog 100 #[.float .f64 f] w fun e w' => e = .returned (.int .i64 (limitF f)) ∧ w = w' := by
  have H := Lib.hid hf; clear hf
  go_enter Try.func100, Try.ntmps100
  go_wp2_with (go_at_call 106; refine (within_any _ _ _ H.out).mono ?_; rintro e w' ⟨rfl, rfl⟩)
  go_ret
  exact ⟨rfl, rfl⟩
end Go.Proofs.Ytfnmfmelcghjbaa
end

section
namespace Go.Proofs.Ytfnmfmelcghjbaa
open Go.Fq Go.RowKit

theorem isinf1 (a : Nat) (w : World) (h : ng a = false) : Calls Try.prog 44 #[.float .f64 a, .int .i64 1] w fun e w' => e = .returned (.bool (infB a)) ∧ w = w' := by
  have H := Lib.hid (inf_one a h); clear h
  go_enter Try.func44, Try.ntmps44
  go_wp2_with fail
  go_ret
  exact ⟨ret_bool H.out, rfl⟩

set_option maxHeartbeats 400000 in
theorem dist_any (d max : Nat) (w : World) (hd : d < 2 ^ 64) (hm : max < 2 ^ 64) : Calls Try.prog 98 #[.float .f64 d, .float .f64 max] w fun e w' => e = .returned (.int .i64 (distF d max)) ∧ w = w' := by
  have H := Lib.hid hd; clear hd
  have H2 := Lib.hid hm; clear hm
  go_enter Try.func98, Try.ntmps98
  go_wp2_with (first | (go_at_call 101; refine (isnan _ _).mono ?_; rintro e w' ⟨rfl, rfl⟩) | (go_at_call 44; refine (isinf1 _ _ (by assumption)).mono ?_; rintro e w' ⟨rfl, rfl⟩) | (go_at_call 102; refine (signbit _ _ H.out).mono ?_; rintro e w' ⟨rfl, rfl⟩) | (go_at_call 103; refine (inq _ _ (by assumption)).mono ?_; rintro e w' ⟨rfl, rfl⟩) | (go_at_call 100; refine (limit_any _ _ H2.out).mono ?_; rintro e w' ⟨rfl, rfl⟩))
  all_goals (go_ret; exact ⟨ret_int (by first | (simp [distF, *]; done) | (rename_i hor; rcases hor with hh | hh <;> simp [distF, *])), rfl⟩)
/-- The bits of the NaN that a sum makes, off the tape. -/
def nanAt (w : World) (x y : Nat) : Nat := Question.cut (.nanBits .f64 x y) (w.tape w.drawn (.nanBits .f64 x y))
theorem nanAt_nan (w : World) (x y : Nat) : nanB (nanAt w x y) = true := nan_made _
theorem run_add_none {P : Program} (t : TypeId) (x y : Nat) (h : Ieee.double.add x y = none) (w : World) : (binOp .add t (.float .f64 x) (.float .f64 y)).run P w = .ok (.float .f64 (nanAt w x y)) w.drew := by
  have h' : FloatKind.f64.format.add x y = none := h
  simp [binOp, Op.floatArith, h', nanAt]
  intro hc; exact absurd hc (by simp [Question.forced])
end Go.Proofs.Ytfnmfmelcghjbaa
end
