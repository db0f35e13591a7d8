/- The walks of layer 1's functions and of the document's own: weights, limits, distances, the order. -/
import Derived.Test.YtbgnheckoijmeaaFgW
namespace Go.Proofs.Ytbgnheckoijmeaa
open Go.Fq

theorem refinf (a : Nat) (w : World) : Calls Try.prog 48 #[.float .f64 a] w fun e w' => e = .returned (.bool (infB a)) ∧ w = w' := by
  have H := Lib.hid (inf_two a)
  cases h1 : FloatKind.f64.format.order a MAXF == some .gt
  · have e1 : (FloatKind.f64.format.order a 9218868437227405311 == some .gt) = false := h1
    go_enter Try.func48, Try.ntmps48
    go_wp2
    go_ret
    exact ⟨ret_bool (by rw [← H.out, h1]; rfl), rfl⟩
  · have e1 : (FloatKind.f64.format.order a 9218868437227405311 == some .gt) = true := h1
    go_enter Try.func48, Try.ntmps48
    go_wp2
    go_ret
    exact ⟨ret_bool (by rw [← H.out, h1]; rfl), rfl⟩
set_option maxHeartbeats 400000 in
set_option maxHeartbeats 400000 in
theorem bounded_any (f most : Nat) (w : World) (hf : f < 2 ^ 64) : Calls Try.prog 37 #[.float .f64 f, .float .f64 most] w fun e w' => e = .returned (.int .i64 (withinF f most)) ∧ w = w' := by
  have H := Lib.hid hf; clear hf
  go_enter Try.func37, Try.ntmps37
  go_wp2_with (first | (go_at_call 44; refine (refnan _ _).mono ?_; rintro e w' ⟨rfl, rfl⟩) | (go_at_call 48; refine (refinf _ _).mono ?_; rintro e w' ⟨rfl, rfl⟩) | (go_at_call 49; refine (refsign _ _ H.out).mono ?_; rintro e w' ⟨rfl, rfl⟩) | (go_at_call 50; refine (refq _ _ (by assumption)).mono ?_; rintro e w' ⟨rfl, rfl⟩))
  all_goals (go_ret; exact ⟨ret_int (by simp [withinF, *]), rfl⟩)
theorem refweight_any (f : Nat) (w : World) (hf : f < 2 ^ 64) : Calls Try.prog 23 #[.float .f64 f] w fun e w' => e = .returned (.int .i64 (weightF f)) ∧ w = w' := by
  have H := Lib.hid hf; clear hf
  go_enter Try.func23, Try.ntmps23
  go_wp2_with (go_at_call 37; refine (bounded_any _ _ _ H.out).mono ?_; rintro e w' ⟨rfl, rfl⟩)
  go_ret
  exact ⟨rfl, rfl⟩
end Go.Proofs.Ytbgnheckoijmeaa
