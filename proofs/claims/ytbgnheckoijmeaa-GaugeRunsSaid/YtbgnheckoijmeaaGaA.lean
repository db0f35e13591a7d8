/- Gauges: the program's tests and Feed. -/
import Derived.Test.YtbgnheckoijmeaaFgN
import Derived.Test.YtbgnheckoijmeaaGqC
import Derived.Test.YtbgnheckoijmeaaIqS
namespace Go.Proofs.Ytbgnheckoijmeaa
open Go.Fq Go.RowKit
open Go.Iq (below_next block_lt)

abbrev gaug (n : Int) (m v : Nat) : Value := .agg #[.int .i64 n, .float .f64 m, .float .f64 v]

theorem plusZero_any (f : Nat) (w : World) : Calls Try.prog 28 #[.float .f64 f] w fun e w' => e = .returned (.bool ((f : Int) == 0)) ∧ w = w' := by
  have e := x_bits
  go_enter Try.func28, Try.ntmps28
  go_wp2
  go_ret
  exact ⟨rfl, rfl⟩

theorem isinf_ge (a : Nat) (w : World) (h : 0 ≤ ik a) : Calls Try.prog 38 #[.float .f64 a, .int .i64 1] w fun e w' => e = .returned (.bool (infB a)) ∧ w = w' := by
  have H := Lib.hid (inf_ge a h); clear h
  go_enter Try.func38, Try.ntmps38
  go_wp2_with fail
  go_ret
  exact ⟨ret_bool H.out, rfl⟩

theorem isSample_any (f : Nat) (w : World) : Calls Try.prog 24 #[.float .f64 f] w fun e w' => e = .returned (.bool (sampB f)) ∧ w = w' := by
  have HE := ge0_eq f
  cases hg : (!nanB f && decide (0 ≤ ik f))
  · rw [hg] at HE
    have hs : sampB f = false := by unfold sampB; rw [hg]; rfl
    rw [hs]; clear hs hg
    go_enter Try.func24, Try.ntmps24
    go_wp2_with fail
    go_ret
    exact ⟨rfl, rfl⟩
  · rw [hg] at HE
    have hs : sampB f = !infB f := by unfold sampB; rw [hg]; rfl
    have H0 := Lib.hid (show 0 ≤ ik f by rw [Bool.and_eq_true] at hg; exact of_decide_eq_true hg.2)
    rw [hs]; clear hs hg
    go_enter Try.func24, Try.ntmps24
    go_wp2_with (go_at_call 38; refine (isinf_ge _ _ H0.out).mono ?_; rintro e w' ⟨rfl, rfl⟩)
    go_ret
    exact ⟨rfl, rfl⟩

theorem isMeasure_any (f : Nat) (w : World) (hf : f < 2 ^ 64) : Calls Try.prog 29 #[.float .f64 f] w fun e w' => e = .returned (.bool (decide (f < infR))) ∧ w = w' := by
  have H := Lib.hid hf
  have HM := Lib.hid (meas_eq f hf); clear hf
  cases hs : sampB f
  all_goals
    rw [hs] at HM
    go_enter Try.func29, Try.ntmps29
    go_wp2_with (first | (go_at_call 24; refine (isSample_any _ _).mono ?_; rintro e w' ⟨rfl, rfl⟩) | (go_at_call 41; refine (signbit _ _ H.out).mono ?_; rintro e w' ⟨rfl, rfl⟩))
    go_ret
    exact ⟨ret_bool (by rw [← HM.out]; rfl), rfl⟩
end Go.Proofs.Ytbgnheckoijmeaa
