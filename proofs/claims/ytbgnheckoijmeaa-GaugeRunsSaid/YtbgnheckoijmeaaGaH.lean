/- Gauges: Hold and its law. -/
import Derived.Test.YtbgnheckoijmeaaGaG
import Derived.BigQuiet
import Derived.Deep.QuietTactic
namespace Go.Proofs.Ytbgnheckoijmeaa
open Go.Fq Go.RowKit
open Go.Iq (below_next block_lt)
set_option linter.unusedVariables false

theorem weight_no {f : Nat} (h : ¬ weightF f = 0) : (weightF f != 0) = true := by simpa using h
set_option maxHeartbeats 1000000 in
theorem hold_any (a b : Nat) (ha : a < 2 ^ 64) (hb : b < 2 ^ 64) (w : World) :
    Calls Try.prog 18 #[.float .f64 a, .float .f64 b] w fun e w' => e = .returned (.tuple #[.float .f64 (holdF a b).1, .int .i64 (holdF a b).2]) ∧ w = w' := by
  have HA := Lib.hid (fun w => weight_any a w ha)
  have HB := Lib.hid (fun w => weight_any b w hb)
  unfold holdF
  by_cases h1 : weightF a = 0
  · rw [if_pos h1]
    by_cases h2 : weightF b = 0
    · rw [if_pos h2]
      have fa := weight_fin a ha h1
      have fb := weight_fin b hb h2
      obtain ⟨d, hd, hd2, hd3⟩ := off_word b a fb fa
      have e1 := fun w => run_f (P := Try.prog) .sub 22 _ _ _ hd w
      have e2 := fun w => run_f (P := Try.prog) .mul 22 _ _ _ (mul_125 fa) w
      have HD := Lib.hid (fun w => abs_any d w hd2)
      rw [hd3] at HD
      have hle := le_pos (x := apart b a) (y := kth 1 a) (Nat.le_of_lt (apart_le fb fa)) (kth_le_inf _ _)
      rw [h1] at HA
      rw [h2] at HB
      generalize apart b a = D at *
      generalize kth 1 a = Q at *
      by_cases h3 : D ≤ Q
      · rw [if_pos h3]
        rw [decide_eq_true h3] at hle
        clear h1 h2 fa fb hd hd2 hd3 h3 ha hb
        go_enter Try.func18, Try.ntmps18
        go_wp2_with (first | (go_at_call 35; first | ((with_reducible refine (HA.out _).mono ?_); rintro e w' ⟨rfl, rfl⟩) | ((with_reducible refine (HB.out _).mono ?_); rintro e w' ⟨rfl, rfl⟩)) | (go_at_call 26; refine (HD.out _).mono ?_; rintro e w' ⟨rfl, rfl⟩))
        go_ret2
        exact ⟨rfl, rfl⟩
      · rw [if_neg h3]
        rw [decide_eq_false h3] at hle
        clear h1 h2 fa fb hd hd2 hd3 h3 ha hb
        go_enter Try.func18, Try.ntmps18
        go_wp2_with (first | (go_at_call 35; first | ((with_reducible refine (HA.out _).mono ?_); rintro e w' ⟨rfl, rfl⟩) | ((with_reducible refine (HB.out _).mono ?_); rintro e w' ⟨rfl, rfl⟩)) | (go_at_call 26; refine (HD.out _).mono ?_; rintro e w' ⟨rfl, rfl⟩))
        go_ret2
        exact ⟨rfl, rfl⟩
    · rw [if_neg h2]
      have hn := weight_no h2
      rw [h1] at HA
      clear h1 ha hb
      go_enter Try.func18, Try.ntmps18
      go_wp2_with (go_at_call 35; first | ((with_reducible refine (HA.out _).mono ?_); rintro e w' ⟨rfl, rfl⟩) | ((with_reducible refine (HB.out _).mono ?_); rintro e w' ⟨rfl, rfl⟩))
      go_ret2
      exact ⟨rfl, rfl⟩
  · rw [if_neg h1]
    have hn := weight_no h1
    clear ha hb
    go_enter Try.func18, Try.ntmps18
    go_wp2_with (go_at_call 35; first | ((with_reducible refine (HA.out _).mono ?_); rintro e w' ⟨rfl, rfl⟩) | ((with_reducible refine (HB.out _).mono ?_); rintro e w' ⟨rfl, rfl⟩))
    go_ret2
    exact ⟨rfl, rfl⟩

set_option maxHeartbeats 1000000 in
theorem refhold_any (a b : Nat) (ha : a < 2 ^ 64) (hb : b < 2 ^ 64) (w : World) :
    Calls Try.prog 19 #[.float .f64 a, .float .f64 b] w fun e w' => e = .returned (.tuple #[.float .f64 (holdF a b).1, .int .i64 (holdF a b).2]) ∧ w = w' := by
  have HA := Lib.hid (fun w => refweight_any a w ha)
  have HB := Lib.hid (fun w => refweight_any b w hb)
  unfold holdF
  by_cases h1 : weightF a = 0
  · rw [if_pos h1]
    by_cases h2 : weightF b = 0
    · rw [if_pos h2]
      have fa := weight_fin a ha h1
      have fb := weight_fin b hb h2
      have hoff : ∃ d : Nat, (∀ w, (binOp .sub 22 (.float .f64 b) (.float .f64 a)).run Try.prog w = .ok (.float .f64 d) w) ∧
          (((FloatKind.f64.format.order d 0 == some .lt) = false ∧ d = apart b a) ∨ ((FloatKind.f64.format.order d 0 == some .lt) = true ∧ ∀ w, (binOp .sub 22 (.float .f64 a) (.float .f64 b)).run Try.prog w = .ok (.float .f64 (apart b a)) w)) := by
        by_cases h : a ≤ b
        · refine ⟨_, fun w => run_f .sub _ _ _ _ ((sub_any fb fa).1 h) w, .inl ⟨lt0_pos (offF_le_inf _ _), ?_⟩⟩
          unfold apart; rw [if_pos h]
        · refine ⟨_, fun w => run_f .sub _ _ _ _ ((sub_any fb fa).2 (by omega)) w, .inr ⟨lt0_neg (offF_pos (by omega)) (offF_le_inf _ _), fun w => ?_⟩⟩
          unfold apart; rw [if_neg h]
          exact run_f .sub _ _ _ _ ((sub_any fa fb).1 (by omega)) w
      obtain ⟨d, hd, hcase⟩ := hoff
      have e2 := fun w => run_f (P := Try.prog) .quo 22 _ _ _ (div_8 fa) w
      have hle := le_pos (x := apart b a) (y := kth 1 a) (Nat.le_of_lt (apart_le fb fa)) (kth_le_inf _ _)
      rw [h1] at HA
      rw [h2] at HB
      generalize apart b a = D at *
      generalize kth 1 a = Q at *
      by_cases h3 : D ≤ Q
      · rw [if_pos h3]
        rw [decide_eq_true h3] at hle
        clear h1 h2 fa fb h3 ha hb
        rcases hcase with ⟨o1, rfl⟩ | ⟨o1, o2⟩
        all_goals
          go_enter Try.func19, Try.ntmps19
          go_wp2_with (go_at_call 23; first | ((with_reducible refine (HA.out _).mono ?_); rintro e w' ⟨rfl, rfl⟩) | ((with_reducible refine (HB.out _).mono ?_); rintro e w' ⟨rfl, rfl⟩))
          go_ret2
          exact ⟨rfl, rfl⟩
      · rw [if_neg h3]
        rw [decide_eq_false h3] at hle
        clear h1 h2 fa fb h3 ha hb
        rcases hcase with ⟨o1, rfl⟩ | ⟨o1, o2⟩
        all_goals
          go_enter Try.func19, Try.ntmps19
          go_wp2_with (go_at_call 23; first | ((with_reducible refine (HA.out _).mono ?_); rintro e w' ⟨rfl, rfl⟩) | ((with_reducible refine (HB.out _).mono ?_); rintro e w' ⟨rfl, rfl⟩))
          go_ret2
          exact ⟨rfl, rfl⟩
    · rw [if_neg h2]
      have hn := weight_no h2
      rw [h1] at HA
      clear h1 ha hb
      go_enter Try.func19, Try.ntmps19
      go_wp2_with (go_at_call 23; first | ((with_reducible refine (HA.out _).mono ?_); rintro e w' ⟨rfl, rfl⟩) | ((with_reducible refine (HB.out _).mono ?_); rintro e w' ⟨rfl, rfl⟩))
      go_ret2
      exact ⟨rfl, rfl⟩
  · rw [if_neg h1]
    have hn := weight_no h1
    clear ha hb
    go_enter Try.func19, Try.ntmps19
    go_wp2_with (go_at_call 23; first | ((with_reducible refine (HA.out _).mono ?_); rintro e w' ⟨rfl, rfl⟩) | ((with_reducible refine (HB.out _).mono ?_); rintro e w' ⟨rfl, rfl⟩))
    go_ret2
    exact ⟨rfl, rfl⟩

set_option maxHeartbeats 1000000 in
theorem law_holds (a b : Nat) (w : World) (ha : a < 2 ^ 64) (hb : b < 2 ^ 64) :
    Calls Try.prog 5 #[.float .f64 a, .float .f64 b] w fun e w' => e = .returned (.bool true) ∧ Below w.heap.size w w' := by
  have HP := Lib.hid (fun w => hold_any a b ha hb w)
  have HR := Lib.hid (fun w => refhold_any a b ha hb w)
  have hf := holdF_fin a b ha hb
  rcases holdF_cases a b with h | ⟨h1, h2⟩
  · rw [h] at HP HR
    clear h hf ha hb
    go_enter Try.func5, Try.ntmps5
    go_wp2_with (first | (go_at_call 18; refine (HP.out _).mono ?_; rintro e w' ⟨rfl, rfl⟩) | (go_at_call 19; refine (HR.out _).mono ?_; rintro e w' ⟨rfl, rfl⟩) | (go_at_call 17; refine (same_any _ _ _).mono ?_; rintro e w' ⟨rfl, rfl⟩))
    refine (awake5_any _).mono ?_
    rintro e w3 ⟨rfl, b3⟩
    go_wp2_with fail
    go_ret
    exact ⟨rfl, b3⟩
  · have HS := Lib.hid (fun w => hold_any (holdF a b).1 (holdF a b).1 hf hf w)
    rw [holdF_self _ h2] at HS
    have hi := weight_fin _ hf h2
    have hs := self_pos (Nat.le_of_lt hi)
    rw [h1] at HP HR
    clear h1 h2 hi hf
    generalize (holdF a b).1 = W at *
    clear ha hb
    go_enter Try.func5, Try.ntmps5
    go_wp2_with (first | (go_at_call 18; first | ((with_reducible refine (HS.out _).mono ?_); rintro e w' ⟨rfl, rfl⟩) | ((with_reducible refine (HP.out _).mono ?_); rintro e w' ⟨rfl, rfl⟩)) | (go_at_call 19; refine (HR.out _).mono ?_; rintro e w' ⟨rfl, rfl⟩) | (go_at_call 17; refine (same_any _ _ _).mono ?_; rintro e w' ⟨rfl, rfl⟩))
    refine (awake5_any _).mono ?_
    rintro e w3 ⟨rfl, b3⟩
    go_wp2_with fail
    go_ret
    exact ⟨rfl, b3⟩
end Go.Proofs.Ytbgnheckoijmeaa
