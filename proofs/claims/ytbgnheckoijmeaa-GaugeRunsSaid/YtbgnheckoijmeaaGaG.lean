/- Gauges: Cost and its law. -/
import Derived.Test.YtbgnheckoijmeaaGaE
import Derived.Test.YtbgnheckoijmeaaGqD
namespace Go.Proofs.Ytbgnheckoijmeaa
open Go.Fq Go.RowKit
open Go.Iq (below_next block_lt)
set_option linter.unusedVariables false

def costF (n : Int) (m v : Nat) : Nat × Int := if chkF n m v = 0 then (if n = 0 then (0, 4) else roundF (costS m v)) else (0, 1)

set_option maxHeartbeats 1000000 in
theorem cost_any (n : Int) (m v : Nat) (hm : m < 2 ^ 64) (hv : v < 2 ^ 64) (w : World) :
    Calls Try.prog 15 #[gaug n m v] w fun e w' => e = .returned (.tuple #[.float .f64 (costF n m v).1, .int .i64 (costF n m v).2]) ∧ Below w.heap.size w w' := by
  have HC := Lib.hid (fun w => check_any n m v w hm hv)
  have b0 : Below w.heap.size w (w.alloc (.cells #[.int .i64 n, .float .f64 m, .float .f64 v] 24)) := (Below.refl _ _).alloc (Nat.le_refl _) _
  have g0 := G3.first w n m v 24
  unfold costF
  rcases chkF_one n m v with hc | hc
  · obtain ⟨a, b, c⟩ := chkF_ok hc
    rw [hc] at HC ⊢
    rw [if_pos rfl]
    by_cases h0 : n = 0
    · rw [if_pos h0]
      subst h0
      clear hc hm hv a b c
      go_enter Try.func15, Try.ntmps15
      go_wp2_with fail
      refine (HC.out _).mono ?_
      rintro e w1 ⟨rfl, b1⟩
      obtain ⟨c0, c1, c2, _⟩ := g0.below b1 (by simp)
      go_wp2_with fail
      go_ret2
      exact ⟨rfl, b0.trans (b1.mono (by simp))⟩
    · rw [if_neg h0]
      have e1 := fun w => run_f (P := Try.prog) .mul 22 _ _ _ (mul_4 c) w
      have e2 := fun w => run_f (P := Try.prog) .add 22 _ _ _ (cost_add (v := v) b).1 w
      have HR := Lib.hid (fun w => round_any (costS m v) w)
      clear hc hm hv a b c
      generalize roundF (costS m v) = r at *
      generalize costS m v = R at *
      generalize kth 32 v = Q at *
      obtain ⟨W, E⟩ := r
      go_enter Try.func15, Try.ntmps15
      go_wp2_with fail
      refine (HC.out _).mono ?_
      rintro e w1 ⟨rfl, b1⟩
      obtain ⟨c0, c1, c2, _⟩ := g0.below b1 (by simp)
      go_wp2_with (go_at_call 32; refine (HR.out _).mono ?_; rintro e w' ⟨rfl, rfl⟩)
      go_ret2
      exact ⟨rfl, b0.trans (b1.mono (by simp))⟩
  · rw [hc] at HC ⊢
    rw [if_neg (by omega)]
    clear hc hm hv
    go_enter Try.func15, Try.ntmps15
    go_wp2_with fail
    refine (HC.out _).mono ?_
    rintro e w1 ⟨rfl, b1⟩
    go_wp2_with fail
    go_ret2
    exact ⟨rfl, b0.trans (b1.mono (by simp))⟩

set_option maxHeartbeats 1000000 in
theorem refcost_any (n : Int) (m v : Nat) (hm : m < 2 ^ 64) (hv : v < 2 ^ 64) (w : World) :
    Calls Try.prog 16 #[gaug n m v] w fun e w' => e = .returned (.tuple #[.float .f64 (costF n m v).1, .int .i64 (costF n m v).2]) ∧ Below w.heap.size w w' := by
  have HC := Lib.hid (fun w => refcheck_any n m v w hm hv)
  have b0 : Below w.heap.size w (w.alloc (.cells #[.int .i64 n, .float .f64 m, .float .f64 v] 24)) := (Below.refl _ _).alloc (Nat.le_refl _) _
  have g0 := G3.first w n m v 24
  unfold costF
  rcases chkF_one n m v with hc | hc
  · obtain ⟨a, b, c⟩ := chkF_ok hc
    rw [hc] at HC ⊢
    rw [if_pos rfl]
    by_cases h0 : n = 0
    · rw [if_pos h0]
      subst h0
      clear hc hm hv a b c
      go_enter Try.func16, Try.ntmps16
      go_wp2_with fail
      refine (HC.out _).mono ?_
      rintro e w1 ⟨rfl, b1⟩
      obtain ⟨c0, c1, c2, _⟩ := g0.below b1 (by simp)
      go_wp2_with fail
      go_ret2
      exact ⟨rfl, b0.trans (b1.mono (by simp))⟩
    · rw [if_neg h0]
      have e1 := fun w => run_f (P := Try.prog) .mul 22 _ _ _ (mul_4 c) w
      have e2 := fun w => run_f (P := Try.prog) .add 22 _ _ _ (cost_add (v := v) b).1 w
      have HR := Lib.hid (fun w => refround_any (costS m v) w)
      clear hc hm hv a b c
      generalize roundF (costS m v) = r at *
      generalize costS m v = R at *
      generalize kth 32 v = Q at *
      obtain ⟨W, E⟩ := r
      go_enter Try.func16, Try.ntmps16
      go_wp2_with fail
      refine (HC.out _).mono ?_
      rintro e w1 ⟨rfl, b1⟩
      obtain ⟨c0, c1, c2, _⟩ := g0.below b1 (by simp)
      go_wp2_with (go_at_call 33; refine (HR.out _).mono ?_; rintro e w' ⟨rfl, rfl⟩)
      go_ret2
      exact ⟨rfl, b0.trans (b1.mono (by simp))⟩
  · rw [hc] at HC ⊢
    rw [if_neg (by omega)]
    clear hc hm hv
    go_enter Try.func16, Try.ntmps16
    go_wp2_with fail
    refine (HC.out _).mono ?_
    rintro e w1 ⟨rfl, b1⟩
    go_wp2_with fail
    go_ret2
    exact ⟨rfl, b0.trans (b1.mono (by simp))⟩

theorem law_costs (n : Int) (m v : Nat) (w : World) (_ : n ≤ 9223372036854775807) (hm : m < 2 ^ 64) (hv : v < 2 ^ 64) :
    Calls Try.prog 4 #[gaug n m v] w fun e w' => e = .returned (.bool true) ∧ Below w.heap.size w w' := by
  have HP := Lib.hid (fun w => cost_any n m v hm hv w)
  have HR := Lib.hid (fun w => refcost_any n m v hm hv w)
  clear hm hv
  generalize costF n m v = r at *
  obtain ⟨W, E⟩ := r
  have b0 : Below w.heap.size w (w.alloc (.cells #[.int .i64 n, .float .f64 m, .float .f64 v] 24)) := (Below.refl _ _).alloc (Nat.le_refl _) _
  have g0 := G3.first w n m v 24
  go_enter Try.func4, Try.ntmps4
  go_wp2_with fail
  refine (HP.out _).mono ?_
  rintro e w1 ⟨rfl, b1⟩
  have h1 := g0.below b1 (by simp)
  obtain ⟨c0, c1, c2, _⟩ := id h1
  go_wp2_with fail
  refine (HR.out _).mono ?_
  rintro e w2 ⟨rfl, b2⟩
  have hb : Below w.heap.size w w2 := below_next (b0.trans (b1.mono (by simp))) b2
  go_wp2_with (go_at_call 17; refine (same_any _ _ _).mono ?_; rintro e w' ⟨rfl, rfl⟩)
  refine (awake5_any _).mono ?_
  rintro e w3 ⟨rfl, b3⟩
  go_wp2_with fail
  go_ret
  exact ⟨rfl, below_next hb b3⟩
end Go.Proofs.Ytbgnheckoijmeaa
