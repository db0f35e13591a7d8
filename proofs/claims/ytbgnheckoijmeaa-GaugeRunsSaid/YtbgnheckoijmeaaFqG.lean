import Derived.Test.YtbgnheckoijmeaaFqF
namespace Go.Fq
open Ieee

theorem LMAX_qw : (4742290407621132288 : Nat) = qw 4294967296 := by decide +kernel
theorem zero_qw : (0 : Nat) = qw 0 := by decide +kernel

/-- The sum of two numbers of quarters, under the limit 2 ^ 30. -/
def sumQ (n m : Nat) : Nat := if n + m < 4294967296 then qw (n + m) else 9218868437227405312

theorem addF_qw (n m : Nat) (h : n + m < 2 ^ 53) (hz : n + m ≠ 0) : addF (qw n) (qw m) 4742290407621132288 = sumQ n m := by
  rw [addF_some _ (add_qw n m h hz), LMAX_qw, od_qw h (by omega)]
  have hz' : FloatKind.f64.format.order (qw (n + m)) 0 = some (compare ((n + m : Nat) : Int) ((0 : Nat) : Int)) := by
    rw [zero_qw]; exact od_qw h (by omega)
  rw [hz']
  unfold sumQ
  have e : (some (compare ((n + m : Nat) : Int) ((0 : Nat) : Int)) == some Ordering.eq) = false := by
    rw [beq_eq_false_iff_ne]; intro hc
    rw [Option.some.injEq, Int.compare_eq_eq] at hc
    omega
  rw [e]
  by_cases g : n + m < 4294967296
  · rw [if_pos g, if_pos]
    · rw [if_neg (by simp)]
    · rw [beq_iff_eq, Option.some.injEq, Int.compare_eq_lt]; omega
  · rw [if_neg g, if_neg]
    rw [beq_iff_eq, Option.some.injEq, Int.compare_eq_lt]; omega

theorem inf_nan : nanB 9218868437227405312 = false := by decide +kernel
theorem addF_inf (n : Nat) (h : n < 2 ^ 53) : addF (qw n) 9218868437227405312 4742290407621132288 = 9218868437227405312 := by
  rw [addF_some _ (add_qw_inf n h)]
  decide +kernel

theorem ik_qw_inf (n : Nat) (h : n < 2 ^ 53) : ik (qw n) < ik 9218868437227405312 := by
  have hf := qw_fin h
  have hi : ik 9218868437227405312 = 9218868437227405312 := by decide +kernel
  have he := inf_eq
  rw [hi]; unfold ik; rw [hf.2.1, if_neg (by simp)]; omega

theorem ik_sumQ (n m k l : Nat) (h : n + m < 2 ^ 53) (h2 : k + l < 2 ^ 53) (hl : n + m ≤ k + l) : ik (sumQ n m) ≤ ik (sumQ k l) := by
  unfold sumQ
  split
  · split
    · have := (qw_lt (n := k + l) (m := n + m) h2 h); omega
    · have := ik_qw_inf (n + m) h; omega
  · rw [if_neg (by omega)]; omega

theorem sumQ_nan (n m : Nat) (h : n + m < 2 ^ 53) : nanB (sumQ n m) = false := by
  unfold sumQ
  split
  · exact qw_nan h
  · exact inf_nan

theorem cmpF_sumQ (n m k l : Nat) (h : n + m < 2 ^ 53) (h2 : k + l < 2 ^ 53) (hl : n + m ≤ k + l) : cmpF (sumQ n m) (sumQ k l) ≤ 0 := by
  have g := ik_sumQ n m k l h h2 hl
  unfold cmpF
  rw [sumQ_nan n m h, sumQ_nan k l h2]
  simp only [Bool.false_eq_true, if_false]
  split <;> (try split) <;> omega

theorem limitF_L : limitF 4742290407621132288 = 0 := by decide +kernel
theorem distF_inf : distF 9218868437227405312 4742290407621132288 = 0 := by decide +kernel
theorem distF_qw (n : Nat) (h : n < 4294967296) : distF (qw n) 4742290407621132288 = 0 := by
  have hf := qw_fin (n := n) (by omega)
  have ho := od_qw (n := n) (m := 4294967296) (by omega) (by omega)
  rw [← LMAX_qw] at ho
  unfold distF
  rw [limitF_L, qw_nan (by omega), hf.2.1, qw_inf (by omega), ho, qF_qw n (by omega), Int.compare_eq_lt.2 (by omega : (n : Int) < (4294967296 : Nat))]
  rfl
theorem distF_sumQ (n m : Nat) : distF (sumQ n m) 4742290407621132288 = 0 := by
  unfold sumQ
  split
  · exact distF_qw _ (by assumption)
  · exact distF_inf

/-- What is added to lies below the sum. -/
theorem sumQ_above (n m : Nat) (h : n + m < 2 ^ 53) (hn : 0 < n) : (FloatKind.f64.format.order (sumQ n m) (qw m) == some .lt || FloatKind.f64.format.order (sumQ n m) (qw m) == some .eq) = false := by
  have g : FloatKind.f64.format.order (sumQ n m) (qw m) = some .gt := by
    unfold sumQ
    split
    · rw [od_qw h (by omega), Int.compare_eq_gt.2 (by omega)]
    · exact od_gt inf_nan (qw_nan (by omega)) (ik_qw_inf m (by omega))
  rw [g]; rfl

theorem qw_leq (n m : Nat) (hn : n < 2 ^ 53) (hm : m < 2 ^ 53) : (FloatKind.f64.format.order (qw n) (qw m) == some .lt || FloatKind.f64.format.order (qw n) (qw m) == some .eq) = decide (n ≤ m) := by
  rw [od_qw hn hm, Bool.eq_iff_iff, Bool.or_eq_true, beq_iff_eq, beq_iff_eq, Option.some.injEq, Option.some.injEq, Int.compare_eq_lt, Int.compare_eq_eq, decide_eq_true_eq]
  omega

/-- The sum of three, in whatever order. -/
theorem three (w x y : Nat) (hw : 0 < w) (hx : 0 < x) (h : w + (x + y) < 2 ^ 53) :
    ∃ s, addF (qw w) (sumQ x y) 4742290407621132288 = s ∧ s = sumQ w (x + y) ∧ double.add (qw w) (sumQ x y) ≠ none := by
  unfold sumQ
  by_cases g : x + y < 4294967296
  · rw [if_pos g]
    refine ⟨_, addF_qw w (x + y) h (by omega), rfl, by rw [add_qw w (x + y) h (by omega)]; simp⟩
  · rw [if_neg g, if_neg (by omega)]
    exact ⟨_, addF_inf w (by omega), rfl, by rw [add_qw_inf w (by omega)]; simp⟩
theorem sumQ_comm3 (w x y : Nat) : sumQ w (x + y) = sumQ x (w + y) := by
  unfold sumQ; rw [show w + (x + y) = x + (w + y) by omega]
theorem sumQ_lt (n m : Nat) (h : n + m < 2 ^ 53) : sumQ n m < 2 ^ 64 := by
  unfold sumQ
  split
  · have := (qw_fin h).2.2.2; unfold infR at this; omega
  · omega
end Go.Fq
