import Derived.Test.YtbgnheckoijmeaaGqC
namespace Go.Fq
open Ieee

theorem weight_fin (f : Nat) (hf : f < 2 ^ 64) (h : weightF f = 0) : f < infR := by
  unfold weightF withinF at h
  cases hn : nanB f
  case true => rw [hn] at h; cases h
  cases hi : infB f
  case true => rw [hn, hi] at h; cases h
  cases hg : ng f
  case true => rw [hn, hi, hg] at h; cases h
  rw [ng_iff f hf] at hg
  have hg := of_decide_eq_false hg
  have h2 := mg_fin_of f hn (of_decide_eq_false hi)
  unfold mg at h2
  omega

theorem le_pos {x y : Nat} (hx : x ≤ infR) (hy : y ≤ infR) : (FloatKind.f64.format.order x y == some .lt || FloatKind.f64.format.order x y == some .eq) = decide (x ≤ y) := by
  rw [order_pos hx hy, Bool.eq_iff_iff, Bool.or_eq_true, beq_iff_eq, beq_iff_eq, Option.some.injEq, Option.some.injEq, Int.compare_eq_lt, Int.compare_eq_eq, decide_eq_true_eq]
  omega
theorem ge_pos {x y : Nat} (hx : x ≤ infR) (hy : y ≤ infR) : (FloatKind.f64.format.order x y == some .gt || FloatKind.f64.format.order x y == some .eq) = decide (y ≤ x) := by
  rw [order_pos hx hy, Bool.eq_iff_iff, Bool.or_eq_true, beq_iff_eq, beq_iff_eq, Option.some.injEq, Option.some.injEq, Int.compare_eq_gt, Int.compare_eq_eq, decide_eq_true_eq]
  omega
theorem lt_pos {x y : Nat} (hx : x ≤ infR) (hy : y ≤ infR) : (FloatKind.f64.format.order x y == some .lt) = decide (x < y) := by
  rw [order_pos hx hy, Bool.eq_iff_iff, beq_iff_eq, Option.some.injEq, Int.compare_eq_lt, decide_eq_true_eq]
  omega
theorem gt_pos {x y : Nat} (hx : x ≤ infR) (hy : y ≤ infR) : (FloatKind.f64.format.order x y == some .gt) = decide (y < x) := by
  rw [order_pos hx hy, Bool.eq_iff_iff, beq_iff_eq, Option.some.injEq, Int.compare_eq_gt, decide_eq_true_eq]
  omega
theorem self_pos {x : Nat} (hx : x ≤ infR) : FloatKind.f64.format.order x x = some .eq := by
  rw [order_pos hx hx, Int.compare_eq_eq.2 rfl]

/-- The weight that holds. -/
def holdF (old fresh : Nat) : Nat × Int :=
  if weightF old = 0 then (if weightF fresh = 0 then (if apart fresh old ≤ kth 1 old then (old, 0) else (fresh, 0)) else (0, 1)) else (0, 1)

theorem holdF_fin (a b : Nat) (ha : a < 2 ^ 64) (hb : b < 2 ^ 64) : (holdF a b).1 < 2 ^ 64 := by
  unfold holdF
  split
  · split
    · split
      · exact ha
      · exact hb
    · show (0 : Nat) < _; omega
  · show (0 : Nat) < _; omega
theorem apart_self (x : Nat) : apart x x = 0 := by unfold apart; rw [if_pos (Nat.le_refl _), offF_self]
theorem holdF_self (a : Nat) (h : weightF a = 0) : holdF a a = (a, 0) := by
  unfold holdF
  rw [if_pos h, if_pos h, apart_self, if_pos (Nat.zero_le _)]
theorem holdF_cases (a b : Nat) : (holdF a b = (0, 1)) ∨ ((holdF a b).2 = 0 ∧ weightF (holdF a b).1 = 0) := by
  unfold holdF
  split
  · split
    · split
      · right; exact ⟨rfl, by assumption⟩
      · right; exact ⟨rfl, by assumption⟩
    · exact .inl rfl
  · exact .inl rfl
end Go.Fq
