import Derived.Test.YtomcnaghdfhkkaaFqA
namespace Go.Fq

/-- The place of the first least one among the first k. -/
def leastTo (zs : List Nat) : Nat → Int
  | 0 => -1
  | k + 1 => if leastTo zs k < 0 || decide (cmpF (zs.getD k 0) (zs.getD (leastTo zs k).toNat 0) < 0) then (k : Int) else leastTo zs k

theorem leastTo_bd (zs : List Nat) (k : Nat) : -1 ≤ leastTo zs k ∧ leastTo zs k < k ∧ (0 < k → 0 ≤ leastTo zs k) := by
  induction k with
  | zero => simp [leastTo]
  | succ k ih =>
    simp only [leastTo]
    split
    · omega
    · rename_i h
      simp only [Bool.or_eq_true, decide_eq_true_eq, not_or] at h
      omega
theorem leastTo_first (zs : List Nat) (k : Nat) (h : leastTo zs k < 0) : leastTo zs (k + 1) = k := by simp [leastTo, h]
theorem leastTo_less (zs : List Nat) (k M : Nat) (h : leastTo zs k = M) (hc : cmpF (zs.getD k 0) (zs.getD M 0) < 0) : leastTo zs (k + 1) = k := by
  simp only [leastTo, h, Int.toNat_natCast]; rw [if_pos]; simp only [Bool.or_eq_true, decide_eq_true_eq]; exact .inr hc
theorem leastTo_keep (zs : List Nat) (k M : Nat) (h : leastTo zs k = M) (hc : ¬ cmpF (zs.getD k 0) (zs.getD M 0) < 0) : leastTo zs (k + 1) = M := by
  simp only [leastTo, h, Int.toNat_natCast]; rw [if_neg]; simp only [Bool.or_eq_true, decide_eq_true_eq, not_or]; exact ⟨by omega, hc⟩
end Go.Fq
