import Derived.Test.YtbgnheckoijmeaaFqB
import GoSem.Core.Float
import Derived.RowKit
import Derived.Laws.BitsAll
namespace Go.Fq
open Ieee

theorem od_eq (a b : Nat) : FloatKind.f64.format.order a b = if nanB a || nanB b then none else some (compare (ik a) (ik b)) := order_eq a b
theorem od_nan_l {a : Nat} (b : Nat) (h : nanB a = true) : FloatKind.f64.format.order a b = none := by rw [od_eq, h]; rfl
theorem od_nan_r (a : Nat) {b : Nat} (h : nanB b = true) : FloatKind.f64.format.order a b = none := by rw [od_eq, h]; simp
theorem od_num {a b : Nat} (ha : nanB a = false) (hb : nanB b = false) : FloatKind.f64.format.order a b = some (compare (ik a) (ik b)) := by rw [od_eq, ha, hb]; rfl
theorem od_lt {a b : Nat} (ha : nanB a = false) (hb : nanB b = false) (h : ik a < ik b) : FloatKind.f64.format.order a b = some .lt := by
  rw [od_num ha hb, Int.compare_eq_lt.2 h]
theorem od_gt {a b : Nat} (ha : nanB a = false) (hb : nanB b = false) (h : ik b < ik a) : FloatKind.f64.format.order a b = some .gt := by
  rw [od_num ha hb, Int.compare_eq_gt.2 h]
theorem od_same {a b : Nat} (ha : nanB a = false) (hb : nanB b = false) (h : ik a = ik b) : FloatKind.f64.format.order a b = some .eq := by
  rw [od_num ha hb, Int.compare_eq_eq.2 h]
theorem od_self {a : Nat} (ha : nanB a = false) : FloatKind.f64.format.order a a = some .eq := od_same ha ha rfl

theorem ng_iff (a : Nat) (h : a < 2 ^ 64) : ng a = decide (2 ^ 63 ≤ a) := by
  unfold ng
  by_cases g : 2 ^ 63 ≤ a
  · have : a / 2 ^ 63 = 1 := by omega
    rw [this]; simp [g]
  · have : a / 2 ^ 63 = 0 := by omega
    rw [this]; simp [g]

theorem ng_wrap (a : Nat) (h : a < 2 ^ 64) : decide (RowKit.wrap64 (a : Int) < 0) = ng a := by
  rw [ng_iff a h]; unfold RowKit.wrap64
  rw [decide_eq_decide]
  omega

theorem ng_div (a : Nat) (h : a < 2 ^ 64) : ((a : Int) / 9223372036854775808 == 1) = ng a := by
  rw [ng_iff a h, Bool.eq_iff_iff, beq_iff_eq, decide_eq_true_eq]
  omega
theorem abs_bits (a : Nat) (h : a < 2 ^ 64) : (bits .andNot .u64 (a : Int) 9223372036854775808).toNat = mg a := by
  rw [show (9223372036854775808 : Int) = ((9223372036854775808 : Nat) : Int) from rfl, u64_andNot_nat a _ (by omega) (by omega)]
  rw [show (18446744073709551615 - 9223372036854775808 : Nat) = 9223372036854775807 from rfl, nat_mask63]
  rfl

theorem mg_mg (a : Nat) : mg (mg a) = mg a := by unfold mg; omega
theorem ng_mg (a : Nat) : ng (mg a) = false := by unfold mg ng; have : a % 2 ^ 63 / 2 ^ 63 = 0 := by omega
                                                  rw [this]; rfl
theorem nanB_mg (a : Nat) : nanB (mg a) = nanB a := by unfold nanB; rw [mg_mg]
theorem ik_mg (a : Nat) : ik (mg a) = (mg a : Int) := by unfold ik; rw [ng_mg, mg_mg]; simp

def MAXF : Nat := 9218868437227405311
def NMAXF : Nat := 18442240474082181119
def infB (a : Nat) : Bool := decide (mg a = infR)

theorem inf_of_gt (a : Nat) : (FloatKind.f64.format.order (mg a) MAXF == some .gt) = infB a := by
  unfold infB
  by_cases h : nanB a = true
  · rw [od_nan_l _ (by rw [nanB_mg]; exact h)]
    unfold nanB at h
    have := of_decide_eq_true h
    have : ¬ mg a = infR := by omega
    simp [this]
  · have h : nanB a = false := by simpa using h
    have hm : nanB MAXF = false := by decide +kernel
    have im : ik MAXF = 9218868437227405311 := by decide +kernel
    have hl := h
    unfold nanB at hl
    have hl := of_decide_eq_false hl
    have hi : infR = 9218868437227405312 := by decide +kernel
    rw [od_num (by rw [nanB_mg]; exact h) hm, ik_mg, im, Bool.eq_iff_iff, beq_iff_eq, decide_eq_true_eq, Option.some.injEq, Int.compare_eq_gt]
    omega

/-- What the order with the greatest float tells, signs and all. -/
theorem order_max (a : Nat) : FloatKind.f64.format.order a MAXF = if nanB a then none else some (compare (ik a) 9218868437227405311) := by
  rw [od_eq, show nanB MAXF = false by decide +kernel, show ik MAXF = 9218868437227405311 by decide +kernel, Bool.or_false]
theorem order_nmax (a : Nat) : FloatKind.f64.format.order a NMAXF = if nanB a then none else some (compare (ik a) (-9218868437227405311)) := by
  rw [od_eq, show nanB NMAXF = false by decide +kernel, show ik NMAXF = -9218868437227405311 by decide +kernel, Bool.or_false]

theorem inf_two (a : Nat) : (FloatKind.f64.format.order a MAXF == some .gt || FloatKind.f64.format.order a NMAXF == some .lt) = infB a := by
  unfold infB
  rw [order_max, order_nmax]
  have hi : infR = 9218868437227405312 := by decide +kernel
  by_cases h : nanB a = true
  · rw [h]
    unfold nanB at h
    have := of_decide_eq_true h
    have : ¬ mg a = infR := by omega
    simp [this]
  · have h : nanB a = false := by simpa using h
    have hl := h
    unfold nanB at hl
    have hl := of_decide_eq_false hl
    rw [h, Bool.eq_iff_iff]
    simp only [Bool.false_eq_true, if_false, Bool.or_eq_true, beq_iff_eq, Option.some.injEq, Int.compare_eq_gt, Int.compare_eq_lt, decide_eq_true_eq]
    unfold ik
    split <;> omega

end Go.Fq
