import Derived.Test.YtbgnheckoijmeaaFqC
namespace Go.Fq
open Ieee

def ONE : Nat := 4607182418800017408
/-- What 'within' answers: the errors by number. -/
def withinF (f most : Nat) : Int :=
  if nanB f then 10 else if infB f then 11 else if ng f then 12
  else if FloatKind.f64.format.order f 4607182418800017408 == some .lt then 13
  else if FloatKind.f64.format.order f most == some .gt then 14
  else if !qF f then 15 else 0
def WMAX : Nat := 4697254411347427328
def LMAX : Nat := 4742290407621132288
def weightF (f : Nat) : Int := withinF f 4697254411347427328
def limitF (f : Nat) : Int := withinF f 4742290407621132288
def distF (d max : Nat) : Int :=
  if limitF max != 0 then limitF max else if nanB d then 10 else if ng d then 12 else if infB d then 0
  else if FloatKind.f64.format.order d max == some .gt || FloatKind.f64.format.order d max == some .eq then 16
  else if !qF d then 15 else 0
def cmpF (a b : Nat) : Int :=
  if nanB a then (if nanB b then 0 else 1) else if nanB b then -1
  else if ik a < ik b then -1 else if ik b < ik a then 1 else 0

theorem inf_one (a : Nat) (h : ng a = false) : (FloatKind.f64.format.order a 9218868437227405311 == some .gt) = infB a := by
  have h2 := inf_two a
  rw [show (9218868437227405311 : Nat) = MAXF from rfl, ← h2]
  have : (FloatKind.f64.format.order a NMAXF == some .lt) = false := by
    rw [order_nmax]
    split
    · rfl
    · have : ¬ ik a < -9218868437227405311 := by unfold ik; rw [h]; simp only [Bool.false_eq_true, if_false]; omega
      rw [beq_eq_false_iff_ne]
      intro hc
      rw [Option.some.injEq, Int.compare_eq_lt] at hc
      exact this hc
  rw [this, Bool.or_false]

theorem sum_not_nan (a b d : Datum) (h : a.sum b = some d) : d.isNaN = false := by
  cases a <;> cases b <;> simp only [Datum.sum] at h <;> try (cases h; done)
  all_goals first | (cases h; rfl) | (split at h <;> first | (cases h; done) | (cases h; rfl))

theorem nanB_write {d : Datum} (h : d.isNaN = false) : nanB (double.write d) = false := by
  cases d with
  | number s m p => exact nan_write_number s m p
  | infinity s => exact nan_write_inf s
  | nan s t => cases h

theorem add_not_nan {x y r : Nat} (h : double.add x y = some r) : nanB r = false := by
  unfold Format.add at h
  cases hs : (double.read x).sum (double.read y) with
  | none => rw [hs] at h; cases h
  | some d => rw [hs] at h; cases h; exact nanB_write (sum_not_nan _ _ _ hs)

def INF : Nat := 9218868437227405312
def addF (x y max : Nat) : Nat :=
  match double.add x y with
  | none => 9221120237041090560
  | some s => if FloatKind.f64.format.order s max == some .lt then (if FloatKind.f64.format.order s 0 == some .eq then 0 else s) else 9218868437227405312
theorem addF_none {x y : Nat} (max : Nat) (h : double.add x y = none) : addF x y max = 9221120237041090560 := by unfold addF; rw [h]
theorem addF_some {x y s : Nat} (max : Nat) (h : double.add x y = some s) : addF x y max = if FloatKind.f64.format.order s max == some .lt then (if FloatKind.f64.format.order s 0 == some .eq then 0 else s) else 9218868437227405312 := by unfold addF; rw [h]

theorem cmp_lt (a b : Nat) : (FloatKind.f64.format.order a b == some .lt) = (!nanB a && !nanB b && decide (ik a < ik b)) := by
  rw [od_eq]
  cases nanB a <;> cases nanB b <;> simp
  rw [Bool.eq_iff_iff, beq_iff_eq, decide_eq_true_eq, Int.compare_eq_lt]
theorem cmp_gt (a b : Nat) : (FloatKind.f64.format.order a b == some .gt) = (!nanB a && !nanB b && decide (ik b < ik a)) := by
  rw [od_eq]
  cases nanB a <;> cases nanB b <;> simp
  rw [Bool.eq_iff_iff, beq_iff_eq, decide_eq_true_eq, Int.compare_eq_gt]

/-- The place of a float on one line, the NaNs behind all. -/
def place (a : Nat) : Int := if nanB a then 9223372036854775808 else ik a
theorem ik_lt (a : Nat) : ik a < 9223372036854775808 ∧ -9223372036854775808 < ik a := by
  unfold ik mg
  have : a % 2 ^ 63 < 2 ^ 63 := Nat.mod_lt _ (by omega)
  split <;> omega
theorem cmpF_place (a b : Nat) : cmpF a b = if place a < place b then -1 else if place b < place a then 1 else 0 := by
  have ha := ik_lt a
  have hb := ik_lt b
  unfold cmpF place
  cases nanB a <;> cases nanB b <;> simp only [Bool.false_eq_true, if_false, if_true] <;> (repeat' split) <;> omega
end Go.Fq
