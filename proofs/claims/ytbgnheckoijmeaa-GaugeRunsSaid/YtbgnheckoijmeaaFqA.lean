import Ieee.Arith
namespace Go.Fq
open Ieee

/-- The magnitude of a rung, in units of the least number. -/
def units (r : Nat) : Nat := if r < 2 ^ 52 then r else (2 ^ 52 + r % 2 ^ 52) * 2 ^ (r / 2 ^ 52 - 1)

def infR : Nat := 2047 * 2 ^ 52

theorem infRung_eq : double.infRung = infR := by decide +kernel
theorem binade_eq : double.binade = 2 ^ 52 := by decide +kernel
theorem sign_eq : double.signWeight = 2 ^ 63 := by decide +kernel
theorem least_eq : double.leastPlace = -1074 := by decide +kernel

/-- Significand and exponent of a rung. -/
def sig (r : Nat) : Nat := if r < 2 ^ 52 then r else 2 ^ 52 + r % 2 ^ 52
def ex (r : Nat) : Nat := r / 2 ^ 52 - 1

theorem units_eq (r : Nat) : units r = sig r * 2 ^ ex r := by
  unfold units sig ex
  split
  · rename_i h
    have : r / 2 ^ 52 = 0 := Nat.div_eq_of_lt h
    simp [this]
  · rfl

theorem sig_lt (r : Nat) : sig r < 2 ^ 53 := by
  unfold sig; split <;> omega

theorem ex_sig (r : Nat) : ex r * 2 ^ 52 + sig r = r := by
  unfold ex sig; split <;> omega

theorem sig_ge (r : Nat) (h : 0 < ex r) : 2 ^ 52 ≤ sig r := by
  unfold ex at h; unfold sig; split <;> omega

theorem ex_le (r : Nat) (h : r < infR) : ex r ≤ 2045 := by
  unfold ex; unfold infR at h; omega

/-- A number m * 2 ^ e with a significand of at most 53 digits is that of a rung. -/
def rungOf (m e : Nat) : Nat := e * 2 ^ 52 + m

theorem units_normal (m e : Nat) (h1 : 2 ^ 52 ≤ m) (h2 : m < 2 ^ 53) : units (e * 2 ^ 52 + m) = m * 2 ^ e := by
  have a : (e * 2 ^ 52 + m) / 2 ^ 52 = e + 1 := by omega
  have b : (e * 2 ^ 52 + m) % 2 ^ 52 = m - 2 ^ 52 := by omega
  have c : ¬ (e * 2 ^ 52 + m < 2 ^ 52) := by omega
  unfold units
  rw [if_neg c, a, b, show 2 ^ 52 + (m - 2 ^ 52) = m by omega, show e + 1 - 1 = e by omega]

theorem units_small (m : Nat) (h : m < 2 ^ 52) : units m = m := by
  unfold units; rw [if_pos h]

/-- Each m * 2 ^ e with m < 2 ^ 53 and e ≤ 2045 is the magnitude of a finite rung. -/
theorem rep (m : Nat) : ∀ (e : Nat), m < 2 ^ 53 → e ≤ 2045 → ∃ r, r < infR ∧ units r = m * 2 ^ e := by
  intro e
  induction e generalizing m with
  | zero =>
    intro hm _
    by_cases h : m < 2 ^ 52
    · exact ⟨m, by unfold infR; omega, by rw [units_small m h]; simp⟩
    · refine ⟨0 * 2 ^ 52 + m, by unfold infR; omega, units_normal m 0 (by omega) hm⟩
  | succ e ih =>
    intro hm he
    by_cases h : m < 2 ^ 52
    · obtain ⟨r, h1, h2⟩ := ih (m * 2) (by omega) (by omega)
      exact ⟨r, h1, by rw [h2, Nat.pow_succ]; simp [Nat.mul_assoc, Nat.mul_comm]⟩
    · exact ⟨(e + 1) * 2 ^ 52 + m, by unfold infR; omega, units_normal m (e + 1) (by omega) hm⟩

theorem units_mono_step (r : Nat) : units r < units (r + 1) := by
  by_cases h : r + 1 < 2 ^ 52
  · rw [units_small _ h, units_small r (by omega)]; omega
  · by_cases h0 : r < 2 ^ 52
    · have e : r + 1 = 0 * 2 ^ 52 + 2 ^ 52 := by omega
      rw [units_small r h0, e, units_normal _ 0 (by omega) (by omega)]; omega
    · have hs := sig_lt r
      have hx := ex_sig r
      have hg : 2 ^ 52 ≤ sig r := by unfold sig; rw [if_neg h0]; omega
      have hp : 0 < 2 ^ ex r := Nat.two_pow_pos _
      by_cases hc : sig r + 1 < 2 ^ 53
      · have e : r + 1 = ex r * 2 ^ 52 + (sig r + 1) := by omega
        rw [e, units_normal _ _ (by omega) hc, units_eq r]
        exact Nat.mul_lt_mul_of_pos_right (by omega) hp
      · have e : r + 1 = (ex r + 1) * 2 ^ 52 + 2 ^ 52 := by omega
        rw [e, units_normal _ _ (by omega) (by omega), units_eq r]
        have e2 : 2 ^ 52 * 2 ^ (ex r + 1) = 2 ^ 53 * 2 ^ ex r := by
          rw [Nat.pow_succ 2 (ex r), Nat.mul_comm (2 ^ ex r) 2, ← Nat.mul_assoc]
        rw [e2]
        exact Nat.mul_lt_mul_of_pos_right (by omega) hp

theorem units_mono (r k : Nat) : units r < units (r + (k + 1)) := by
  induction k with
  | zero => exact units_mono_step r
  | succ k ih => exact Nat.lt_trans ih (units_mono_step _)

theorem units_lt {r s : Nat} (h : r < s) : units r < units s := by
  have := units_mono r (s - r - 1)
  rwa [show r + (s - r - 1 + 1) = s by omega] at this

theorem units_lt_iff {r s : Nat} : units r < units s ↔ r < s := by
  constructor
  · intro h
    rcases Nat.lt_trichotomy r s with g | g | g
    · exact g
    · subst g; omega
    · have := units_lt g; omega
  · exact units_lt

theorem units_inj {r s : Nat} (h : units r = units s) : r = s := by
  rcases Nat.lt_trichotomy r s with g | g | g
  · have := units_lt g; omega
  · exact g
  · have := units_lt g; omega

theorem units_zero : units 0 = 0 := by rw [units_small 0 (by omega)]

def mg (x : Nat) : Nat := x % 2 ^ 63
def ng (x : Nat) : Bool := x / 2 ^ 63 % 2 == 1

theorem read_fin (x : Nat) (h : mg x < infR) : double.read x = .number (ng x) (sig (mg x)) (-1074 + (ex (mg x) : Int)) := by
  unfold Format.read
  simp only [sign_eq, binade_eq, infRung_eq, least_eq]
  unfold mg at h
  by_cases h1 : x % 2 ^ 63 < 2 ^ 52
  · rw [if_pos h1]
    have e : ex (x % 2 ^ 63) = 0 := by unfold ex; omega
    have s : sig (x % 2 ^ 63) = x % 2 ^ 63 := by unfold sig; rw [if_pos h1]
    unfold mg ng
    rw [e, s]; rfl
  · rw [if_neg h1, if_pos h]
    have s : sig (x % 2 ^ 63) = 2 ^ 52 + x % 2 ^ 63 % 2 ^ 52 := by unfold sig; rw [if_neg h1]
    unfold mg ng
    rw [s]; rfl

theorem read_inf (x : Nat) (h : mg x = infR) : double.read x = .infinity (ng x) := by
  unfold Format.read
  simp only [sign_eq, binade_eq, infRung_eq, least_eq]
  unfold mg at h
  rw [h, if_neg (by unfold infR; omega), if_neg (by omega), if_pos rfl]; rfl

theorem read_nan (x : Nat) (h : infR < mg x) : double.read x = .nan (ng x) (mg x - infR) := by
  unfold Format.read
  simp only [sign_eq, binade_eq, infRung_eq, least_eq]
  unfold mg at h
  rw [if_neg (by unfold infR at h; omega), if_neg (by omega), if_neg (by omega)]; rfl

/-- The word as a number on the line of floats. -/
def ik (x : Nat) : Int := if ng x then -(mg x : Int) else (mg x : Int)

def nanB (x : Nat) : Bool := decide (infR < mg x)

theorem shl (a b : Nat) : a <<< b = a * 2 ^ b := Nat.shiftLeft_eq a b

/-- The value of a finite word in units. -/
def val (x : Nat) : Int := if ng x then -(units (mg x) : Int) else (units (mg x) : Int)

theorem signed_val (neg : Bool) (m u : Nat) : signed neg m u = if neg then -((m * 2 ^ u : Nat) : Int) else ((m * 2 ^ u : Nat) : Int) := by
  unfold signed; rw [shl]

theorem signed_scale (neg : Bool) (m u k : Nat) : signed neg m u * (2 ^ k : Nat) = signed neg m (u + k) := by
  rw [signed_val, signed_val, Nat.pow_add]
  cases neg
  · simp only [Bool.false_eq_true, if_false]; rw [← Int.natCast_mul, Nat.mul_assoc]
  · simp only [if_true]; rw [Int.neg_mul, ← Int.natCast_mul, Nat.mul_assoc]

theorem val_signed (x : Nat) : val x = signed (ng x) (sig (mg x)) (ex (mg x)) := by
  rw [signed_val]; unfold val; rw [units_eq]

theorem cmp_of {a b c d : Int} (h1 : a < b ↔ c < d) (h2 : a = b ↔ c = d) : compare a b = compare c d := by
  show compareOfLessAndEq a b = compareOfLessAndEq c d
  unfold compareOfLessAndEq
  simp only [h1, h2]

theorem cmp_scale (a b : Int) (k : Nat) : compare a b = compare (a * (2 ^ k : Nat)) (b * (2 ^ k : Nat)) := by
  have hp : (0 : Int) < (2 ^ k : Nat) := by have := Nat.two_pow_pos k; omega
  refine cmp_of ?_ ?_
  · exact (Int.mul_lt_mul_right hp).symm
  · constructor
    · intro h; rw [h]
    · intro h; exact Int.eq_of_mul_eq_mul_right (by omega) h

theorem ik_lt_val (x y : Nat) : val x < val y ↔ ik x < ik y := by
  have h := @units_lt_iff (mg x) (mg y)
  have g := @units_lt_iff (mg y) (mg x)
  have a := @units_lt_iff 0 (mg x)
  have b := @units_lt_iff 0 (mg y)
  rw [units_zero] at a b
  unfold val ik
  cases ng x <;> cases ng y <;> simp only [Bool.false_eq_true, if_false, if_true] <;> omega

theorem ik_eq_val (x y : Nat) : val x = val y ↔ ik x = ik y := by
  have h := ik_lt_val x y
  have g := ik_lt_val y x
  omega

theorem order_fin (x y : Nat) (hx : mg x < infR) (hy : mg y < infR) : double.order x y = some (compare (ik x) (ik y)) := by
  unfold Format.order
  rw [read_fin x hx, read_fin y hy]
  unfold Datum.order
  simp only
  have e1 : ((-1074 + (ex (mg x) : Int)) - min (-1074 + (ex (mg x) : Int)) (-1074 + (ex (mg y) : Int))).toNat + min (ex (mg x)) (ex (mg y)) = ex (mg x) := by omega
  have e2 : ((-1074 + (ex (mg y) : Int)) - min (-1074 + (ex (mg x) : Int)) (-1074 + (ex (mg y) : Int))).toNat + min (ex (mg x)) (ex (mg y)) = ex (mg y) := by omega
  rw [cmp_scale _ _ (min (ex (mg x)) (ex (mg y))), signed_scale, signed_scale, e1, e2, ← val_signed, ← val_signed]
  rw [cmp_of (ik_lt_val x y) (ik_eq_val x y)]

theorem infR_pos : (0 : Nat) < infR := by unfold infR; omega

theorem mg_fin_of (x : Nat) (h : nanB x = false) (h2 : mg x ≠ infR) : mg x < infR := by
  unfold nanB at h
  have := of_decide_eq_false h
  omega

theorem order_eq (x y : Nat) : double.order x y = if nanB x || nanB y then none else some (compare (ik x) (ik y)) := by
  by_cases nx : nanB x = true
  · have hx : infR < mg x := of_decide_eq_true nx
    unfold Format.order
    rw [read_nan x hx, nx]
    cases double.read y <;> rfl
  by_cases ny : nanB y = true
  · have hy : infR < mg y := of_decide_eq_true ny
    unfold Format.order
    rw [read_nan y hy, ny]
    simp only [Bool.or_true, if_true]
    cases double.read x <;> rfl
  have nx' : nanB x = false := by simpa using nx
  have ny' : nanB y = false := by simpa using ny
  rw [nx', ny']
  simp only [Bool.or_self, Bool.false_eq_true, if_false]
  by_cases ix : mg x = infR
  · by_cases iy : mg y = infR
    · unfold Format.order
      rw [read_inf x ix, read_inf y iy]
      unfold Datum.order
      simp only
      unfold ik
      rw [ix, iy]
      cases ng x <;> cases ng y <;> decide +kernel
    · have hy := mg_fin_of y ny' iy
      unfold Format.order
      rw [read_inf x ix, read_fin y hy]
      unfold Datum.order
      simp only
      unfold ik
      rw [ix]
      have hp := infR_pos
      cases ng x
      · simp only [Bool.false_eq_true, if_false]
        congr 1; symm; rw [show Ordering.gt = Ordering.gt from rfl]
        exact Int.compare_eq_gt.2 (by split <;> omega)
      · simp only [if_true]
        congr 1; symm
        exact Int.compare_eq_lt.2 (by split <;> omega)
  · have hx := mg_fin_of x nx' ix
    by_cases iy : mg y = infR
    · unfold Format.order
      rw [read_inf y iy, read_fin x hx]
      unfold Datum.order
      simp only
      unfold ik
      rw [iy]
      have hp := infR_pos
      cases ng y
      · simp only [Bool.false_eq_true, if_false]
        congr 1; symm
        exact Int.compare_eq_lt.2 (by split <;> omega)
      · simp only [if_true]
        congr 1; symm
        exact Int.compare_eq_gt.2 (by split <;> omega)
    · exact order_fin x y hx (mg_fin_of y ny' iy)

end Go.Fq
