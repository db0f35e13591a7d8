/- Numbers of 64 bits that are stirred, sums of bytes, names: the plain functions. Lists of routers: which may be, who wants a name most, in which order all want it. -/
import Ieee.Arith
import GoSem.Core.Float
import Derived.RowKit
import Derived.Laws.BitsAll
import Derived.Laws.Cover2
import Derived.Laws.FloatArith
import Derived.IntWalk
import Derived.Laws.Bits64
section
namespace Go.Fq
open Ieee

/-- The magnitude of a rung, in units of the least number. -/
def units (r : Nat) : Nat := if r < 2 ^ 52 then r else (2 ^ 52 + r % 2 ^ 52) * 2 ^ (r / 2 ^ 52 - 1)

def infR : Nat := 2047 * 2 ^ 52

theorem infRung_eq : double.infRung = infR := by decide +kernel
theorem binade_eq : double.binade = 2 ^ 52 := by decide +kernel
theorem sign_eq : double.signWeight = 2 ^ 63 := by decide +kernel
theorem least_eq : double.leastPlace = -1074 := by decide +kernel

/-- Significand and exponent of a rung. -/
def sig (r : Nat) : Nat := if r < 2 ^ 52 then r else 2 ^ 52 + r % 2 ^ 52
def ex (r : Nat) : Nat := r / 2 ^ 52 - 1

theorem units_eq (r : Nat) : units r = sig r * 2 ^ ex r := by
  unfold units sig ex
  split
  · rename_i h
    have : r / 2 ^ 52 = 0 := Nat.div_eq_of_lt h
    simp [this]
  · rfl

theorem sig_lt (r : Nat) : sig r < 2 ^ 53 := by
  unfold sig; split <;> omega

theorem ex_sig (r : Nat) : ex r * 2 ^ 52 + sig r = r := by
  unfold ex sig; split <;> omega

theorem sig_ge (r : Nat) (h : 0 < ex r) : 2 ^ 52 ≤ sig r := by
  unfold ex at h; unfold sig; split <;> omega

theorem ex_le (r : Nat) (h : r < infR) : ex r ≤ 2045 := by
  unfold ex; unfold infR at h; omega

/-- A number m * 2 ^ e with a significand of at most 53 digits is that of a rung. -/
def rungOf (m e : Nat) : Nat := e * 2 ^ 52 + m

theorem units_normal (m e : Nat) (h1 : 2 ^ 52 ≤ m) (h2 : m < 2 ^ 53) : units (e * 2 ^ 52 + m) = m * 2 ^ e := by
  have a : (e * 2 ^ 52 + m) / 2 ^ 52 = e + 1 := by omega
  have b : (e * 2 ^ 52 + m) % 2 ^ 52 = m - 2 ^ 52 := by omega
  have c : ¬ (e * 2 ^ 52 + m < 2 ^ 52) := by omega
  unfold units
  rw [if_neg c, a, b, show 2 ^ 52 + (m - 2 ^ 52) = m by omega, show e + 1 - 1 = e by omega]

theorem units_small (m : Nat) (h : m < 2 ^ 52) : units m = m := by
  unfold units; rw [if_pos h]

/-- Each m * 2 ^ e with m < 2 ^ 53 and e ≤ 2045 is the magnitude of a finite rung. -/
theorem rep (m : Nat) : ∀ (e : Nat), m < 2 ^ 53 → e ≤ 2045 → ∃ r, r < infR ∧ units r = m * 2 ^ e := by
  intro e
  induction e generalizing m with
  | zero =>
    intro hm _
    by_cases h : m < 2 ^ 52
    · exact ⟨m, by unfold infR; omega, by rw [units_small m h]; simp⟩
    · refine ⟨0 * 2 ^ 52 + m, by unfold infR; omega, units_normal m 0 (by omega) hm⟩
  | succ e ih =>
    intro hm he
    by_cases h : m < 2 ^ 52
    · obtain ⟨r, h1, h2⟩ := ih (m * 2) (by omega) (by omega)
      exact ⟨r, h1, by rw [h2, Nat.pow_succ]; simp [Nat.mul_assoc, Nat.mul_comm]⟩
    · exact ⟨(e + 1) * 2 ^ 52 + m, by unfold infR; omega, units_normal m (e + 1) (by omega) hm⟩

theorem units_mono_step (r : Nat) : units r < units (r + 1) := by
  by_cases h : r + 1 < 2 ^ 52
  · rw [units_small _ h, units_small r (by omega)]; omega
  · by_cases h0 : r < 2 ^ 52
    · have e : r + 1 = 0 * 2 ^ 52 + 2 ^ 52 := by omega
      rw [units_small r h0, e, units_normal _ 0 (by omega) (by omega)]; omega
    · have hs := sig_lt r
      have hx := ex_sig r
      have hg : 2 ^ 52 ≤ sig r := by unfold sig; rw [if_neg h0]; omega
      have hp : 0 < 2 ^ ex r := Nat.two_pow_pos _
      by_cases hc : sig r + 1 < 2 ^ 53
      · have e : r + 1 = ex r * 2 ^ 52 + (sig r + 1) := by omega
        rw [e, units_normal _ _ (by omega) hc, units_eq r]
        exact Nat.mul_lt_mul_of_pos_right (by omega) hp
      · have e : r + 1 = (ex r + 1) * 2 ^ 52 + 2 ^ 52 := by omega
        rw [e, units_normal _ _ (by omega) (by omega), units_eq r]
        have e2 : 2 ^ 52 * 2 ^ (ex r + 1) = 2 ^ 53 * 2 ^ ex r := by
          rw [Nat.pow_succ 2 (ex r), Nat.mul_comm (2 ^ ex r) 2, ← Nat.mul_assoc]
        rw [e2]
        exact Nat.mul_lt_mul_of_pos_right (by omega) hp

theorem units_mono (r k : Nat) : units r < units (r + (k + 1)) := by
  induction k with
  | zero => exact units_mono_step r
  | succ k ih => exact Nat.lt_trans ih (units_mono_step _)

theorem units_lt {r s : Nat} (h : r < s) : units r < units s := by
  have := units_mono r (s - r - 1)
  rwa [show r + (s - r - 1 + 1) = s by omega] at this

theorem units_lt_iff {r s : Nat} : units r < units s ↔ r < s := by
  constructor
  · intro h
    rcases Nat.lt_trichotomy r s with g | g | g
    · exact g
    · subst g; omega
    · have := units_lt g; omega
  · exact units_lt

theorem units_inj {r s : Nat} (h : units r = units s) : r = s := by
  rcases Nat.lt_trichotomy r s with g | g | g
  · have := units_lt g; omega
  · exact g
  · have := units_lt g; omega

theorem units_zero : units 0 = 0 := by rw [units_small 0 (by omega)]

def mg (x : Nat) : Nat := x % 2 ^ 63
def ng (x : Nat) : Bool := x / 2 ^ 63 % 2 == 1

theorem read_fin (x : Nat) (h : mg x < infR) : double.read x = .number (ng x) (sig (mg x)) (-1074 + (ex (mg x) : Int)) := by
  unfold Format.read
  simp only [sign_eq, binade_eq, infRung_eq, least_eq]
  unfold mg at h
  by_cases h1 : x % 2 ^ 63 < 2 ^ 52
  · rw [if_pos h1]
    have e : ex (x % 2 ^ 63) = 0 := by unfold ex; omega
    have s : sig (x % 2 ^ 63) = x % 2 ^ 63 := by unfold sig; rw [if_pos h1]
    unfold mg ng
    rw [e, s]; rfl
  · rw [if_neg h1, if_pos h]
    have s : sig (x % 2 ^ 63) = 2 ^ 52 + x % 2 ^ 63 % 2 ^ 52 := by unfold sig; rw [if_neg h1]
    unfold mg ng
    rw [s]; rfl

theorem read_inf (x : Nat) (h : mg x = infR) : double.read x = .infinity (ng x) := by
  unfold Format.read
  simp only [sign_eq, binade_eq, infRung_eq, least_eq]
  unfold mg at h
  rw [h, if_neg (by unfold infR; omega), if_neg (by omega), if_pos rfl]; rfl

theorem read_nan (x : Nat) (h : infR < mg x) : double.read x = .nan (ng x) (mg x - infR) := by
  unfold Format.read
  simp only [sign_eq, binade_eq, infRung_eq, least_eq]
  unfold mg at h
  rw [if_neg (by unfold infR at h; omega), if_neg (by omega), if_neg (by omega)]; rfl

/-- The word as a number on the line of floats. -/
def ik (x : Nat) : Int := if ng x then -(mg x : Int) else (mg x : Int)

def nanB (x : Nat) : Bool := decide (infR < mg x)

theorem shl (a b : Nat) : a <<< b = a * 2 ^ b := Nat.shiftLeft_eq a b

/-- The value of a finite word in units. -/
def val (x : Nat) : Int := if ng x then -(units (mg x) : Int) else (units (mg x) : Int)

theorem signed_val (neg : Bool) (m u : Nat) : signed neg m u = if neg then -((m * 2 ^ u : Nat) : Int) else ((m * 2 ^ u : Nat) : Int) := by
  unfold signed; rw [shl]

theorem signed_scale (neg : Bool) (m u k : Nat) : signed neg m u * (2 ^ k : Nat) = signed neg m (u + k) := by
  rw [signed_val, signed_val, Nat.pow_add]
  cases neg
  · simp only [Bool.false_eq_true, if_false]; rw [← Int.natCast_mul, Nat.mul_assoc]
  · simp only [if_true]; rw [Int.neg_mul, ← Int.natCast_mul, Nat.mul_assoc]

theorem val_signed (x : Nat) : val x = signed (ng x) (sig (mg x)) (ex (mg x)) := by
  rw [signed_val]; unfold val; rw [units_eq]

theorem cmp_of {a b c d : Int} (h1 : a < b ↔ c < d) (h2 : a = b ↔ c = d) : compare a b = compare c d := by
  show compareOfLessAndEq a b = compareOfLessAndEq c d
  unfold compareOfLessAndEq
  simp only [h1, h2]

theorem cmp_scale (a b : Int) (k : Nat) : compare a b = compare (a * (2 ^ k : Nat)) (b * (2 ^ k : Nat)) := by
  have hp : (0 : Int) < (2 ^ k : Nat) := by have := Nat.two_pow_pos k; omega
  refine cmp_of ?_ ?_
  · exact (Int.mul_lt_mul_right hp).symm
  · constructor
    · intro h; rw [h]
    · intro h; exact Int.eq_of_mul_eq_mul_right (by omega) h

theorem ik_lt_val (x y : Nat) : val x < val y ↔ ik x < ik y := by
  have h := @units_lt_iff (mg x) (mg y)
  have g := @units_lt_iff (mg y) (mg x)
  have a := @units_lt_iff 0 (mg x)
  have b := @units_lt_iff 0 (mg y)
  rw [units_zero] at a b
  unfold val ik
  cases ng x <;> cases ng y <;> simp only [Bool.false_eq_true, if_false, if_true] <;> omega

theorem ik_eq_val (x y : Nat) : val x = val y ↔ ik x = ik y := by
  have h := ik_lt_val x y
  have g := ik_lt_val y x
  omega

theorem order_fin (x y : Nat) (hx : mg x < infR) (hy : mg y < infR) : double.order x y = some (compare (ik x) (ik y)) := by
  unfold Format.order
  rw [read_fin x hx, read_fin y hy]
  unfold Datum.order
  simp only
  have e1 : ((-1074 + (ex (mg x) : Int)) - min (-1074 + (ex (mg x) : Int)) (-1074 + (ex (mg y) : Int))).toNat + min (ex (mg x)) (ex (mg y)) = ex (mg x) := by omega
  have e2 : ((-1074 + (ex (mg y) : Int)) - min (-1074 + (ex (mg x) : Int)) (-1074 + (ex (mg y) : Int))).toNat + min (ex (mg x)) (ex (mg y)) = ex (mg y) := by omega
  rw [cmp_scale _ _ (min (ex (mg x)) (ex (mg y))), signed_scale, signed_scale, e1, e2, ← val_signed, ← val_signed]
  rw [cmp_of (ik_lt_val x y) (ik_eq_val x y)]

theorem infR_pos : (0 : Nat) < infR := by unfold infR; omega

theorem mg_fin_of (x : Nat) (h : nanB x = false) (h2 : mg x ≠ infR) : mg x < infR := by
  unfold nanB at h
  have := of_decide_eq_false h
  omega

theorem order_eq (x y : Nat) : double.order x y = if nanB x || nanB y then none else some (compare (ik x) (ik y)) := by
  by_cases nx : nanB x = true
  · have hx : infR < mg x := of_decide_eq_true nx
    unfold Format.order
    rw [read_nan x hx, nx]
    cases double.read y <;> rfl
  by_cases ny : nanB y = true
  · have hy : infR < mg y := of_decide_eq_true ny
    unfold Format.order
    rw [read_nan y hy, ny]
    simp only [Bool.or_true, if_true]
    cases double.read x <;> rfl
  have nx' : nanB x = false := by simpa using nx
  have ny' : nanB y = false := by simpa using ny
  rw [nx', ny']
  simp only [Bool.or_self, Bool.false_eq_true, if_false]
  by_cases ix : mg x = infR
  · by_cases iy : mg y = infR
    · unfold Format.order
      rw [read_inf x ix, read_inf y iy]
      unfold Datum.order
      simp only
      unfold ik
      rw [ix, iy]
      cases ng x <;> cases ng y <;> decide +kernel
    · have hy := mg_fin_of y ny' iy
      unfold Format.order
      rw [read_inf x ix, read_fin y hy]
      unfold Datum.order
      simp only
      unfold ik
      rw [ix]
      have hp := infR_pos
      cases ng x
      · simp only [Bool.false_eq_true, if_false]
        congr 1; symm; rw [show Ordering.gt = Ordering.gt from rfl]
        exact Int.compare_eq_gt.2 (by split <;> omega)
      · simp only [if_true]
        congr 1; symm
        exact Int.compare_eq_lt.2 (by split <;> omega)
  · have hx := mg_fin_of x nx' ix
    by_cases iy : mg y = infR
    · unfold Format.order
      rw [read_inf y iy, read_fin x hx]
      unfold Datum.order
      simp only
      unfold ik
      rw [iy]
      have hp := infR_pos
      cases ng y
      · simp only [Bool.false_eq_true, if_false]
        congr 1; symm
        exact Int.compare_eq_lt.2 (by split <;> omega)
      · simp only [if_true]
        congr 1; symm
        exact Int.compare_eq_gt.2 (by split <;> omega)
    · exact order_fin x y hx (mg_fin_of y ny' iy)

end Go.Fq
end

section
namespace Go.Fq
open Ieee

theorem mg_word (neg : Bool) (r : Nat) (h : r < 2 ^ 63) : mg (double.word neg r) = r := by
  unfold mg Format.word; rw [sign_eq]; cases neg <;> simp <;> omega

theorem ng_word (neg : Bool) (r : Nat) (h : r < 2 ^ 63) : ng (double.word neg r) = neg := by
  unfold ng Format.word; rw [sign_eq]
  cases neg
  · have : r / 2 ^ 63 = 0 := Nat.div_eq_of_lt h
    simp [this]
  · have : (2 ^ 63 + r) / 2 ^ 63 = 1 := by omega
    simp only [if_true, this]; rfl

theorem nearest_mg_le (neg : Bool) (m : Nat) (p : Int) : mg (double.nearest neg m p) ≤ infR ∧ ng (double.nearest neg m p) = neg := by
  unfold Format.nearest
  dsimp only
  split
  · exact ⟨by rw [mg_word _ _ (by omega)]; omega, ng_word _ _ (by omega)⟩
  · have h := Nat.min_le_right ((max (p + (m.log2 : Int) - (double.fractionBits : Int)) double.leastPlace - double.leastPlace).toNat * double.binade + Toward.even.cut neg (m <<< (p - max (p + (m.log2 : Int) - (double.fractionBits : Int)) double.leastPlace).toNat) (max (p + (m.log2 : Int) - (double.fractionBits : Int)) double.leastPlace - p).toNat) double.infRung
    rw [infRung_eq] at h
    rw [infRung_eq]
    have hi : infR < 2 ^ 63 := by unfold infR; omega
    exact ⟨by rw [mg_word _ _ (by omega)]; exact h, ng_word _ _ (by omega)⟩

theorem nan_of_le {x : Nat} (h : mg x ≤ infR) : nanB x = false := by
  unfold nanB; simp only [decide_eq_false_iff_not]; omega

theorem nan_write_number (neg : Bool) (m : Nat) (p : Int) : nanB (double.write (.number neg m p)) = false :=
  nan_of_le (nearest_mg_le neg m p).1

theorem write_inf (neg : Bool) : mg (double.write (.infinity neg)) = infR ∧ ng (double.write (.infinity neg)) = neg := by
  unfold Format.write
  have hi : infR < 2 ^ 63 := by unfold infR; omega
  rw [infRung_eq]
  exact ⟨mg_word _ _ hi, ng_word _ _ hi⟩

theorem nan_write_inf (neg : Bool) : nanB (double.write (.infinity neg)) = false :=
  nan_of_le (by rw [(write_inf neg).1]; exact Nat.le_refl _)

/-- Four. -/
def FOUR : Nat := 4616189618054758400
theorem read_four : double.read FOUR = .number false (2 ^ 52) (-50) := by decide +kernel

/-- Four times a float that is no NaN. -/
def mul4 (f : Nat) : Nat := (double.mul f FOUR).getD 0
def truncD (way : Toward) (x : Nat) : Nat := double.write ((double.read x).integral way)

theorem read_cases (x : Nat) (h : nanB x = false) : (mg x < infR ∧ double.read x = .number (ng x) (sig (mg x)) (-1074 + (ex (mg x) : Int))) ∨ (mg x = infR ∧ double.read x = .infinity (ng x)) := by
  by_cases hi : mg x = infR
  · exact .inr ⟨hi, read_inf x hi⟩
  · have := mg_fin_of x h hi
    exact .inl ⟨this, read_fin x this⟩

theorem mul4_some (f : Nat) (h : nanB f = false) : double.mul f FOUR = some (mul4 f) ∧ nanB (mul4 f) = false := by
  have key : ∃ r, double.mul f FOUR = some r ∧ nanB r = false := by
    rcases read_cases f h with ⟨_, e⟩ | ⟨_, e⟩
    · refine ⟨_, by unfold Format.mul; rw [e, read_four]; rfl, nan_write_number _ _ _⟩
    · refine ⟨_, by unfold Format.mul; rw [e, read_four]; rfl, nan_write_inf _⟩
  obtain ⟨r, h1, h2⟩ := key
  have e : mul4 f = r := by unfold mul4; rw [h1]; rfl
  rw [e]; exact ⟨h1, h2⟩

theorem truncD_nan (way : Toward) (x : Nat) (h : nanB x = false) : nanB (truncD way x) = false := by
  unfold truncD
  rcases read_cases x h with ⟨_, e⟩ | ⟨_, e⟩
  · rw [e]; exact nan_write_number _ _ _
  · rw [e]; exact nan_write_inf _

theorem not_isNaN_read (x : Nat) (h : nanB x = false) : ∀ s t, double.read x ≠ .nan s t := by
  intro s t
  rcases read_cases x h with ⟨_, e⟩ | ⟨_, e⟩ <;> rw [e] <;> simp

/-- Is it a multiple of a quarter? As the program asks it. -/
def qF (f : Nat) : Bool := double.order (truncD .zero (mul4 f)) (mul4 f) == some .eq

/-- The NaNs that an operation may make are NaNs. -/
theorem nan_made (t : Nat) : nanB ((t % 2) * 2 ^ 63 + 0x7ff0000000000000 + 1 + (t / 2) % (2 ^ 52 - 1)) = true := by
  have h1 : t % 2 < 2 := Nat.mod_lt _ (by omega)
  have h2 : (t / 2) % (2 ^ 52 - 1) < 2 ^ 52 - 1 := Nat.mod_lt _ (by omega)
  generalize t % 2 = a at *
  generalize (t / 2) % (2 ^ 52 - 1) = b at *
  unfold nanB mg infR
  simp only [decide_eq_true_eq]
  omega

end Go.Fq
end

section
namespace Go.Fq
open Ieee

theorem od_eq (a b : Nat) : FloatKind.f64.format.order a b = if nanB a || nanB b then none else some (compare (ik a) (ik b)) := order_eq a b
theorem od_nan_l {a : Nat} (b : Nat) (h : nanB a = true) : FloatKind.f64.format.order a b = none := by rw [od_eq, h]; rfl
theorem od_nan_r (a : Nat) {b : Nat} (h : nanB b = true) : FloatKind.f64.format.order a b = none := by rw [od_eq, h]; simp
theorem od_num {a b : Nat} (ha : nanB a = false) (hb : nanB b = false) : FloatKind.f64.format.order a b = some (compare (ik a) (ik b)) := by rw [od_eq, ha, hb]; rfl
theorem od_lt {a b : Nat} (ha : nanB a = false) (hb : nanB b = false) (h : ik a < ik b) : FloatKind.f64.format.order a b = some .lt := by
  rw [od_num ha hb, Int.compare_eq_lt.2 h]
theorem od_gt {a b : Nat} (ha : nanB a = false) (hb : nanB b = false) (h : ik b < ik a) : FloatKind.f64.format.order a b = some .gt := by
  rw [od_num ha hb, Int.compare_eq_gt.2 h]
theorem od_same {a b : Nat} (ha : nanB a = false) (hb : nanB b = false) (h : ik a = ik b) : FloatKind.f64.format.order a b = some .eq := by
  rw [od_num ha hb, Int.compare_eq_eq.2 h]
theorem od_self {a : Nat} (ha : nanB a = false) : FloatKind.f64.format.order a a = some .eq := od_same ha ha rfl

theorem ng_iff (a : Nat) (h : a < 2 ^ 64) : ng a = decide (2 ^ 63 ≤ a) := by
  unfold ng
  by_cases g : 2 ^ 63 ≤ a
  · have : a / 2 ^ 63 = 1 := by omega
    rw [this]; simp [g]
  · have : a / 2 ^ 63 = 0 := by omega
    rw [this]; simp [g]

theorem ng_wrap (a : Nat) (h : a < 2 ^ 64) : decide (RowKit.wrap64 (a : Int) < 0) = ng a := by
  rw [ng_iff a h]; unfold RowKit.wrap64
  rw [decide_eq_decide]
  omega

theorem ng_div (a : Nat) (h : a < 2 ^ 64) : ((a : Int) / 9223372036854775808 == 1) = ng a := by
  rw [ng_iff a h, Bool.eq_iff_iff, beq_iff_eq, decide_eq_true_eq]
  omega
theorem abs_bits (a : Nat) (h : a < 2 ^ 64) : (bits .andNot .u64 (a : Int) 9223372036854775808).toNat = mg a := by
  rw [show (9223372036854775808 : Int) = ((9223372036854775808 : Nat) : Int) from rfl, u64_andNot_nat a _ (by omega) (by omega)]
  rw [show (18446744073709551615 - 9223372036854775808 : Nat) = 9223372036854775807 from rfl, nat_mask63]
  rfl

theorem mg_mg (a : Nat) : mg (mg a) = mg a := by unfold mg; omega
theorem ng_mg (a : Nat) : ng (mg a) = false := by unfold mg ng; have : a % 2 ^ 63 / 2 ^ 63 = 0 := by omega
                                                  rw [this]; rfl
theorem nanB_mg (a : Nat) : nanB (mg a) = nanB a := by unfold nanB; rw [mg_mg]
theorem ik_mg (a : Nat) : ik (mg a) = (mg a : Int) := by unfold ik; rw [ng_mg, mg_mg]; simp

def MAXF : Nat := 9218868437227405311
def NMAXF : Nat := 18442240474082181119
def infB (a : Nat) : Bool := decide (mg a = infR)

theorem inf_of_gt (a : Nat) : (FloatKind.f64.format.order (mg a) MAXF == some .gt) = infB a := by
  unfold infB
  by_cases h : nanB a = true
  · rw [od_nan_l _ (by rw [nanB_mg]; exact h)]
    unfold nanB at h
    have := of_decide_eq_true h
    have : ¬ mg a = infR := by omega
    simp [this]
  · have h : nanB a = false := by simpa using h
    have hm : nanB MAXF = false := by decide +kernel
    have im : ik MAXF = 9218868437227405311 := by decide +kernel
    have hl := h
    unfold nanB at hl
    have hl := of_decide_eq_false hl
    have hi : infR = 9218868437227405312 := by decide +kernel
    rw [od_num (by rw [nanB_mg]; exact h) hm, ik_mg, im, Bool.eq_iff_iff, beq_iff_eq, decide_eq_true_eq, Option.some.injEq, Int.compare_eq_gt]
    omega

/-- What the order with the greatest float tells, signs and all. -/
theorem order_max (a : Nat) : FloatKind.f64.format.order a MAXF = if nanB a then none else some (compare (ik a) 9218868437227405311) := by
  rw [od_eq, show nanB MAXF = false by decide +kernel, show ik MAXF = 9218868437227405311 by decide +kernel, Bool.or_false]
theorem order_nmax (a : Nat) : FloatKind.f64.format.order a NMAXF = if nanB a then none else some (compare (ik a) (-9218868437227405311)) := by
  rw [od_eq, show nanB NMAXF = false by decide +kernel, show ik NMAXF = -9218868437227405311 by decide +kernel, Bool.or_false]

theorem inf_two (a : Nat) : (FloatKind.f64.format.order a MAXF == some .gt || FloatKind.f64.format.order a NMAXF == some .lt) = infB a := by
  unfold infB
  rw [order_max, order_nmax]
  have hi : infR = 9218868437227405312 := by decide +kernel
  by_cases h : nanB a = true
  · rw [h]
    unfold nanB at h
    have := of_decide_eq_true h
    have : ¬ mg a = infR := by omega
    simp [this]
  · have h : nanB a = false := by simpa using h
    have hl := h
    unfold nanB at hl
    have hl := of_decide_eq_false hl
    rw [h, Bool.eq_iff_iff]
    simp only [Bool.false_eq_true, if_false, Bool.or_eq_true, beq_iff_eq, Option.some.injEq, Int.compare_eq_gt, Int.compare_eq_lt, decide_eq_true_eq]
    unfold ik
    split <;> omega

end Go.Fq
end

section
namespace Go.Fq
open Ieee

def ONE : Nat := 4607182418800017408
/-- What 'within' answers: the errors by number. -/
def withinF (f most : Nat) : Int :=
  if nanB f then 10 else if infB f then 11 else if ng f then 12
  else if FloatKind.f64.format.order f 4607182418800017408 == some .lt then 13
  else if FloatKind.f64.format.order f most == some .gt then 14
  else if !qF f then 15 else 0
def WMAX : Nat := 4697254411347427328
def LMAX : Nat := 4742290407621132288
def weightF (f : Nat) : Int := withinF f 4697254411347427328
def limitF (f : Nat) : Int := withinF f 4742290407621132288
def distF (d max : Nat) : Int :=
  if limitF max != 0 then limitF max else if nanB d then 10 else if ng d then 12 else if infB d then 0
  else if FloatKind.f64.format.order d max == some .gt || FloatKind.f64.format.order d max == some .eq then 16
  else if !qF d then 15 else 0
def cmpF (a b : Nat) : Int :=
  if nanB a then (if nanB b then 0 else 1) else if nanB b then -1
  else if ik a < ik b then -1 else if ik b < ik a then 1 else 0

theorem inf_one (a : Nat) (h : ng a = false) : (FloatKind.f64.format.order a 9218868437227405311 == some .gt) = infB a := by
  have h2 := inf_two a
  rw [show (9218868437227405311 : Nat) = MAXF from rfl, ← h2]
  have : (FloatKind.f64.format.order a NMAXF == some .lt) = false := by
    rw [order_nmax]
    split
    · rfl
    · have : ¬ ik a < -9218868437227405311 := by unfold ik; rw [h]; simp only [Bool.false_eq_true, if_false]; omega
      rw [beq_eq_false_iff_ne]
      intro hc
      rw [Option.some.injEq, Int.compare_eq_lt] at hc
      exact this hc
  rw [this, Bool.or_false]

theorem sum_not_nan (a b d : Datum) (h : a.sum b = some d) : d.isNaN = false := by
  cases a <;> cases b <;> simp only [Datum.sum] at h <;> try (cases h; done)
  all_goals first | (cases h; rfl) | (split at h <;> first | (cases h; done) | (cases h; rfl))

theorem nanB_write {d : Datum} (h : d.isNaN = false) : nanB (double.write d) = false := by
  cases d with
  | number s m p => exact nan_write_number s m p
  | infinity s => exact nan_write_inf s
  | nan s t => cases h

theorem add_not_nan {x y r : Nat} (h : double.add x y = some r) : nanB r = false := by
  unfold Format.add at h
  cases hs : (double.read x).sum (double.read y) with
  | none => rw [hs] at h; cases h
  | some d => rw [hs] at h; cases h; exact nanB_write (sum_not_nan _ _ _ hs)

def INF : Nat := 9218868437227405312
def addF (x y max : Nat) : Nat :=
  match double.add x y with
  | none => 9221120237041090560
  | some s => if FloatKind.f64.format.order s max == some .lt then (if FloatKind.f64.format.order s 0 == some .eq then 0 else s) else 9218868437227405312
theorem addF_none {x y : Nat} (max : Nat) (h : double.add x y = none) : addF x y max = 9221120237041090560 := by unfold addF; rw [h]
theorem addF_some {x y s : Nat} (max : Nat) (h : double.add x y = some s) : addF x y max = if FloatKind.f64.format.order s max == some .lt then (if FloatKind.f64.format.order s 0 == some .eq then 0 else s) else 9218868437227405312 := by unfold addF; rw [h]

theorem cmp_lt (a b : Nat) : (FloatKind.f64.format.order a b == some .lt) = (!nanB a && !nanB b && decide (ik a < ik b)) := by
  rw [od_eq]
  cases nanB a <;> cases nanB b <;> simp
  rw [Bool.eq_iff_iff, beq_iff_eq, decide_eq_true_eq, Int.compare_eq_lt]
theorem cmp_gt (a b : Nat) : (FloatKind.f64.format.order a b == some .gt) = (!nanB a && !nanB b && decide (ik b < ik a)) := by
  rw [od_eq]
  cases nanB a <;> cases nanB b <;> simp
  rw [Bool.eq_iff_iff, beq_iff_eq, decide_eq_true_eq, Int.compare_eq_gt]

/-- The place of a float on one line, the NaNs behind all. -/
def place (a : Nat) : Int := if nanB a then 9223372036854775808 else ik a
theorem ik_lt (a : Nat) : ik a < 9223372036854775808 ∧ -9223372036854775808 < ik a := by
  unfold ik mg
  have : a % 2 ^ 63 < 2 ^ 63 := Nat.mod_lt _ (by omega)
  split <;> omega
theorem cmpF_place (a b : Nat) : cmpF a b = if place a < place b then -1 else if place b < place a then 1 else 0 := by
  have ha := ik_lt a
  have hb := ik_lt b
  unfold cmpF place
  cases nanB a <;> cases nanB b <;> simp only [Bool.false_eq_true, if_false, if_true] <;> (repeat' split) <;> omega
end Go.Fq
end

section
namespace Go.Fq
open Ieee

theorem log2_iff {n k : Nat} (h : n ≠ 0) : n.log2 = k ↔ 2 ^ k ≤ n ∧ n < 2 ^ (k + 1) := Nat.log2_eq_iff h

theorem log2_shift (a k : Nat) (h : a ≠ 0) : (a * 2 ^ k).log2 = a.log2 + k := by
  have hp := Nat.two_pow_pos k
  obtain ⟨h1, h2⟩ := (log2_iff (k := a.log2) h).1 rfl
  refine (log2_iff (Nat.mul_ne_zero h (by omega))).2 ⟨?_, ?_⟩
  · rw [Nat.pow_add]; exact Nat.mul_le_mul_right _ h1
  · rw [show a.log2 + k + 1 = (a.log2 + 1) + k by omega, Nat.pow_add]
    exact Nat.mul_lt_mul_of_pos_right h2 hp

theorem log2_lt {n k : Nat} (h : n ≠ 0) (g : n < 2 ^ k) : n.log2 < k := (Nat.log2_lt h).2 g

/-- A cut that drops nothing but noughts. -/
theorem cut_exact (neg : Bool) (m k : Nat) : Toward.even.cut neg (m * 2 ^ k) k = m := by
  unfold Toward.cut
  by_cases hm : m = 0
  · subst hm; simp
  have hl := log2_shift m k hm
  have hg : min k ((m * 2 ^ k).log2 + 2) = k := by omega
  have hp := Nat.two_pow_pos k
  simp only [hg, shl, Nat.one_mul, Nat.mul_div_cancel _ hp, Nat.mul_mod_left]
  have e1 : decide (2 ^ k < 2 * 0) = false := by simp
  have e2 : (2 ^ k == 2 * 0) = false := by rw [beq_eq_false_iff_ne]; omega
  rw [e1, e2]; simp

theorem cut_none (neg : Bool) (m : Nat) : Toward.even.cut neg m 0 = m := by
  have := cut_exact neg m 0
  simpa using this

theorem nearest_exact (neg : Bool) (mag : Nat) (pl : Int) (r K : Nat) (hr : r < infR) (hK : 0 ≤ pl + K) (hK2 : 1074 ≤ K) (h : mag * 2 ^ (pl + K).toNat = units r * 2 ^ (K - 1074)) :
    double.nearest neg mag pl = double.word neg r := by
  have p1 := Nat.two_pow_pos (pl + K).toNat
  have p2 := Nat.two_pow_pos (K - 1074)
  unfold Format.nearest
  by_cases hm : mag = 0
  · rw [if_pos hm]
    subst hm
    have : units r = 0 := by
      rw [Nat.zero_mul] at h
      rcases Nat.mul_eq_zero.1 h.symm with g | g
      · exact g
      · omega
    have : r = 0 := units_inj (by rw [this, units_zero])
    rw [this]
  · rw [if_neg hm]
    rw [units_eq, Nat.mul_assoc, ← Nat.pow_add] at h
    have hs : sig r ≠ 0 := by
      intro hs; rw [hs, Nat.zero_mul] at h
      rcases Nat.mul_eq_zero.1 h with g | g
      · exact hm g
      · omega
    have hl : mag.log2 + (pl + K).toNat = (sig r).log2 + (ex r + (K - 1074)) := by
      rw [← log2_shift _ _ hm, ← log2_shift _ _ hs, h]
    have hlt := log2_lt hs (sig_lt r)
    have hge : 0 < ex r → 52 ≤ (sig r).log2 := by
      intro g
      have := sig_ge r g
      exact (Nat.le_log2 hs).2 this
    have fb : double.fractionBits = 52 := rfl
    have hlast : max (pl + (mag.log2 : Int) - (double.fractionBits : Int)) double.leastPlace = (ex r : Int) - 1074 := by
      rw [least_eq, fb]
      by_cases g : 0 < ex r
      · have := hge g; omega
      · omega
    dsimp only
    rw [hlast, least_eq, binade_eq, infRung_eq]
    have hkept : Toward.even.cut neg (mag <<< (pl - ((ex r : Int) - 1074)).toNat) ((ex r : Int) - 1074 - pl).toNat = sig r := by
      rw [shl]
      by_cases g : pl ≤ (ex r : Int) - 1074
      · have e0 : (pl - ((ex r : Int) - 1074)).toNat = 0 := by omega
        rw [e0, Nat.pow_zero, Nat.mul_one]
        have e1 : ex r + (K - 1074) = ((ex r : Int) - 1074 - pl).toNat + (pl + K).toNat := by omega
        rw [e1, Nat.pow_add, ← Nat.mul_assoc] at h
        rw [Nat.eq_of_mul_eq_mul_right p1 h]
        exact cut_exact _ _ _
      · have e0 : ((ex r : Int) - 1074 - pl).toNat = 0 := by omega
        rw [e0]
        have e1 : (pl + K).toNat = (pl - ((ex r : Int) - 1074)).toNat + (ex r + (K - 1074)) := by omega
        rw [e1, Nat.pow_add, ← Nat.mul_assoc] at h
        rw [Nat.eq_of_mul_eq_mul_right (Nat.two_pow_pos _) h]
        exact cut_none _ _
    rw [hkept]
    have e : ((ex r : Int) - 1074 - -1074).toNat = ex r := by omega
    rw [e, ex_sig, Nat.min_eq_left (Nat.le_of_lt hr)]

/-- Units to a quarter. -/
def qe : Nat := 1072
def UQ : Nat := 2 ^ qe
theorem UQ_pos : 0 < UQ := Nat.two_pow_pos _

/-- The word of n quarters. -/
def qw (n : Nat) : Nat := double.nearest false n (-2)

/-- The magnitude of n quarters is a rung's. -/
theorem qw_rung (n : Nat) (h : n < 2 ^ 53) : ∃ r, r < infR ∧ units r = n * UQ ∧ qw n = r := by
  obtain ⟨r, h1, h2⟩ := rep n qe h (by unfold qe; omega)
  change units r = n * UQ at h2
  refine ⟨r, h1, h2, ?_⟩
  unfold qw
  rw [nearest_exact false n (-2) r 1074 h1 (by omega) (by omega) (by rw [h2, Nat.sub_self, Nat.pow_zero, Nat.mul_one, show ((-2 : Int) + ((1074 : Nat) : Int)).toNat = qe from rfl]; rfl)]
  unfold Format.word; rw [if_neg (by simp)]

theorem word_pos (r : Nat) : double.word false r = r := by unfold Format.word; simp
theorem mg_small {r : Nat} (h : r < infR) : mg r = r := by unfold mg; unfold infR at h; omega
theorem ng_small {r : Nat} (h : r < infR) : ng r = false := by
  unfold ng; unfold infR at h
  have : r / 2 ^ 63 = 0 := Nat.div_eq_of_lt (by omega)
  rw [this]; rfl

theorem qw_fin {n : Nat} (h : n < 2 ^ 53) : mg (qw n) < infR ∧ ng (qw n) = false ∧ val (qw n) = (n * UQ : Nat) ∧ qw n < infR := by
  obtain ⟨r, h1, h2, h3⟩ := qw_rung n h
  rw [h3]
  refine ⟨by rw [mg_small h1]; exact h1, ng_small h1, ?_, h1⟩
  unfold val; rw [ng_small h1, mg_small h1, h2]; rfl

theorem qw_nan {n : Nat} (h : n < 2 ^ 53) : nanB (qw n) = false := nan_of_le (Nat.le_of_lt (qw_fin h).1)
theorem qw_inf {n : Nat} (h : n < 2 ^ 53) : infB (qw n) = false := by
  have := (qw_fin h).1; unfold infB; simp only [decide_eq_false_iff_not]; omega

theorem qw_lt {n m : Nat} (hn : n < 2 ^ 53) (hm : m < 2 ^ 53) : ik (qw n) < ik (qw m) ↔ n < m := by
  rw [← ik_lt_val, (qw_fin hn).2.2.1, (qw_fin hm).2.2.1]
  have hp := UQ_pos
  rw [Int.ofNat_lt]
  exact Nat.mul_lt_mul_right hp

theorem od_qw {n m : Nat} (hn : n < 2 ^ 53) (hm : m < 2 ^ 53) : FloatKind.f64.format.order (qw n) (qw m) = some (compare (n : Int) (m : Int)) := by
  rw [od_num (qw_nan hn) (qw_nan hm)]
  have h1 := qw_lt hn hm
  have h2 := qw_lt hm hn
  congr 1
  refine cmp_of ?_ ?_ <;> omega

/-- A sum whose value a rung has. -/
theorem add_exact (x y r : Nat) (hx : mg x < infR) (hy : mg y < infR) (hr : r < infR) (h : val x + val y = (units r : Int)) (hz : r ≠ 0) : double.add x y = some r := by
  unfold Format.add
  rw [read_fin x hx, read_fin y hy]
  unfold Datum.sum
  simp only [Option.map_some]
  generalize hb : min (-1074 + (ex (mg x) : Int)) (-1074 + (ex (mg y) : Int)) = base
  have e1 : (-1074 + (ex (mg x) : Int) - base).toNat + (base + 1074).toNat = ex (mg x) := by omega
  have e2 : (-1074 + (ex (mg y) : Int) - base).toNat + (base + 1074).toNat = ex (mg y) := by omega
  have hs : (signed (ng x) (sig (mg x)) (-1074 + (ex (mg x) : Int) - base).toNat + signed (ng y) (sig (mg y)) (-1074 + (ex (mg y) : Int) - base).toNat) * (2 ^ (base + 1074).toNat : Nat) = (units r : Int) := by
    rw [Int.add_mul, signed_scale, signed_scale, e1, e2, ← val_signed, ← val_signed, h]
  generalize signed (ng x) (sig (mg x)) (-1074 + (ex (mg x) : Int) - base).toNat + signed (ng y) (sig (mg y)) (-1074 + (ex (mg y) : Int) - base).toNat = t at hs
  have hu : 0 < units r := by have := units_lt (r := 0) (s := r) (by omega); rw [units_zero] at this; exact this
  have hpos : 0 < t := by
    have hp : (0 : Int) < (2 ^ (base + 1074).toNat : Nat) := by have := Nat.two_pow_pos (base + 1074).toNat; omega
    exact Int.pos_of_mul_pos_left (by rw [hs]; omega) hp |> fun h => h
  rw [if_neg (by omega), show decide (t < 0) = false by simp; omega]
  obtain ⟨T, rfl⟩ := Int.eq_ofNat_of_zero_le (Int.le_of_lt hpos)
  congr 1
  show double.nearest false T base = r
  rw [nearest_exact false T base r 1074 hr (by omega) (by omega) (by rw [Nat.sub_self, Nat.pow_zero, Nat.mul_one]; exact Int.ofNat_inj.1 (by rw [Int.natCast_mul]; exact hs))]
  exact word_pos r

end Go.Fq
end

section
namespace Go.Fq
open Ieee

/-- Units to one. -/
def UI : Nat := 2 ^ 1074
theorem UI_eq : UI = 4 * UQ := by
  unfold UI UQ
  rw [show (1074 : Nat) = 2 + qe from rfl, Nat.pow_add]
theorem UI_pos : 0 < UI := by have := UQ_pos; have := UI_eq; omega

theorem cut_zero (neg : Bool) (n drop : Nat) : Toward.zero.cut neg n drop = n / 2 ^ drop := by
  unfold Toward.cut
  simp only [shl, Nat.one_mul, Bool.toNat_false, Nat.add_zero]
  by_cases h : drop ≤ n.log2 + 2
  · rw [Nat.min_eq_left h]
  · rw [Nat.min_eq_right (by omega)]
    have g : n < 2 ^ (n.log2 + 2) := Nat.lt_of_lt_of_le Nat.lt_log2_self (Nat.pow_le_pow_right (by omega) (by omega))
    have g2 : 2 ^ (n.log2 + 2) ≤ 2 ^ drop := Nat.pow_le_pow_right (by omega) (by omega)
    rw [Nat.div_eq_of_lt g, Nat.div_eq_of_lt (by omega)]

theorem cut_down (n drop : Nat) : Toward.down.cut false n drop = n / 2 ^ drop := by
  rw [← cut_zero false n drop]; unfold Toward.cut; rfl

/-- The whole part. -/
theorem whole (m e : Nat) : (m <<< (-1074 + (e : Int)).toNat) / 2 ^ (-(-1074 + (e : Int))).toNat = m * 2 ^ e / UI := by
  rw [shl]
  unfold UI
  by_cases h : e ≤ 1074
  · have e1 : (-1074 + (e : Int)).toNat = 0 := by omega
    have e2 : (-(-1074 + (e : Int))).toNat + e = 1074 := by omega
    generalize (-(-1074 + (e : Int))).toNat = k at *
    rw [e1, Nat.pow_zero, Nat.mul_one, ← e2, Nat.pow_add, Nat.mul_div_mul_right _ _ (Nat.two_pow_pos e)]
  · have e1 : (-1074 + (e : Int)).toNat + 1074 = e := by omega
    have e2 : (-(-1074 + (e : Int))).toNat = 0 := by omega
    generalize (-1074 + (e : Int)).toNat = k at *
    have hp := UI_pos
    unfold UI at hp
    rw [e2, Nat.pow_zero, Nat.div_one, ← e1, Nat.pow_add, ← Nat.mul_assoc, Nat.mul_div_cancel _ hp]

theorem integral_zero (x : Nat) (hx : mg x < infR) : (double.read x).integral .zero = .number (ng x) (units (mg x) / UI) 0 := by
  rw [read_fin x hx]
  show Datum.number _ (Toward.zero.cut _ _ _) 0 = _
  rw [cut_zero, whole, ← units_eq]
theorem integral_down (x : Nat) (hx : mg x < infR) (hn : ng x = false) : (double.read x).integral .down = .number false (units (mg x) / UI) 0 := by
  rw [read_fin x hx, hn]
  show Datum.number _ (Toward.down.cut _ _ _) 0 = _
  rw [cut_down, whole, ← units_eq]

/-- A whole number's word. -/
theorem nearest_whole (k : Nat) (h : 4 * k < 2 ^ 53) : double.nearest false k 0 = qw (4 * k) := by
  obtain ⟨r, h1, h2, h3⟩ := qw_rung (4 * k) h
  rw [h3]
  have := nearest_exact false k 0 r 1074 h1 (by omega) (by omega) (by
    rw [h2, Nat.sub_self, Nat.pow_zero, Nat.mul_one, show ((0 : Int) + ((1074 : Nat) : Int)).toNat = 1074 from rfl]
    have e := UI_eq
    unfold UI at e
    rw [e]
    simp only [Nat.mul_comm, Nat.mul_left_comm])
  rw [this]; exact word_pos r

theorem truncD_zero (x : Nat) (hx : mg x < infR) (hn : ng x = false) (h : 4 * (units (mg x) / UI) < 2 ^ 53) : truncD .zero x = qw (4 * (units (mg x) / UI)) := by
  unfold truncD
  rw [integral_zero x hx, hn]
  exact nearest_whole _ h
theorem truncD_down (x : Nat) (hx : mg x < infR) (hn : ng x = false) (h : 4 * (units (mg x) / UI) < 2 ^ 53) : truncD .down x = qw (4 * (units (mg x) / UI)) := by
  unfold truncD
  rw [integral_down x hx hn]
  exact nearest_whole _ h

theorem floatOfInt_nat (k : Nat) (h : 4 * k < 2 ^ 53) : floatOfInt .f64 (k : Int) = qw (4 * k) := by
  unfold floatOfInt FloatKind.nearest FloatKind.encode
  show double.nearest (decide ((k : Int) < 0)) (k : Int).natAbs 0 = _
  rw [show decide ((k : Int) < 0) = false by simp, Int.natAbs_natCast]
  exact nearest_whole k h

theorem mul4_exact (x r : Nat) (hx : mg x < infR) (hn : ng x = false) (hr : r < infR) (h : units r = 4 * units (mg x)) : mul4 x = r := by
  have hm : double.mul x FOUR = some r := by
    unfold Format.mul
    rw [read_fin x hx, read_four, hn]
    show some (double.nearest (false ^^ false) (sig (mg x) * 2 ^ 52) (-1074 + (ex (mg x) : Int) + -50)) = some r
    rw [show (false ^^ false) = false from rfl]
    rw [nearest_exact false _ _ r 1126 hr (by omega) (by omega) ?_]
    · exact congrArg some (word_pos r)
    · have e : (-1074 + (ex (mg x) : Int) + -50 + ((1126 : Nat) : Int)).toNat = ex (mg x) + 2 := by omega
      rw [e, h, units_eq, Nat.pow_add]
      simp only [Nat.mul_comm, Nat.mul_left_comm, Nat.mul_assoc, Nat.reduceSub]
  unfold mul4; rw [hm]; rfl

theorem div4_exact (x r : Nat) (hx : mg x < infR) (hn : ng x = false) (hr : r < infR) (h : units (mg x) = 4 * units r) : double.div x FOUR = some r := by
  unfold Format.div
  rw [read_fin x hx, read_four, hn]
  have hl : (sig (mg x)).log2 ≤ 52 := by
    by_cases hs : sig (mg x) = 0
    · rw [hs]; simp
    · have := log2_lt hs (sig_lt (mg x)); omega
  have h52 : (2 ^ 52).log2 = 52 := Nat.log2_two_pow
  unfold Datum.quotient
  simp only [Option.map_some, h52, show double.fractionBits = 52 from rfl, show (2 ^ 52 = 0) = False by simp, if_false]
  have hmore : ∃ k, 52 + 2 + 52 - (sig (mg x)).log2 = 52 + (k + 2) ∧ k ≤ 52 := ⟨52 - (sig (mg x)).log2, by omega, by omega⟩
  obtain ⟨k, hk, hk2⟩ := hmore
  rw [hk, shl]
  have e0 : sig (mg x) * 2 ^ (52 + (k + 2)) = (sig (mg x) * 2 ^ (k + 2)) * 2 ^ 52 := by
    rw [Nat.pow_add, Nat.mul_comm (2 ^ 52), Nat.mul_assoc]
  rw [e0, Nat.mul_div_cancel _ (Nat.two_pow_pos 52), Nat.mul_mod_left]
  show some (double.nearest (false ^^ false) (2 * (sig (mg x) * 2 ^ (k + 2)) + 0) _) = some r
  rw [show (false ^^ false) = false from rfl, Nat.add_zero]
  rw [nearest_exact false _ _ r 1200 hr (by omega) (by omega) ?_]
  · exact congrArg some (word_pos r)
  · generalize hp : (-1074 + (ex (mg x) : Int) - -50 - ((52 + (k + 2) : Nat) : Int) - 1 + ((1200 : Nat) : Int)).toNat = q
    have e : 1 + (k + 2) + q = ex (mg x) + (2 + (1200 - 1074)) - 4 := by omega
    have e2 : 2 * (sig (mg x) * 2 ^ (k + 2)) * 2 ^ q = sig (mg x) * 2 ^ (1 + (k + 2) + q) := by
      generalize k + 2 = j
      rw [Nat.mul_assoc 2, Nat.mul_assoc (sig (mg x)), ← Nat.pow_add, show 1 + j + q = (j + q) + 1 by omega, Nat.pow_succ]
      rw [Nat.mul_comm (2 ^ (j + q)) 2, Nat.mul_left_comm]
    rw [e2, e]
    rw [units_eq] at h
    rw [show ex (mg x) + (2 + (1200 - 1074)) - 4 = ex (mg x) + 124 by omega, Nat.pow_add, ← Nat.mul_assoc, h]
    rw [show (1200 - 1074 : Nat) = 2 + 124 from rfl, Nat.pow_add]
    simp only [Nat.mul_comm, Nat.mul_left_comm, Nat.mul_assoc, Nat.reducePow]

theorem units_qw {n : Nat} (h : n < 2 ^ 53) : units (mg (qw n)) = n * UQ := by
  obtain ⟨r, h1, h2, h3⟩ := qw_rung n h
  rw [h3, mg_small h1, h2]

theorem mul4_qw (n : Nat) (h : 4 * n < 2 ^ 53) : mul4 (qw n) = qw (4 * n) := by
  have hf := qw_fin (n := n) (by omega)
  have hg := qw_fin h
  refine mul4_exact _ _ hf.1 hf.2.1 hg.2.2.2 ?_
  have := units_qw h
  rw [mg_small hg.2.2.2] at this
  rw [this, units_qw (by omega), Nat.mul_assoc]

theorem div4_qw (n : Nat) (h : 4 * n < 2 ^ 53) : double.div (qw (4 * n)) FOUR = some (qw n) := by
  have hf := qw_fin (n := n) (by omega)
  have hg := qw_fin h
  refine div4_exact _ _ hg.1 hg.2.1 hf.2.2.2 ?_
  have := units_qw (n := n) (by omega)
  rw [mg_small hf.2.2.2] at this
  rw [this, units_qw h, Nat.mul_assoc]

theorem trunc_qw4 (n : Nat) (h : 4 * n < 2 ^ 53) : truncD .zero (qw (4 * n)) = qw (4 * n) := by
  have hg := qw_fin h
  have e : units (mg (qw (4 * n))) / UI = n := by
    rw [units_qw h, UI_eq, Nat.mul_comm 4 n, Nat.mul_assoc, Nat.mul_div_cancel _ (by have := UQ_pos; omega)]
  rw [truncD_zero _ hg.1 hg.2.1 (by rw [e]; exact h), e]

theorem qF_qw (n : Nat) (h : 4 * n < 2 ^ 53) : qF (qw n) = true := by
  unfold qF
  rw [mul4_qw n h, trunc_qw4 n h]
  have := od_self (qw_nan h)
  rw [show double.order (qw (4 * n)) (qw (4 * n)) = some .eq from this]; rfl

theorem add_qw (n m : Nat) (h : n + m < 2 ^ 53) (hz : n + m ≠ 0) : double.add (qw n) (qw m) = some (qw (n + m)) := by
  have hn := qw_fin (n := n) (by omega)
  have hm := qw_fin (n := m) (by omega)
  have hs := qw_fin h
  have hu := units_qw h
  rw [mg_small hs.2.2.2] at hu
  refine add_exact _ _ _ hn.1 hm.1 hs.2.2.2 ?_ ?_
  · rw [hn.2.2.1, hm.2.2.1, hu, Nat.add_mul, Int.natCast_add]
  · intro h0
    rw [h0, units_zero] at hu
    have hp := UQ_pos
    rcases Nat.mul_eq_zero.1 hu.symm with g | g <;> omega

theorem inf_eq : (9218868437227405312 : Nat) = infR := by decide +kernel
theorem add_qw_inf (n : Nat) (h : n < 2 ^ 53) : double.add (qw n) 9218868437227405312 = some 9218868437227405312 := by
  have hn := qw_fin h
  unfold Format.add
  rw [read_fin _ hn.1, read_inf 9218868437227405312 (by decide +kernel)]
  show some (double.write (.infinity (ng 9218868437227405312))) = _
  decide +kernel

end Go.Fq
end

section
namespace Go.Fq
open Ieee

theorem LMAX_qw : (4742290407621132288 : Nat) = qw 4294967296 := by decide +kernel
theorem zero_qw : (0 : Nat) = qw 0 := by decide +kernel

/-- The sum of two numbers of quarters, under the limit 2 ^ 30. -/
def sumQ (n m : Nat) : Nat := if n + m < 4294967296 then qw (n + m) else 9218868437227405312

theorem addF_qw (n m : Nat) (h : n + m < 2 ^ 53) (hz : n + m ≠ 0) : addF (qw n) (qw m) 4742290407621132288 = sumQ n m := by
  rw [addF_some _ (add_qw n m h hz), LMAX_qw, od_qw h (by omega)]
  have hz' : FloatKind.f64.format.order (qw (n + m)) 0 = some (compare ((n + m : Nat) : Int) ((0 : Nat) : Int)) := by
    rw [zero_qw]; exact od_qw h (by omega)
  rw [hz']
  unfold sumQ
  have e : (some (compare ((n + m : Nat) : Int) ((0 : Nat) : Int)) == some Ordering.eq) = false := by
    rw [beq_eq_false_iff_ne]; intro hc
    rw [Option.some.injEq, Int.compare_eq_eq] at hc
    omega
  rw [e]
  by_cases g : n + m < 4294967296
  · rw [if_pos g, if_pos]
    · rw [if_neg (by simp)]
    · rw [beq_iff_eq, Option.some.injEq, Int.compare_eq_lt]; omega
  · rw [if_neg g, if_neg]
    rw [beq_iff_eq, Option.some.injEq, Int.compare_eq_lt]; omega

theorem inf_nan : nanB 9218868437227405312 = false := by decide +kernel
theorem addF_inf (n : Nat) (h : n < 2 ^ 53) : addF (qw n) 9218868437227405312 4742290407621132288 = 9218868437227405312 := by
  rw [addF_some _ (add_qw_inf n h)]
  decide +kernel

theorem ik_qw_inf (n : Nat) (h : n < 2 ^ 53) : ik (qw n) < ik 9218868437227405312 := by
  have hf := qw_fin h
  have hi : ik 9218868437227405312 = 9218868437227405312 := by decide +kernel
  have he := inf_eq
  rw [hi]; unfold ik; rw [hf.2.1, if_neg (by simp)]; omega

theorem ik_sumQ (n m k l : Nat) (h : n + m < 2 ^ 53) (h2 : k + l < 2 ^ 53) (hl : n + m ≤ k + l) : ik (sumQ n m) ≤ ik (sumQ k l) := by
  unfold sumQ
  split
  · split
    · have := (qw_lt (n := k + l) (m := n + m) h2 h); omega
    · have := ik_qw_inf (n + m) h; omega
  · rw [if_neg (by omega)]; omega

theorem sumQ_nan (n m : Nat) (h : n + m < 2 ^ 53) : nanB (sumQ n m) = false := by
  unfold sumQ
  split
  · exact qw_nan h
  · exact inf_nan

theorem cmpF_sumQ (n m k l : Nat) (h : n + m < 2 ^ 53) (h2 : k + l < 2 ^ 53) (hl : n + m ≤ k + l) : cmpF (sumQ n m) (sumQ k l) ≤ 0 := by
  have g := ik_sumQ n m k l h h2 hl
  unfold cmpF
  rw [sumQ_nan n m h, sumQ_nan k l h2]
  simp only [Bool.false_eq_true, if_false]
  split <;> (try split) <;> omega

theorem limitF_L : limitF 4742290407621132288 = 0 := by decide +kernel
theorem distF_inf : distF 9218868437227405312 4742290407621132288 = 0 := by decide +kernel
theorem distF_qw (n : Nat) (h : n < 4294967296) : distF (qw n) 4742290407621132288 = 0 := by
  have hf := qw_fin (n := n) (by omega)
  have ho := od_qw (n := n) (m := 4294967296) (by omega) (by omega)
  rw [← LMAX_qw] at ho
  unfold distF
  rw [limitF_L, qw_nan (by omega), hf.2.1, qw_inf (by omega), ho, qF_qw n (by omega), Int.compare_eq_lt.2 (by omega : (n : Int) < (4294967296 : Nat))]
  rfl
theorem distF_sumQ (n m : Nat) : distF (sumQ n m) 4742290407621132288 = 0 := by
  unfold sumQ
  split
  · exact distF_qw _ (by assumption)
  · exact distF_inf

/-- What is added to lies below the sum. -/
theorem sumQ_above (n m : Nat) (h : n + m < 2 ^ 53) (hn : 0 < n) : (FloatKind.f64.format.order (sumQ n m) (qw m) == some .lt || FloatKind.f64.format.order (sumQ n m) (qw m) == some .eq) = false := by
  have g : FloatKind.f64.format.order (sumQ n m) (qw m) = some .gt := by
    unfold sumQ
    split
    · rw [od_qw h (by omega), Int.compare_eq_gt.2 (by omega)]
    · exact od_gt inf_nan (qw_nan (by omega)) (ik_qw_inf m (by omega))
  rw [g]; rfl

theorem qw_leq (n m : Nat) (hn : n < 2 ^ 53) (hm : m < 2 ^ 53) : (FloatKind.f64.format.order (qw n) (qw m) == some .lt || FloatKind.f64.format.order (qw n) (qw m) == some .eq) = decide (n ≤ m) := by
  rw [od_qw hn hm, Bool.eq_iff_iff, Bool.or_eq_true, beq_iff_eq, beq_iff_eq, Option.some.injEq, Option.some.injEq, Int.compare_eq_lt, Int.compare_eq_eq, decide_eq_true_eq]
  omega

/-- The sum of three, in whatever order. -/
theorem three (w x y : Nat) (hw : 0 < w) (hx : 0 < x) (h : w + (x + y) < 2 ^ 53) :
    ∃ s, addF (qw w) (sumQ x y) 4742290407621132288 = s ∧ s = sumQ w (x + y) ∧ double.add (qw w) (sumQ x y) ≠ none := by
  unfold sumQ
  by_cases g : x + y < 4294967296
  · rw [if_pos g]
    refine ⟨_, addF_qw w (x + y) h (by omega), rfl, by rw [add_qw w (x + y) h (by omega)]; simp⟩
  · rw [if_neg g, if_neg (by omega)]
    exact ⟨_, addF_inf w (by omega), rfl, by rw [add_qw_inf w (by omega)]; simp⟩
theorem sumQ_comm3 (w x y : Nat) : sumQ w (x + y) = sumQ x (w + y) := by
  unfold sumQ; rw [show w + (x + y) = x + (w + y) by omega]
theorem sumQ_lt (n m : Nat) (h : n + m < 2 ^ 53) : sumQ n m < 2 ^ 64 := by
  unfold sumQ
  split
  · have := (qw_fin h).2.2.2; unfold infR at this; omega
  · omega
end Go.Fq
end

section
namespace Go.Iq

def letB (c : Int) : Bool := decide (97 ≤ c ∧ c ≤ 122)
def digB (c : Int) : Bool := decide (48 ≤ c ∧ c ≤ 57)
def okB (c : Int) : Bool := letB c || digB c || decide (c = 45)
/-- A name that may be. -/
def nameB (l : List UInt8) : Bool := decide (1 ≤ l.length ∧ l.length ≤ 32) && l.all (fun c => okB (c.toNat : Int)) && letB ((l.getD 0 0).toNat : Int) && !decide (((l.getD (l.length - 1) 0).toNat : Int) = 45)
/-- CheckName's answer. -/
def nameE (l : List UInt8) : Int := if nameB l then 0 else 21
/-- CheckId's answer. -/
def idB (n : Int) : Bool := decide (1 ≤ n ∧ n ≤ 2147483647)
def idE (n : Int) : Int := if idB n then 0 else 20

def step1 (x : Int) : Int := IntKind.u64.wrap (bits .xor .u64 x (x / 1073741824) * 13787848793156543929)
def step2 (x : Int) : Int := IntKind.u64.wrap (bits .xor .u64 x (x / 134217728) * 10723151780598845931)
def step3 (x : Int) : Int := bits .xor .u64 x (x / 2147483648)
/-- Mix. -/
def mixI (x : Int) : Int := step3 (step2 (step1 x))
def sumStep (s : Int) (c : UInt8) : Int := IntKind.u64.wrap (bits .xor .u64 s (c.toNat : Int) * 1099511628211)
/-- Sum. -/
def sumI (l : List UInt8) : Int := l.foldl sumStep 14695981039346656037
def U64 (x : Int) : Prop := 0 ≤ x ∧ x < 18446744073709551616

theorem wrap_bd (x : Int) : U64 (IntKind.u64.wrap x) := by rw [IntKind.wrap_u64]; unfold U64; omega
theorem xor_bd (a b : Int) : U64 (bits .xor .u64 a b) := by
  show U64 (IntKind.u64.wrap _)
  exact wrap_bd _
theorem mixI_bd (x : Int) : U64 (mixI x) := xor_bd _ _
theorem sumI_bd (l : List UInt8) : U64 (sumI l) := by
  unfold sumI
  have : ∀ (l : List UInt8) (s : Int), U64 s → U64 (l.foldl sumStep s) := by
    intro l
    induction l with
    | nil => exact fun _ h => h
    | cons c r ih => exact fun s _ => ih _ (wrap_bd _)
  exact this l _ (by unfold U64; omega)
theorem sumI_snoc (l : List UInt8) (c : UInt8) : sumI (l ++ [c]) = sumStep (sumI l) c := by simp [sumI]
theorem sumStep_eq (s : Int) (c : UInt8) : sumStep s c = IntKind.u64.wrap (bits .xor .u64 s (c.toNat : Int) * 1099511628211) := rfl
theorem take_snoc (s : ByteArray) (k : Nat) (h : k < s.size) : s.data.toList.take (k + 1) = s.data.toList.take k ++ [s[k]] := by
  rw [List.take_succ_eq_append_getElem (by simpa using h)]; rfl
theorem wrap_byte (c : UInt8) : IntKind.u64.wrap (c.toNat : Int) = (c.toNat : Int) := by
  rw [IntKind.wrap_u64]; have := c.toNat_lt; omega
theorem sumI_step (s : ByteArray) (k : Nat) (h : k < s.size) : sumI (s.data.toList.take (k + 1)) = IntKind.u64.wrap (bits .xor .u64 (sumI (s.data.toList.take k)) (IntKind.u64.wrap (s[k].toNat : Int)) * 1099511628211) := by
  rw [take_snoc s k h, sumI_snoc, sumStep_eq, wrap_byte]

/-- The score of a router and a name's sum. -/
def scoreI (id sum : Int) : Int := mixI (bits .xor .u64 sum (mixI id))
theorem scoreI_bd (id sum : Int) : U64 (scoreI id sum) := mixI_bd _

theorem getD_size (s : ByteArray) (k : Nat) (h : k < s.size) : s.data.toList.getD k 0 = s[k] := by
  rw [List.getD_eq_getElem?_getD, List.getElem?_eq_getElem (by simpa using h)]; rfl
theorem all_take (s : ByteArray) (k : Nat) (h : k < s.size) : (s.data.toList.take (k + 1)).all (fun c => okB (c.toNat : Int)) = ((s.data.toList.take k).all (fun c => okB (c.toNat : Int)) && okB (s[k].toNat : Int)) := by
  rw [take_snoc s k h, List.all_append]; simp
theorem all_bad (s : ByteArray) (k : Nat) (h : k < s.size) (hb : okB (s[k].toNat : Int) = false) : nameB s.data.toList = false := by
  unfold nameB
  have : s.data.toList.all (fun c => okB (c.toNat : Int)) = false := by
    rw [List.all_eq_false]
    exact ⟨s[k], by rw [← getD_size s k h, List.getD_eq_getElem?_getD, List.getElem?_eq_getElem (by simpa using h)]; exact List.getElem_mem _, by simp [hb]⟩
  rw [this]; simp
theorem name_len (s : ByteArray) (h : s.size < 1 ∨ 32 < s.size) : nameB s.data.toList = false := by
  unfold nameB
  have : decide (1 ≤ s.data.toList.length ∧ s.data.toList.length ≤ 32) = false := by
    rw [decide_eq_false_iff_not]
    have : s.data.toList.length = s.size := by simp
    omega
  rw [this]; simp
/-- What is told of a name behind its bytes. -/
theorem name_ends (s : ByteArray) (h1 : 0 < s.size) (h2 : s.size ≤ 32) : nameB s.data.toList = (s.data.toList.all (fun c => okB (c.toNat : Int)) && letB (s[0].toNat : Int) && !decide ((s[s.size - 1].toNat : Int) = 45)) := by
  unfold nameB
  have e : s.data.toList.length = s.size := by simp
  rw [e, show decide (1 ≤ s.size ∧ s.size ≤ 32) = true by simp; omega, getD_size s 0 h1, getD_size s (s.size - 1) (by omega)]
  simp
theorem okB_let {c : Int} (h : letB c = true) : okB c = true := by unfold okB; rw [h]; rfl
theorem okB_dig {c : Int} (h : digB c = true) : okB c = true := by unfold okB; rw [h]; simp
theorem okB_dash {c : Int} (h : (c != 45) = false) : okB c = true := by unfold okB; simp at h; simp [h]
theorem okB_no {c : Int} (h1 : ¬ letB c = true) (h2 : ¬ digB c = true) (h3 : (c != 45) = true) : okB c = false := by
  unfold okB; simp at h3; simp [h1, h2, h3]
theorem ends_yes {c : Int} (h : (c == 45) = true) : decide (c = 45) = true := by simpa using h
theorem ends_no {c : Int} (h : (c == 45) = false) : decide (c = 45) = false := by simpa using h
theorem nameE_no {l : List UInt8} (h : nameB l = false) : nameE l = 21 := by unfold nameE; rw [h]; rfl
theorem nameE_yes {l : List UInt8} (h : nameB l = true) : nameE l = 0 := by unfold nameE; rw [h]; rfl
theorem idE_no {n : Int} (h : idB n = false) : idE n = 20 := by unfold idE; rw [h]; rfl
theorem idE_yes {n : Int} (h : idB n = true) : idE n = 0 := by unfold idE; rw [h]; rfl
theorem idB_iff {n : Int} : idB n = true ↔ 1 ≤ n ∧ n ≤ 2147483647 := by unfold idB; simp

/-- wantsMore, of two numbers with their scores. -/
def wantC (a x b y : Int) : Int := if y < x then -1 else if x < y then 1 else a - b
theorem wantC_gt {a x b y : Int} (h : y < x) : wantC a x b y = -1 := by unfold wantC; rw [if_pos h]
theorem wantC_lt {a x b y : Int} (h : x < y) : wantC a x b y = 1 := by unfold wantC; rw [if_neg (by omega), if_pos h]
theorem wantC_eq {a x b y : Int} (h1 : ¬ y < x) (h2 : ¬ x < y) : wantC a x b y = a - b := by unfold wantC; rw [if_neg h1, if_neg h2]
theorem wantC_neg (a x b y : Int) : wantC a x b y < 0 ↔ (y < x ∨ (x = y ∧ a < b)) := by
  unfold wantC
  split
  · omega
  · split <;> omega
/-- more: does a want a name more than b? -/
def moreB (sum a b : Int) : Bool := decide (scoreI b sum < scoreI a sum ∨ (scoreI a sum = scoreI b sum ∧ a < b))
theorem wantC_more (s a b : Int) : decide (wantC a (scoreI a s) b (scoreI b s) < 0) = moreB s a b := by
  unfold moreB
  rw [decide_eq_decide]
  exact wantC_neg _ _ _ _
end Go.Iq
end

section
namespace Go.Iq

def nodupB (zs : List Int) : Bool := decide zs.Nodup
/-- Why a list of numbers may not be. -/
def listE (zs : List Int) : Int := if zs.all idB then (if nodupB zs then 0 else 72) else 20
theorem listE_id {zs : List Int} (h : zs.all idB = false) : listE zs = 20 := by unfold listE; rw [h]; rfl
theorem listE_dup {zs : List Int} (h : zs.all idB = true) (g : nodupB zs = false) : listE zs = 72 := by unfold listE; rw [h, g]; rfl
theorem listE_ok {zs : List Int} (h : zs.all idB = true) (g : nodupB zs = true) : listE zs = 0 := by unfold listE; rw [h, g]; rfl
theorem listE_zero {zs : List Int} (h : listE zs = 0) : zs.all idB = true ∧ nodupB zs = true := by
  unfold listE at h
  cases h1 : zs.all idB <;> rw [h1] at h
  · simp at h
  · cases h2 : nodupB zs <;> rw [h2] at h
    · simp at h
    · exact ⟨rfl, rfl⟩
theorem listE_cases (zs : List Int) : listE zs = 0 ∨ listE zs = 20 ∨ listE zs = 72 := by
  unfold listE; split
  · split <;> simp
  · simp

theorem getD_get {α : Type} (l : List α) (i : Nat) (d : α) (h : i < l.length) : l.getD i d = l[i] := by
  rw [List.getD_eq_getElem?_getD, List.getElem?_eq_getElem h]; rfl
theorem take_snocL {α : Type} (l : List α) (k : Nat) (d : α) (h : k < l.length) : l.take (k + 1) = l.take k ++ [l.getD k d] := by
  rw [List.take_succ_eq_append_getElem h, getD_get l k d h]
theorem all_takeL (zs : List Int) (k : Nat) (h : k < zs.length) : (zs.take (k + 1)).all idB = ((zs.take k).all idB && idB (zs.getD k 0)) := by
  rw [take_snocL zs k 0 h, List.all_append]; simp
theorem all_badL (zs : List Int) (k : Nat) (h : k < zs.length) (hb : idB (zs.getD k 0) = false) : zs.all idB = false := by
  rw [List.all_eq_false]
  exact ⟨zs.getD k 0, by rw [getD_get zs k 0 h]; exact List.getElem_mem _, by rw [hb]; simp⟩
theorem idB_at {zs : List Int} (h : zs.all idB = true) (k : Nat) (hk : k < zs.length) : idB (zs.getD k 0) = true := by
  rw [getD_get zs k 0 hk]; exact List.all_eq_true.1 h _ (List.getElem_mem _)

/-! Sorted, then neighbours. -/
def sortI (zs : List Int) : List Int := zs.mergeSort fun x y => decide (x ≤ y)
theorem sortI_perm (zs : List Int) : (sortI zs).Perm zs := List.mergeSort_perm _ _
theorem sortI_length (zs : List Int) : (sortI zs).length = zs.length := (sortI_perm zs).length_eq
theorem sortI_pair (zs : List Int) : (sortI zs).Pairwise (fun x y => x ≤ y) := by
  have := List.pairwise_mergeSort (le := fun x y : Int => decide (x ≤ y)) (fun a b c h1 h2 => by simp only [decide_eq_true_eq] at *; omega) (fun a b => by simp; omega) zs
  exact this.imp fun h => by simpa using h
theorem nodup_perm {l m : List Int} (h : l.Perm m) : nodupB l = nodupB m := by
  unfold nodupB; exact decide_eq_decide.2 h.nodup_iff
theorem dup_adj {ss : List Int} (j : Nat) (h0 : 0 < j) (h1 : j < ss.length) (he : ss.getD j 0 = ss.getD (j - 1) 0) : nodupB ss = false := by
  unfold nodupB
  rw [decide_eq_false_iff_not]
  intro hn
  have := List.pairwise_iff_getElem.1 hn (j - 1) j (by omega) h1 (by omega)
  rw [getD_get _ _ _ h1, getD_get _ _ _ (by omega)] at he
  exact this he.symm
theorem nodup_adj {ss : List Int} (hs : ss.Pairwise (fun x y => x ≤ y)) (h : ∀ j, 0 < j → j < ss.length → ss.getD j 0 ≠ ss.getD (j - 1) 0) : nodupB ss = true := by
  unfold nodupB
  rw [decide_eq_true_eq]
  refine List.pairwise_iff_getElem.2 fun i j hi hj hij => ?_
  have h1 := h j (by omega) hj
  rw [getD_get _ _ _ hj, getD_get _ _ _ (by omega)] at h1
  have h2 : ss[j - 1] ≤ ss[j] := List.pairwise_iff_getElem.1 hs (j - 1) j (by omega) hj (by omega)
  rcases Nat.lt_or_ge i (j - 1) with g | g
  · have h3 : ss[i] ≤ ss[j - 1] := List.pairwise_iff_getElem.1 hs i (j - 1) hi (by omega) g
    omega
  · have : i = j - 1 := by omega
    subst this
    omega
/-- The document's own way: each one against those ahead of it. -/
theorem dup_at {zs : List Int} (i k : Nat) (hk : k < i) (hi : i < zs.length) (he : zs.getD k 0 = zs.getD i 0) : nodupB zs = false := by
  unfold nodupB
  rw [decide_eq_false_iff_not]
  intro hn
  have := List.pairwise_iff_getElem.1 hn k i (by omega) hi hk
  rw [getD_get _ _ _ hi, getD_get _ _ _ (by omega)] at he
  exact this he
theorem nodup_at {zs : List Int} (h : ∀ i k, k < i → i < zs.length → zs.getD k 0 ≠ zs.getD i 0) : nodupB zs = true := by
  unfold nodupB
  rw [decide_eq_true_eq]
  refine List.pairwise_iff_getElem.2 fun i j hi hj hij => ?_
  have := h j i hij hj
  rwa [getD_get _ _ _ hi, getD_get _ _ _ hj] at this

/-! Who wants a name most. -/
attribute [local irreducible] scoreI
theorem more_iff (s a b : Int) : moreB s a b = true ↔ (scoreI b s < scoreI a s ∨ (scoreI a s = scoreI b s ∧ a < b)) := by unfold moreB; simp
theorem more_irrefl (s a : Int) : moreB s a a = false := by unfold moreB; simp
theorem more_trans {s a b c : Int} (h1 : moreB s a b = true) (h2 : moreB s b c = true) : moreB s a c = true := by
  rw [more_iff] at *; omega
theorem more_asymm {s a b : Int} (h : moreB s a b = true) : moreB s b a = false := by
  cases g : moreB s b a
  · rfl
  · have := more_trans h g; rw [more_irrefl] at this; cases this
theorem more_total {s a b : Int} (h : a ≠ b) (g : moreB s a b = false) : moreB s b a = true := by
  rw [more_iff]
  have : ¬ (moreB s a b = true) := by rw [g]; simp
  rw [more_iff] at this
  omega
theorem nt_arith (x y z a b c : Int) (h1 : ¬ (y < x ∨ (x = y ∧ a < b))) (h2 : ¬ (z < y ∨ (y = z ∧ b < c))) : ¬ (z < x ∨ (x = z ∧ a < c)) := by omega
theorem more_no (s a b : Int) : moreB s a b = false ↔ ¬ (scoreI b s < scoreI a s ∨ (scoreI a s = scoreI b s ∧ a < b)) := by
  rw [← more_iff, Bool.not_eq_true]
theorem more_ntrans {s a b c : Int} (h1 : moreB s a b = false) (h2 : moreB s b c = false) : moreB s a c = false :=
  (more_no s a c).2 (nt_arith _ _ _ _ _ _ ((more_no s a b).1 h1) ((more_no s b c).1 h2))
def better (s b z : Int) : Int := if moreB s z b then z else b
def bestOf (s : Int) : List Int → Int
  | [] => 0
  | z :: r => r.foldl (better s) z
theorem bestOf_cons (s z : Int) (r : List Int) : bestOf s (z :: r) = r.foldl (better s) z := rfl
def bestTo (s : Int) (zs : List Int) (k : Nat) : Int := bestOf s (zs.take k)
theorem better_yes {s b z : Int} (h : moreB s z b = true) : better s b z = z := by unfold better; rw [if_pos h]
theorem better_no {s b z : Int} (h : moreB s z b = false) : better s b z = b := by unfold better; rw [h]; simp
theorem bestOf_snoc (s : Int) (l : List Int) (z : Int) (h : l ≠ []) : bestOf s (l ++ [z]) = better s (bestOf s l) z := by
  cases l with
  | nil => exact absurd rfl h
  | cons y r => rw [List.cons_append, bestOf_cons, bestOf_cons, List.foldl_append, List.foldl_cons, List.foldl_nil]
theorem bestTo_one (s : Int) (zs : List Int) (h : 0 < zs.length) : bestTo s zs 1 = zs.getD 0 0 := by
  cases zs with
  | nil => simp at h
  | cons y r => unfold bestTo; rw [List.take_succ_cons, List.take_zero, bestOf_cons, List.foldl_nil]; rfl
theorem bestTo_succ (s : Int) (zs : List Int) (k : Nat) (h0 : 0 < k) (h : k < zs.length) : bestTo s zs (k + 1) = better s (bestTo s zs k) (zs.getD k 0) := by
  unfold bestTo
  rw [take_snocL zs k 0 h]
  exact bestOf_snoc s _ _ (by intro e; have := congrArg List.length e; rw [List.length_take] at this; simp only [List.length_nil] at this; omega)
theorem bestTo_all (s : Int) (zs : List Int) : bestTo s zs zs.length = bestOf s zs := by unfold bestTo; rw [List.take_length]
theorem bestOf_mem (s : Int) (l : List Int) (h : l ≠ []) : bestOf s l ∈ l := by
  cases l with
  | nil => exact absurd rfl h
  | cons y r =>
    have : ∀ (r : List Int) (b : Int), r.foldl (better s) b = b ∨ r.foldl (better s) b ∈ r := by
      intro r
      induction r with
      | nil => exact fun b => .inl rfl
      | cons z q ih =>
        intro b
        rw [List.foldl_cons]
        rcases ih (better s b z) with h | h
        · rw [h]; unfold better; split
          · exact .inr (by simp)
          · exact .inl rfl
        · exact .inr (List.mem_cons_of_mem _ h)
    rcases this r y with h | h
    · rw [bestOf_cons, h]; exact List.mem_cons_self
    · rw [bestOf_cons]; exact List.mem_cons_of_mem _ h
theorem bestTo_mem (s : Int) (zs : List Int) (k : Nat) (h0 : 0 < k) (h : k ≤ zs.length) : bestTo s zs k ∈ zs :=
  List.mem_of_mem_take (bestOf_mem s (zs.take k) (by intro e; have := congrArg List.length e; rw [List.length_take] at this; simp only [List.length_nil] at this; omega))
/-- No other one wants it more. -/
theorem bestOf_most (s : Int) (l : List Int) (z : Int) (hz : z ∈ l) : moreB s z (bestOf s l) = false := by
  cases l with
  | nil => cases hz
  | cons y r =>
    have : ∀ (r : List Int) (b : Int), (∀ z, z ∈ b :: r → moreB s z (r.foldl (better s) b) = false) := by
      intro r
      induction r with
      | nil => intro b z hz; simp at hz; subst hz; exact more_irrefl s z
      | cons x q ih =>
        intro b z hz
        rw [List.foldl_cons]
        have hb := ih (better s b x) (better s b x) (by simp)
        have hbb : moreB s b (better s b x) = false := by
          cases h : moreB s x b
          · rw [better_no h]; exact more_irrefl s b
          · rw [better_yes h]; exact more_asymm h
        have hxx : moreB s x (better s b x) = false := by
          cases h : moreB s x b
          · rw [better_no h]; exact h
          · rw [better_yes h]; exact more_irrefl s x
        simp only [List.mem_cons] at hz
        rcases hz with rfl | rfl | hz
        · exact more_ntrans hbb hb
        · exact more_ntrans hxx hb
        · exact ih (better s b x) z (by simp [hz])
    rw [bestOf_cons]
    exact this r y z hz
theorem bestOf_unique (s : Int) (l : List Int) (b : Int) (hb : b ∈ l) (h : ∀ z ∈ l, moreB s z b = false) : bestOf s l = b := by
  have hl : l ≠ [] := by intro e; rw [e] at hb; cases hb
  have h1 := bestOf_mem s l hl
  have h2 := bestOf_most s l b hb
  have h3 := h _ h1
  by_cases e : bestOf s l = b
  · exact e
  · have := more_total e h3; rw [h2] at this; cases this
theorem bestOf_append (s : Int) (l m : List Int) (hl : l ≠ []) : bestOf s (l ++ m) = bestOf s l ∨ bestOf s (l ++ m) ∈ m := by
  have h1 := bestOf_mem s (l ++ m) (by simp [hl])
  rcases List.mem_append.1 h1 with h | h
  · left
    exact (bestOf_unique s l _ h (fun z hz => bestOf_most s (l ++ m) z (by simp [hz]))).symm
  · exact .inr h

/-- Draw's error. -/
def drawE (l : List UInt8) (zs : List Int) : Int := if nameB l then (if listE zs = 0 then (if zs.length = 0 then 4 else 0) else listE zs) else 21
/-- Draw's answer. -/
def drawN (l : List UInt8) (zs : List Int) : Int := if drawE l zs = 0 then bestOf (sumI l) zs else 0
theorem drawE_name {l : List UInt8} {zs : List Int} (h : nameB l = false) : drawE l zs = 21 := by unfold drawE; rw [h]; rfl
theorem drawE_list {l : List UInt8} {zs : List Int} (h : nameB l = true) (g : listE zs ≠ 0) : drawE l zs = listE zs := by unfold drawE; rw [h, if_pos rfl, if_neg g]
theorem drawE_none {l : List UInt8} {zs : List Int} (h : nameB l = true) (g : listE zs = 0) (k : zs.length = 0) : drawE l zs = 4 := by unfold drawE; rw [h, if_pos rfl, if_pos g, if_pos k]
theorem drawE_ok {l : List UInt8} {zs : List Int} (h : nameB l = true) (g : listE zs = 0) (k : zs.length ≠ 0) : drawE l zs = 0 := by unfold drawE; rw [h, if_pos rfl, if_pos g, if_neg k]
theorem drawN_no {l : List UInt8} {zs : List Int} (h : drawE l zs ≠ 0) : drawN l zs = 0 := by unfold drawN; rw [if_neg h]
theorem drawN_ok {l : List UInt8} {zs : List Int} (h : drawE l zs = 0) : drawN l zs = bestOf (sumI l) zs := by unfold drawN; rw [if_pos h]
theorem drawE_zero {l : List UInt8} {zs : List Int} (h : drawE l zs = 0) : nameB l = true ∧ zs.all idB = true ∧ nodupB zs = true ∧ zs.length ≠ 0 := by
  unfold drawE at h
  split at h
  · rename_i hn
    split at h
    · rename_i hl
      split at h
      · omega
      · rename_i hk
        obtain ⟨a, b⟩ := listE_zero hl
        exact ⟨hn, a, b, hk⟩
    · rename_i hl; exact absurd h hl
  · omega

/-! In which order all want it. -/
def Wanted (s : Int) (zs l : List Int) : Prop := l.Perm zs ∧ l.Pairwise (fun a b => moreB s a b = true)
theorem wanted_unique {s : Int} {zs zs' l m : List Int} (h1 : Wanted s zs l) (h2 : Wanted s zs' m) (hp : zs.Perm zs') : l = m :=
  List.Perm.eq_of_pairwise (le := fun a b => moreB s a b = true) (fun a b _ _ h g => by have := more_asymm h; rw [g] at this; cases this) h1.2 h2.2 ((h1.1.trans hp).trans h2.1.symm)
theorem wanted_head {s : Int} {zs l : List Int} (h : Wanted s zs l) (i : Nat) (hi : i < l.length) : bestOf s (l.drop i) = l.getD i 0 := by
  have hp : (l.drop i).Pairwise (fun a b => moreB s a b = true) := h.2.sublist (List.drop_sublist _ _)
  rw [getD_get _ _ _ hi]
  rw [List.drop_eq_getElem_cons hi] at hp
  rw [List.drop_eq_getElem_cons hi]
  refine bestOf_unique s _ _ (List.mem_cons_self) fun z hz => ?_
  simp only [List.mem_cons] at hz
  rcases hz with rfl | hz
  · exact more_irrefl _ _
  · exact more_asymm (List.rel_of_pairwise_cons hp hz)
end Go.Iq
end
