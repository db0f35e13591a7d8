/- Numbers of 64 bits that are stirred, sums of bytes, names: the plain functions. Lists of routers: which may be, who wants a name most, in which order all want it. -/
import Ieee.Arith
import GoSem.Core.Float
import Derived.RowKit
import Derived.Laws.BitsAll
import Derived.Laws.Cover2
import Derived.Laws.FloatArith
import Derived.IntWalk
import Derived.Laws.Bits64
section
namespace Go.Fq
open Ieee

/-- The magnitude of a rung, in units of the least number. -/
def units (r : Nat) : Nat := if r < 2 ^ 52 then r else (2 ^ 52 + r % 2 ^ 52) * 2 ^ (r / 2 ^ 52 - 1)

def infR : Nat := 2047 * 2 ^ 52

theorem infRung_eq : double.infRung = infR := by decide +kernel
theorem binade_eq : double.binade = 2 ^ 52 := by decide +kernel
theorem sign_eq : double.signWeight = 2 ^ 63 := by decide +kernel
theorem least_eq : double.leastPlace = -1074 := by decide +kernel

/-- Significand and exponent of a rung. -/
def sig (r : Nat) : Nat := if r < 2 ^ 52 then r else 2 ^ 52 + r % 2 ^ 52
def ex (r : Nat) : Nat := r / 2 ^ 52 - 1

theorem units_eq (r : Nat) : units r = sig r * 2 ^ ex r := by
  unfold units sig ex
  split
  · rename_i h
    have : r / 2 ^ 52 = 0 := Nat.div_eq_of_lt h
    simp [this]
  · rfl

theorem sig_lt (r : Nat) : sig r < 2 ^ 53 := by
  unfold sig; split <;> omega

theorem ex_sig (r : Nat) : ex r * 2 ^ 52 + sig r = r := by
  unfold ex sig; split <;> omega

theorem sig_ge (r : Nat) (h : 0 < ex r) : 2 ^ 52 ≤ sig r := by
  unfold ex at h; unfold sig; split <;> omega

theorem units_normal (m e : Nat) (h1 : 2 ^ 52 ≤ m) (h2 : m < 2 ^ 53) : units (e * 2 ^ 52 + m) = m * 2 ^ e := by
  have a : (e * 2 ^ 52 + m) / 2 ^ 52 = e + 1 := by omega
  have b : (e * 2 ^ 52 + m) % 2 ^ 52 = m - 2 ^ 52 := by omega
  have c : ¬ (e * 2 ^ 52 + m < 2 ^ 52) := by omega
  unfold units
  rw [if_neg c, a, b, show 2 ^ 52 + (m - 2 ^ 52) = m by omega, show e + 1 - 1 = e by omega]

theorem units_small (m : Nat) (h : m < 2 ^ 52) : units m = m := by
  unfold units; rw [if_pos h]

/-- Each m * 2 ^ e with m < 2 ^ 53 and e ≤ 2045 is the magnitude of a finite rung. -/
theorem rep (m : Nat) : ∀ (e : Nat), m < 2 ^ 53 → e ≤ 2045 → ∃ r, r < infR ∧ units r = m * 2 ^ e := by
  intro e
  induction e generalizing m with
  | zero =>
    intro hm _
    by_cases h : m < 2 ^ 52
    · exact ⟨m, by unfold infR; omega, by rw [units_small m h]; simp⟩
    · refine ⟨0 * 2 ^ 52 + m, by unfold infR; omega, units_normal m 0 (by omega) hm⟩
  | succ e ih =>
    intro hm he
    by_cases h : m < 2 ^ 52
    · obtain ⟨r, h1, h2⟩ := ih (m * 2) (by omega) (by omega)
      exact ⟨r, h1, by rw [h2, Nat.pow_succ]; simp [Nat.mul_assoc, Nat.mul_comm]⟩
    · exact ⟨(e + 1) * 2 ^ 52 + m, by unfold infR; omega, units_normal m (e + 1) (by omega) hm⟩

theorem units_mono_step (r : Nat) : units r < units (r + 1) := by
  by_cases h : r + 1 < 2 ^ 52
  · rw [units_small _ h, units_small r (by omega)]; omega
  · by_cases h0 : r < 2 ^ 52
    · have e : r + 1 = 0 * 2 ^ 52 + 2 ^ 52 := by omega
      rw [units_small r h0, e, units_normal _ 0 (by omega) (by omega)]; omega
    · have hs := sig_lt r
      have hx := ex_sig r
      have hg : 2 ^ 52 ≤ sig r := by unfold sig; rw [if_neg h0]; omega
      have hp : 0 < 2 ^ ex r := Nat.two_pow_pos _
      by_cases hc : sig r + 1 < 2 ^ 53
      · have e : r + 1 = ex r * 2 ^ 52 + (sig r + 1) := by omega
        rw [e, units_normal _ _ (by omega) hc, units_eq r]
        exact Nat.mul_lt_mul_of_pos_right (by omega) hp
      · have e : r + 1 = (ex r + 1) * 2 ^ 52 + 2 ^ 52 := by omega
        rw [e, units_normal _ _ (by omega) (by omega), units_eq r]
        have e2 : 2 ^ 52 * 2 ^ (ex r + 1) = 2 ^ 53 * 2 ^ ex r := by
          rw [Nat.pow_succ 2 (ex r), Nat.mul_comm (2 ^ ex r) 2, ← Nat.mul_assoc]
        rw [e2]
        exact Nat.mul_lt_mul_of_pos_right (by omega) hp

theorem units_mono (r k : Nat) : units r < units (r + (k + 1)) := by
  induction k with
  | zero => exact units_mono_step r
  | succ k ih => exact Nat.lt_trans ih (units_mono_step _)

theorem units_lt {r s : Nat} (h : r < s) : units r < units s := by
  have := units_mono r (s - r - 1)
  rwa [show r + (s - r - 1 + 1) = s by omega] at this

theorem units_lt_iff {r s : Nat} : units r < units s ↔ r < s := by
  constructor
  · intro h
    rcases Nat.lt_trichotomy r s with g | g | g
    · exact g
    · subst g; omega
    · have := units_lt g; omega
  · exact units_lt

theorem units_inj {r s : Nat} (h : units r = units s) : r = s := by
  rcases Nat.lt_trichotomy r s with g | g | g
  · have := units_lt g; omega
  · exact g
  · have := units_lt g; omega

theorem units_zero : units 0 = 0 := by rw [units_small 0 (by omega)]

def mg (x : Nat) : Nat := x % 2 ^ 63
def ng (x : Nat) : Bool := x / 2 ^ 63 % 2 == 1

theorem read_fin (x : Nat) (h : mg x < infR) : double.read x = .number (ng x) (sig (mg x)) (-1074 + (ex (mg x) : Int)) := by
  unfold Format.read
  simp only [sign_eq, binade_eq, infRung_eq, least_eq]
  unfold mg at h
  by_cases h1 : x % 2 ^ 63 < 2 ^ 52
  · rw [if_pos h1]
    have e : ex (x % 2 ^ 63) = 0 := by unfold ex; omega
    have s : sig (x % 2 ^ 63) = x % 2 ^ 63 := by unfold sig; rw [if_pos h1]
    unfold mg ng
    rw [e, s]; rfl
  · rw [if_neg h1, if_pos h]
    have s : sig (x % 2 ^ 63) = 2 ^ 52 + x % 2 ^ 63 % 2 ^ 52 := by unfold sig; rw [if_neg h1]
    unfold mg ng
    rw [s]; rfl

theorem read_inf (x : Nat) (h : mg x = infR) : double.read x = .infinity (ng x) := by
  unfold Format.read
  simp only [sign_eq, binade_eq, infRung_eq, least_eq]
  unfold mg at h
  rw [h, if_neg (by unfold infR; omega), if_neg (by omega), if_pos rfl]; rfl

theorem read_nan (x : Nat) (h : infR < mg x) : double.read x = .nan (ng x) (mg x - infR) := by
  unfold Format.read
  simp only [sign_eq, binade_eq, infRung_eq, least_eq]
  unfold mg at h
  rw [if_neg (by unfold infR at h; omega), if_neg (by omega), if_neg (by omega)]; rfl

/-- The word as a number on the line of floats. -/
def ik (x : Nat) : Int := if ng x then -(mg x : Int) else (mg x : Int)

def nanB (x : Nat) : Bool := decide (infR < mg x)

theorem shl (a b : Nat) : a <<< b = a * 2 ^ b := Nat.shiftLeft_eq a b

/-- The value of a finite word in units. -/
def val (x : Nat) : Int := if ng x then -(units (mg x) : Int) else (units (mg x) : Int)

theorem signed_val (neg : Bool) (m u : Nat) : signed neg m u = if neg then -((m * 2 ^ u : Nat) : Int) else ((m * 2 ^ u : Nat) : Int) := by
  unfold signed; rw [shl]

theorem signed_scale (neg : Bool) (m u k : Nat) : signed neg m u * (2 ^ k : Nat) = signed neg m (u + k) := by
  rw [signed_val, signed_val, Nat.pow_add]
  cases neg
  · simp only [Bool.false_eq_true, if_false]; rw [← Int.natCast_mul, Nat.mul_assoc]
  · simp only [if_true]; rw [Int.neg_mul, ← Int.natCast_mul, Nat.mul_assoc]

theorem val_signed (x : Nat) : val x = signed (ng x) (sig (mg x)) (ex (mg x)) := by
  rw [signed_val]; unfold val; rw [units_eq]

theorem cmp_of {a b c d : Int} (h1 : a < b ↔ c < d) (h2 : a = b ↔ c = d) : compare a b = compare c d := by
  show compareOfLessAndEq a b = compareOfLessAndEq c d
  unfold compareOfLessAndEq
  simp only [h1, h2]

theorem cmp_scale (a b : Int) (k : Nat) : compare a b = compare (a * (2 ^ k : Nat)) (b * (2 ^ k : Nat)) := by
  have hp : (0 : Int) < (2 ^ k : Nat) := by have := Nat.two_pow_pos k; omega
  refine cmp_of ?_ ?_
  · exact (Int.mul_lt_mul_right hp).symm
  · constructor
    · intro h; rw [h]
    · intro h; exact Int.eq_of_mul_eq_mul_right (by omega) h

theorem ik_lt_val (x y : Nat) : val x < val y ↔ ik x < ik y := by
  have h := @units_lt_iff (mg x) (mg y)
  have g := @units_lt_iff (mg y) (mg x)
  have a := @units_lt_iff 0 (mg x)
  have b := @units_lt_iff 0 (mg y)
  rw [units_zero] at a b
  unfold val ik
  cases ng x <;> cases ng y <;> simp only [Bool.false_eq_true, if_false, if_true] <;> omega

theorem ik_eq_val (x y : Nat) : val x = val y ↔ ik x = ik y := by
  have h := ik_lt_val x y
  have g := ik_lt_val y x
  omega

theorem order_fin (x y : Nat) (hx : mg x < infR) (hy : mg y < infR) : double.order x y = some (compare (ik x) (ik y)) := by
  unfold Format.order
  rw [read_fin x hx, read_fin y hy]
  unfold Datum.order
  simp only
  have e1 : ((-1074 + (ex (mg x) : Int)) - min (-1074 + (ex (mg x) : Int)) (-1074 + (ex (mg y) : Int))).toNat + min (ex (mg x)) (ex (mg y)) = ex (mg x) := by omega
  have e2 : ((-1074 + (ex (mg y) : Int)) - min (-1074 + (ex (mg x) : Int)) (-1074 + (ex (mg y) : Int))).toNat + min (ex (mg x)) (ex (mg y)) = ex (mg y) := by omega
  rw [cmp_scale _ _ (min (ex (mg x)) (ex (mg y))), signed_scale, signed_scale, e1, e2, ← val_signed, ← val_signed]
  rw [cmp_of (ik_lt_val x y) (ik_eq_val x y)]

theorem infR_pos : (0 : Nat) < infR := by unfold infR; omega

theorem mg_fin_of (x : Nat) (h : nanB x = false) (h2 : mg x ≠ infR) : mg x < infR := by
  unfold nanB at h
  have := of_decide_eq_false h
  omega

theorem order_eq (x y : Nat) : double.order x y = if nanB x || nanB y then none else some (compare (ik x) (ik y)) := by
  by_cases nx : nanB x = true
  · have hx : infR < mg x := of_decide_eq_true nx
    unfold Format.order
    rw [read_nan x hx, nx]
    cases double.read y <;> rfl
  by_cases ny : nanB y = true
  · have hy : infR < mg y := of_decide_eq_true ny
    unfold Format.order
    rw [read_nan y hy, ny]
    simp only [Bool.or_true, if_true]
    cases double.read x <;> rfl
  have nx' : nanB x = false := by simpa using nx
  have ny' : nanB y = false := by simpa using ny
  rw [nx', ny']
  simp only [Bool.or_self, Bool.false_eq_true, if_false]
  by_cases ix : mg x = infR
  · by_cases iy : mg y = infR
    · unfold Format.order
      rw [read_inf x ix, read_inf y iy]
      unfold Datum.order
      simp only
      unfold ik
      rw [ix, iy]
      cases ng x <;> cases ng y <;> decide +kernel
    · have hy := mg_fin_of y ny' iy
      unfold Format.order
      rw [read_inf x ix, read_fin y hy]
      unfold Datum.order
      simp only
      unfold ik
      rw [ix]
      have hp := infR_pos
      cases ng x
      · simp only [Bool.false_eq_true, if_false]
        congr 1; symm; rw [show Ordering.gt = Ordering.gt from rfl]
        exact Int.compare_eq_gt.2 (by split <;> omega)
      · simp only [if_true]
        congr 1; symm
        exact Int.compare_eq_lt.2 (by split <;> omega)
  · have hx := mg_fin_of x nx' ix
    by_cases iy : mg y = infR
    · unfold Format.order
      rw [read_inf y iy, read_fin x hx]
      unfold Datum.order
      simp only
      unfold ik
      rw [iy]
      have hp := infR_pos
      cases ng y
      · simp only [Bool.false_eq_true, if_false]
        congr 1; symm
        exact Int.compare_eq_lt.2 (by split <;> omega)
      · simp only [if_true]
        congr 1; symm
        exact Int.compare_eq_gt.2 (by split <;> omega)
    · exact order_fin x y hx (mg_fin_of y ny' iy)

end Go.Fq
end

section
namespace Go.Fq
open Ieee

theorem mg_word (neg : Bool) (r : Nat) (h : r < 2 ^ 63) : mg (double.word neg r) = r := by
  unfold mg Format.word; rw [sign_eq]; cases neg <;> simp <;> omega

theorem ng_word (neg : Bool) (r : Nat) (h : r < 2 ^ 63) : ng (double.word neg r) = neg := by
  unfold ng Format.word; rw [sign_eq]
  cases neg
  · have : r / 2 ^ 63 = 0 := Nat.div_eq_of_lt h
    simp [this]
  · have : (2 ^ 63 + r) / 2 ^ 63 = 1 := by omega
    simp only [if_true, this]; rfl

theorem nearest_mg_le (neg : Bool) (m : Nat) (p : Int) : mg (double.nearest neg m p) ≤ infR ∧ ng (double.nearest neg m p) = neg := by
  unfold Format.nearest
  dsimp only
  split
  · exact ⟨by rw [mg_word _ _ (by omega)]; omega, ng_word _ _ (by omega)⟩
  · have h := Nat.min_le_right ((max (p + (m.log2 : Int) - (double.fractionBits : Int)) double.leastPlace - double.leastPlace).toNat * double.binade + Toward.even.cut neg (m <<< (p - max (p + (m.log2 : Int) - (double.fractionBits : Int)) double.leastPlace).toNat) (max (p + (m.log2 : Int) - (double.fractionBits : Int)) double.leastPlace - p).toNat) double.infRung
    rw [infRung_eq] at h
    rw [infRung_eq]
    have hi : infR < 2 ^ 63 := by unfold infR; omega
    exact ⟨by rw [mg_word _ _ (by omega)]; exact h, ng_word _ _ (by omega)⟩

theorem nan_of_le {x : Nat} (h : mg x ≤ infR) : nanB x = false := by
  unfold nanB; simp only [decide_eq_false_iff_not]; omega

theorem nan_write_number (neg : Bool) (m : Nat) (p : Int) : nanB (double.write (.number neg m p)) = false :=
  nan_of_le (nearest_mg_le neg m p).1

theorem write_inf (neg : Bool) : mg (double.write (.infinity neg)) = infR ∧ ng (double.write (.infinity neg)) = neg := by
  unfold Format.write
  have hi : infR < 2 ^ 63 := by unfold infR; omega
  rw [infRung_eq]
  exact ⟨mg_word _ _ hi, ng_word _ _ hi⟩

theorem nan_write_inf (neg : Bool) : nanB (double.write (.infinity neg)) = false :=
  nan_of_le (by rw [(write_inf neg).1]; exact Nat.le_refl _)

/-- Four. -/
def FOUR : Nat := 4616189618054758400
theorem read_four : double.read FOUR = .number false (2 ^ 52) (-50) := by decide +kernel

/-- Four times a float that is no NaN. -/
def mul4 (f : Nat) : Nat := (double.mul f FOUR).getD 0
def truncD (way : Toward) (x : Nat) : Nat := double.write ((double.read x).integral way)

theorem read_cases (x : Nat) (h : nanB x = false) : (mg x < infR ∧ double.read x = .number (ng x) (sig (mg x)) (-1074 + (ex (mg x) : Int))) ∨ (mg x = infR ∧ double.read x = .infinity (ng x)) := by
  by_cases hi : mg x = infR
  · exact .inr ⟨hi, read_inf x hi⟩
  · have := mg_fin_of x h hi
    exact .inl ⟨this, read_fin x this⟩

theorem mul4_some (f : Nat) (h : nanB f = false) : double.mul f FOUR = some (mul4 f) ∧ nanB (mul4 f) = false := by
  have key : ∃ r, double.mul f FOUR = some r ∧ nanB r = false := by
    rcases read_cases f h with ⟨_, e⟩ | ⟨_, e⟩
    · refine ⟨_, by unfold Format.mul; rw [e, read_four]; rfl, nan_write_number _ _ _⟩
    · refine ⟨_, by unfold Format.mul; rw [e, read_four]; rfl, nan_write_inf _⟩
  obtain ⟨r, h1, h2⟩ := key
  have e : mul4 f = r := by unfold mul4; rw [h1]; rfl
  rw [e]; exact ⟨h1, h2⟩

theorem not_isNaN_read (x : Nat) (h : nanB x = false) : ∀ s t, double.read x ≠ .nan s t := by
  intro s t
  rcases read_cases x h with ⟨_, e⟩ | ⟨_, e⟩ <;> rw [e] <;> simp

/-- Is it a multiple of a quarter? As the program asks it. -/
def qF (f : Nat) : Bool := double.order (truncD .zero (mul4 f)) (mul4 f) == some .eq

/-- The NaNs that an operation may make are NaNs. -/
theorem nan_made (t : Nat) : nanB ((t % 2) * 2 ^ 63 + 0x7ff0000000000000 + 1 + (t / 2) % (2 ^ 52 - 1)) = true := by
  have h1 : t % 2 < 2 := Nat.mod_lt _ (by omega)
  have h2 : (t / 2) % (2 ^ 52 - 1) < 2 ^ 52 - 1 := Nat.mod_lt _ (by omega)
  generalize t % 2 = a at *
  generalize (t / 2) % (2 ^ 52 - 1) = b at *
  unfold nanB mg infR
  simp only [decide_eq_true_eq]
  omega

end Go.Fq
end

section
namespace Go.Fq
open Ieee

theorem od_eq (a b : Nat) : FloatKind.f64.format.order a b = if nanB a || nanB b then none else some (compare (ik a) (ik b)) := order_eq a b
theorem od_nan_l {a : Nat} (b : Nat) (h : nanB a = true) : FloatKind.f64.format.order a b = none := by rw [od_eq, h]; rfl
theorem od_num {a b : Nat} (ha : nanB a = false) (hb : nanB b = false) : FloatKind.f64.format.order a b = some (compare (ik a) (ik b)) := by rw [od_eq, ha, hb]; rfl
theorem od_lt {a b : Nat} (ha : nanB a = false) (hb : nanB b = false) (h : ik a < ik b) : FloatKind.f64.format.order a b = some .lt := by
  rw [od_num ha hb, Int.compare_eq_lt.2 h]
theorem od_same {a b : Nat} (ha : nanB a = false) (hb : nanB b = false) (h : ik a = ik b) : FloatKind.f64.format.order a b = some .eq := by
  rw [od_num ha hb, Int.compare_eq_eq.2 h]
theorem od_self {a : Nat} (ha : nanB a = false) : FloatKind.f64.format.order a a = some .eq := od_same ha ha rfl

theorem ng_iff (a : Nat) (h : a < 2 ^ 64) : ng a = decide (2 ^ 63 ≤ a) := by
  unfold ng
  by_cases g : 2 ^ 63 ≤ a
  · have : a / 2 ^ 63 = 1 := by omega
    rw [this]; simp [g]
  · have : a / 2 ^ 63 = 0 := by omega
    rw [this]; simp [g]

theorem ng_wrap (a : Nat) (h : a < 2 ^ 64) : decide (RowKit.wrap64 (a : Int) < 0) = ng a := by
  rw [ng_iff a h]; unfold RowKit.wrap64
  rw [decide_eq_decide]
  omega

theorem ng_div (a : Nat) (h : a < 2 ^ 64) : ((a : Int) / 9223372036854775808 == 1) = ng a := by
  rw [ng_iff a h, Bool.eq_iff_iff, beq_iff_eq, decide_eq_true_eq]
  omega
theorem abs_bits (a : Nat) (h : a < 2 ^ 64) : (bits .andNot .u64 (a : Int) 9223372036854775808).toNat = mg a := by
  rw [show (9223372036854775808 : Int) = ((9223372036854775808 : Nat) : Int) from rfl, u64_andNot_nat a _ (by omega) (by omega)]
  rw [show (18446744073709551615 - 9223372036854775808 : Nat) = 9223372036854775807 from rfl, nat_mask63]
  rfl

theorem mg_mg (a : Nat) : mg (mg a) = mg a := by unfold mg; omega
theorem ng_mg (a : Nat) : ng (mg a) = false := by unfold mg ng; have : a % 2 ^ 63 / 2 ^ 63 = 0 := by omega
                                                  rw [this]; rfl
theorem nanB_mg (a : Nat) : nanB (mg a) = nanB a := by unfold nanB; rw [mg_mg]
theorem ik_mg (a : Nat) : ik (mg a) = (mg a : Int) := by unfold ik; rw [ng_mg, mg_mg]; simp

def MAXF : Nat := 9218868437227405311
def NMAXF : Nat := 18442240474082181119
def infB (a : Nat) : Bool := decide (mg a = infR)

theorem inf_of_gt (a : Nat) : (FloatKind.f64.format.order (mg a) MAXF == some .gt) = infB a := by
  unfold infB
  by_cases h : nanB a = true
  · rw [od_nan_l _ (by rw [nanB_mg]; exact h)]
    unfold nanB at h
    have := of_decide_eq_true h
    have : ¬ mg a = infR := by omega
    simp [this]
  · have h : nanB a = false := by simpa using h
    have hm : nanB MAXF = false := by decide +kernel
    have im : ik MAXF = 9218868437227405311 := by decide +kernel
    have hl := h
    unfold nanB at hl
    have hl := of_decide_eq_false hl
    have hi : infR = 9218868437227405312 := by decide +kernel
    rw [od_num (by rw [nanB_mg]; exact h) hm, ik_mg, im, Bool.eq_iff_iff, beq_iff_eq, decide_eq_true_eq, Option.some.injEq, Int.compare_eq_gt]
    omega

/-- What the order with the greatest float tells, signs and all. -/
theorem order_max (a : Nat) : FloatKind.f64.format.order a MAXF = if nanB a then none else some (compare (ik a) 9218868437227405311) := by
  rw [od_eq, show nanB MAXF = false by decide +kernel, show ik MAXF = 9218868437227405311 by decide +kernel, Bool.or_false]
theorem order_nmax (a : Nat) : FloatKind.f64.format.order a NMAXF = if nanB a then none else some (compare (ik a) (-9218868437227405311)) := by
  rw [od_eq, show nanB NMAXF = false by decide +kernel, show ik NMAXF = -9218868437227405311 by decide +kernel, Bool.or_false]

theorem inf_two (a : Nat) : (FloatKind.f64.format.order a MAXF == some .gt || FloatKind.f64.format.order a NMAXF == some .lt) = infB a := by
  unfold infB
  rw [order_max, order_nmax]
  have hi : infR = 9218868437227405312 := by decide +kernel
  by_cases h : nanB a = true
  · rw [h]
    unfold nanB at h
    have := of_decide_eq_true h
    have : ¬ mg a = infR := by omega
    simp [this]
  · have h : nanB a = false := by simpa using h
    have hl := h
    unfold nanB at hl
    have hl := of_decide_eq_false hl
    rw [h, Bool.eq_iff_iff]
    simp only [Bool.false_eq_true, if_false, Bool.or_eq_true, beq_iff_eq, Option.some.injEq, Int.compare_eq_gt, Int.compare_eq_lt, decide_eq_true_eq]
    unfold ik
    split <;> omega

end Go.Fq
end

section
namespace Go.Fq
open Ieee

/-- What 'within' answers: the errors by number. -/
def withinF (f most : Nat) : Int :=
  if nanB f then 10 else if infB f then 11 else if ng f then 12
  else if FloatKind.f64.format.order f 4607182418800017408 == some .lt then 13
  else if FloatKind.f64.format.order f most == some .gt then 14
  else if !qF f then 15 else 0
def weightF (f : Nat) : Int := withinF f 4697254411347427328
def limitF (f : Nat) : Int := withinF f 4742290407621132288
theorem inf_one (a : Nat) (h : ng a = false) : (FloatKind.f64.format.order a 9218868437227405311 == some .gt) = infB a := by
  have h2 := inf_two a
  rw [show (9218868437227405311 : Nat) = MAXF from rfl, ← h2]
  have : (FloatKind.f64.format.order a NMAXF == some .lt) = false := by
    rw [order_nmax]
    split
    · rfl
    · have : ¬ ik a < -9218868437227405311 := by unfold ik; rw [h]; simp only [Bool.false_eq_true, if_false]; omega
      rw [beq_eq_false_iff_ne]
      intro hc
      rw [Option.some.injEq, Int.compare_eq_lt] at hc
      exact this hc
  rw [this, Bool.or_false]

theorem sum_not_nan (a b d : Datum) (h : a.sum b = some d) : d.isNaN = false := by
  cases a <;> cases b <;> simp only [Datum.sum] at h <;> try (cases h; done)
  all_goals first | (cases h; rfl) | (split at h <;> first | (cases h; done) | (cases h; rfl))

theorem nanB_write {d : Datum} (h : d.isNaN = false) : nanB (double.write d) = false := by
  cases d with
  | number s m p => exact nan_write_number s m p
  | infinity s => exact nan_write_inf s
  | nan s t => cases h

theorem add_not_nan {x y r : Nat} (h : double.add x y = some r) : nanB r = false := by
  unfold Format.add at h
  cases hs : (double.read x).sum (double.read y) with
  | none => rw [hs] at h; cases h
  | some d => rw [hs] at h; cases h; exact nanB_write (sum_not_nan _ _ _ hs)

def INF : Nat := 9218868437227405312
def addF (x y max : Nat) : Nat :=
  match double.add x y with
  | none => 9221120237041090560
  | some s => if FloatKind.f64.format.order s max == some .lt then (if FloatKind.f64.format.order s 0 == some .eq then 0 else s) else 9218868437227405312
theorem addF_none {x y : Nat} (max : Nat) (h : double.add x y = none) : addF x y max = 9221120237041090560 := by unfold addF; rw [h]
theorem addF_some {x y s : Nat} (max : Nat) (h : double.add x y = some s) : addF x y max = if FloatKind.f64.format.order s max == some .lt then (if FloatKind.f64.format.order s 0 == some .eq then 0 else s) else 9218868437227405312 := by unfold addF; rw [h]

theorem cmp_lt (a b : Nat) : (FloatKind.f64.format.order a b == some .lt) = (!nanB a && !nanB b && decide (ik a < ik b)) := by
  rw [od_eq]
  cases nanB a <;> cases nanB b <;> simp
  rw [Bool.eq_iff_iff, beq_iff_eq, decide_eq_true_eq, Int.compare_eq_lt]
theorem cmp_gt (a b : Nat) : (FloatKind.f64.format.order a b == some .gt) = (!nanB a && !nanB b && decide (ik b < ik a)) := by
  rw [od_eq]
  cases nanB a <;> cases nanB b <;> simp
  rw [Bool.eq_iff_iff, beq_iff_eq, decide_eq_true_eq, Int.compare_eq_gt]

/-- The place of a float on one line, the NaNs behind all. -/
def place (a : Nat) : Int := if nanB a then 9223372036854775808 else ik a
end Go.Fq
end

section
namespace Go.Fq
open Ieee

theorem log2_iff {n k : Nat} (h : n ≠ 0) : n.log2 = k ↔ 2 ^ k ≤ n ∧ n < 2 ^ (k + 1) := Nat.log2_eq_iff h

theorem log2_shift (a k : Nat) (h : a ≠ 0) : (a * 2 ^ k).log2 = a.log2 + k := by
  have hp := Nat.two_pow_pos k
  obtain ⟨h1, h2⟩ := (log2_iff (k := a.log2) h).1 rfl
  refine (log2_iff (Nat.mul_ne_zero h (by omega))).2 ⟨?_, ?_⟩
  · rw [Nat.pow_add]; exact Nat.mul_le_mul_right _ h1
  · rw [show a.log2 + k + 1 = (a.log2 + 1) + k by omega, Nat.pow_add]
    exact Nat.mul_lt_mul_of_pos_right h2 hp

theorem log2_lt {n k : Nat} (h : n ≠ 0) (g : n < 2 ^ k) : n.log2 < k := (Nat.log2_lt h).2 g

/-- A cut that drops nothing but noughts. -/
theorem cut_exact (neg : Bool) (m k : Nat) : Toward.even.cut neg (m * 2 ^ k) k = m := by
  unfold Toward.cut
  by_cases hm : m = 0
  · subst hm; simp
  have hl := log2_shift m k hm
  have hg : min k ((m * 2 ^ k).log2 + 2) = k := by omega
  have hp := Nat.two_pow_pos k
  simp only [hg, shl, Nat.one_mul, Nat.mul_div_cancel _ hp, Nat.mul_mod_left]
  have e1 : decide (2 ^ k < 2 * 0) = false := by simp
  have e2 : (2 ^ k == 2 * 0) = false := by rw [beq_eq_false_iff_ne]; omega
  rw [e1, e2]; simp

theorem cut_none (neg : Bool) (m : Nat) : Toward.even.cut neg m 0 = m := by
  have := cut_exact neg m 0
  simpa using this

theorem nearest_exact (neg : Bool) (mag : Nat) (pl : Int) (r K : Nat) (hr : r < infR) (hK : 0 ≤ pl + K) (hK2 : 1074 ≤ K) (h : mag * 2 ^ (pl + K).toNat = units r * 2 ^ (K - 1074)) :
    double.nearest neg mag pl = double.word neg r := by
  have p1 := Nat.two_pow_pos (pl + K).toNat
  have p2 := Nat.two_pow_pos (K - 1074)
  unfold Format.nearest
  by_cases hm : mag = 0
  · rw [if_pos hm]
    subst hm
    have : units r = 0 := by
      rw [Nat.zero_mul] at h
      rcases Nat.mul_eq_zero.1 h.symm with g | g
      · exact g
      · omega
    have : r = 0 := units_inj (by rw [this, units_zero])
    rw [this]
  · rw [if_neg hm]
    rw [units_eq, Nat.mul_assoc, ← Nat.pow_add] at h
    have hs : sig r ≠ 0 := by
      intro hs; rw [hs, Nat.zero_mul] at h
      rcases Nat.mul_eq_zero.1 h with g | g
      · exact hm g
      · omega
    have hl : mag.log2 + (pl + K).toNat = (sig r).log2 + (ex r + (K - 1074)) := by
      rw [← log2_shift _ _ hm, ← log2_shift _ _ hs, h]
    have hlt := log2_lt hs (sig_lt r)
    have hge : 0 < ex r → 52 ≤ (sig r).log2 := by
      intro g
      have := sig_ge r g
      exact (Nat.le_log2 hs).2 this
    have fb : double.fractionBits = 52 := rfl
    have hlast : max (pl + (mag.log2 : Int) - (double.fractionBits : Int)) double.leastPlace = (ex r : Int) - 1074 := by
      rw [least_eq, fb]
      by_cases g : 0 < ex r
      · have := hge g; omega
      · omega
    dsimp only
    rw [hlast, least_eq, binade_eq, infRung_eq]
    have hkept : Toward.even.cut neg (mag <<< (pl - ((ex r : Int) - 1074)).toNat) ((ex r : Int) - 1074 - pl).toNat = sig r := by
      rw [shl]
      by_cases g : pl ≤ (ex r : Int) - 1074
      · have e0 : (pl - ((ex r : Int) - 1074)).toNat = 0 := by omega
        rw [e0, Nat.pow_zero, Nat.mul_one]
        have e1 : ex r + (K - 1074) = ((ex r : Int) - 1074 - pl).toNat + (pl + K).toNat := by omega
        rw [e1, Nat.pow_add, ← Nat.mul_assoc] at h
        rw [Nat.eq_of_mul_eq_mul_right p1 h]
        exact cut_exact _ _ _
      · have e0 : ((ex r : Int) - 1074 - pl).toNat = 0 := by omega
        rw [e0]
        have e1 : (pl + K).toNat = (pl - ((ex r : Int) - 1074)).toNat + (ex r + (K - 1074)) := by omega
        rw [e1, Nat.pow_add, ← Nat.mul_assoc] at h
        rw [Nat.eq_of_mul_eq_mul_right (Nat.two_pow_pos _) h]
        exact cut_none _ _
    rw [hkept]
    have e : ((ex r : Int) - 1074 - -1074).toNat = ex r := by omega
    rw [e, ex_sig, Nat.min_eq_left (Nat.le_of_lt hr)]

/-- Units to a quarter. -/
def qe : Nat := 1072
def UQ : Nat := 2 ^ qe
theorem UQ_pos : 0 < UQ := Nat.two_pow_pos _

/-- The word of n quarters. -/
def qw (n : Nat) : Nat := double.nearest false n (-2)

/-- The magnitude of n quarters is a rung's. -/
theorem qw_rung (n : Nat) (h : n < 2 ^ 53) : ∃ r, r < infR ∧ units r = n * UQ ∧ qw n = r := by
  obtain ⟨r, h1, h2⟩ := rep n qe h (by unfold qe; omega)
  change units r = n * UQ at h2
  refine ⟨r, h1, h2, ?_⟩
  unfold qw
  rw [nearest_exact false n (-2) r 1074 h1 (by omega) (by omega) (by rw [h2, Nat.sub_self, Nat.pow_zero, Nat.mul_one, show ((-2 : Int) + ((1074 : Nat) : Int)).toNat = qe from rfl]; rfl)]
  unfold Format.word; rw [if_neg (by simp)]

theorem word_pos (r : Nat) : double.word false r = r := by unfold Format.word; simp
theorem mg_small {r : Nat} (h : r < infR) : mg r = r := by unfold mg; unfold infR at h; omega
theorem ng_small {r : Nat} (h : r < infR) : ng r = false := by
  unfold ng; unfold infR at h
  have : r / 2 ^ 63 = 0 := Nat.div_eq_of_lt (by omega)
  rw [this]; rfl

theorem qw_fin {n : Nat} (h : n < 2 ^ 53) : mg (qw n) < infR ∧ ng (qw n) = false ∧ val (qw n) = (n * UQ : Nat) ∧ qw n < infR := by
  obtain ⟨r, h1, h2, h3⟩ := qw_rung n h
  rw [h3]
  refine ⟨by rw [mg_small h1]; exact h1, ng_small h1, ?_, h1⟩
  unfold val; rw [ng_small h1, mg_small h1, h2]; rfl

theorem qw_nan {n : Nat} (h : n < 2 ^ 53) : nanB (qw n) = false := nan_of_le (Nat.le_of_lt (qw_fin h).1)
theorem qw_inf {n : Nat} (h : n < 2 ^ 53) : infB (qw n) = false := by
  have := (qw_fin h).1; unfold infB; simp only [decide_eq_false_iff_not]; omega

theorem qw_lt {n m : Nat} (hn : n < 2 ^ 53) (hm : m < 2 ^ 53) : ik (qw n) < ik (qw m) ↔ n < m := by
  rw [← ik_lt_val, (qw_fin hn).2.2.1, (qw_fin hm).2.2.1]
  have hp := UQ_pos
  rw [Int.ofNat_lt]
  exact Nat.mul_lt_mul_right hp

theorem od_qw {n m : Nat} (hn : n < 2 ^ 53) (hm : m < 2 ^ 53) : FloatKind.f64.format.order (qw n) (qw m) = some (compare (n : Int) (m : Int)) := by
  rw [od_num (qw_nan hn) (qw_nan hm)]
  have h1 := qw_lt hn hm
  have h2 := qw_lt hm hn
  congr 1
  refine cmp_of ?_ ?_ <;> omega

/-- A sum whose value a rung has. -/
theorem add_exact (x y r : Nat) (hx : mg x < infR) (hy : mg y < infR) (hr : r < infR) (h : val x + val y = (units r : Int)) (hz : r ≠ 0) : double.add x y = some r := by
  unfold Format.add
  rw [read_fin x hx, read_fin y hy]
  unfold Datum.sum
  simp only [Option.map_some]
  generalize hb : min (-1074 + (ex (mg x) : Int)) (-1074 + (ex (mg y) : Int)) = base
  have e1 : (-1074 + (ex (mg x) : Int) - base).toNat + (base + 1074).toNat = ex (mg x) := by omega
  have e2 : (-1074 + (ex (mg y) : Int) - base).toNat + (base + 1074).toNat = ex (mg y) := by omega
  have hs : (signed (ng x) (sig (mg x)) (-1074 + (ex (mg x) : Int) - base).toNat + signed (ng y) (sig (mg y)) (-1074 + (ex (mg y) : Int) - base).toNat) * (2 ^ (base + 1074).toNat : Nat) = (units r : Int) := by
    rw [Int.add_mul, signed_scale, signed_scale, e1, e2, ← val_signed, ← val_signed, h]
  generalize signed (ng x) (sig (mg x)) (-1074 + (ex (mg x) : Int) - base).toNat + signed (ng y) (sig (mg y)) (-1074 + (ex (mg y) : Int) - base).toNat = t at hs
  have hu : 0 < units r := by have := units_lt (r := 0) (s := r) (by omega); rw [units_zero] at this; exact this
  have hpos : 0 < t := by
    have hp : (0 : Int) < (2 ^ (base + 1074).toNat : Nat) := by have := Nat.two_pow_pos (base + 1074).toNat; omega
    exact Int.pos_of_mul_pos_left (by rw [hs]; omega) hp |> fun h => h
  rw [if_neg (by omega), show decide (t < 0) = false by simp; omega]
  obtain ⟨T, rfl⟩ := Int.eq_ofNat_of_zero_le (Int.le_of_lt hpos)
  congr 1
  show double.nearest false T base = r
  rw [nearest_exact false T base r 1074 hr (by omega) (by omega) (by rw [Nat.sub_self, Nat.pow_zero, Nat.mul_one]; exact Int.ofNat_inj.1 (by rw [Int.natCast_mul]; exact hs))]
  exact word_pos r

end Go.Fq
end

section
namespace Go.Fq
open Ieee

/-- Units to one. -/
def UI : Nat := 2 ^ 1074
theorem UI_eq : UI = 4 * UQ := by
  unfold UI UQ
  rw [show (1074 : Nat) = 2 + qe from rfl, Nat.pow_add]
theorem UI_pos : 0 < UI := by have := UQ_pos; have := UI_eq; omega

theorem cut_zero (neg : Bool) (n drop : Nat) : Toward.zero.cut neg n drop = n / 2 ^ drop := by
  unfold Toward.cut
  simp only [shl, Nat.one_mul, Bool.toNat_false, Nat.add_zero]
  by_cases h : drop ≤ n.log2 + 2
  · rw [Nat.min_eq_left h]
  · rw [Nat.min_eq_right (by omega)]
    have g : n < 2 ^ (n.log2 + 2) := Nat.lt_of_lt_of_le Nat.lt_log2_self (Nat.pow_le_pow_right (by omega) (by omega))
    have g2 : 2 ^ (n.log2 + 2) ≤ 2 ^ drop := Nat.pow_le_pow_right (by omega) (by omega)
    rw [Nat.div_eq_of_lt g, Nat.div_eq_of_lt (by omega)]

/-- The whole part. -/
theorem whole (m e : Nat) : (m <<< (-1074 + (e : Int)).toNat) / 2 ^ (-(-1074 + (e : Int))).toNat = m * 2 ^ e / UI := by
  rw [shl]
  unfold UI
  by_cases h : e ≤ 1074
  · have e1 : (-1074 + (e : Int)).toNat = 0 := by omega
    have e2 : (-(-1074 + (e : Int))).toNat + e = 1074 := by omega
    generalize (-(-1074 + (e : Int))).toNat = k at *
    rw [e1, Nat.pow_zero, Nat.mul_one, ← e2, Nat.pow_add, Nat.mul_div_mul_right _ _ (Nat.two_pow_pos e)]
  · have e1 : (-1074 + (e : Int)).toNat + 1074 = e := by omega
    have e2 : (-(-1074 + (e : Int))).toNat = 0 := by omega
    generalize (-1074 + (e : Int)).toNat = k at *
    have hp := UI_pos
    unfold UI at hp
    rw [e2, Nat.pow_zero, Nat.div_one, ← e1, Nat.pow_add, ← Nat.mul_assoc, Nat.mul_div_cancel _ hp]

theorem integral_zero (x : Nat) (hx : mg x < infR) : (double.read x).integral .zero = .number (ng x) (units (mg x) / UI) 0 := by
  rw [read_fin x hx]
  show Datum.number _ (Toward.zero.cut _ _ _) 0 = _
  rw [cut_zero, whole, ← units_eq]
/-- A whole number's word. -/
theorem nearest_whole (k : Nat) (h : 4 * k < 2 ^ 53) : double.nearest false k 0 = qw (4 * k) := by
  obtain ⟨r, h1, h2, h3⟩ := qw_rung (4 * k) h
  rw [h3]
  have := nearest_exact false k 0 r 1074 h1 (by omega) (by omega) (by
    rw [h2, Nat.sub_self, Nat.pow_zero, Nat.mul_one, show ((0 : Int) + ((1074 : Nat) : Int)).toNat = 1074 from rfl]
    have e := UI_eq
    unfold UI at e
    rw [e]
    simp only [Nat.mul_comm, Nat.mul_left_comm])
  rw [this]; exact word_pos r

theorem truncD_zero (x : Nat) (hx : mg x < infR) (hn : ng x = false) (h : 4 * (units (mg x) / UI) < 2 ^ 53) : truncD .zero x = qw (4 * (units (mg x) / UI)) := by
  unfold truncD
  rw [integral_zero x hx, hn]
  exact nearest_whole _ h
theorem mul4_exact (x r : Nat) (hx : mg x < infR) (hn : ng x = false) (hr : r < infR) (h : units r = 4 * units (mg x)) : mul4 x = r := by
  have hm : double.mul x FOUR = some r := by
    unfold Format.mul
    rw [read_fin x hx, read_four, hn]
    show some (double.nearest (false ^^ false) (sig (mg x) * 2 ^ 52) (-1074 + (ex (mg x) : Int) + -50)) = some r
    rw [show (false ^^ false) = false from rfl]
    rw [nearest_exact false _ _ r 1126 hr (by omega) (by omega) ?_]
    · exact congrArg some (word_pos r)
    · have e : (-1074 + (ex (mg x) : Int) + -50 + ((1126 : Nat) : Int)).toNat = ex (mg x) + 2 := by omega
      rw [e, h, units_eq, Nat.pow_add]
      simp only [Nat.mul_comm, Nat.mul_left_comm, Nat.mul_assoc, Nat.reduceSub]
  unfold mul4; rw [hm]; rfl

theorem units_qw {n : Nat} (h : n < 2 ^ 53) : units (mg (qw n)) = n * UQ := by
  obtain ⟨r, h1, h2, h3⟩ := qw_rung n h
  rw [h3, mg_small h1, h2]

theorem add_qw (n m : Nat) (h : n + m < 2 ^ 53) (hz : n + m ≠ 0) : double.add (qw n) (qw m) = some (qw (n + m)) := by
  have hn := qw_fin (n := n) (by omega)
  have hm := qw_fin (n := m) (by omega)
  have hs := qw_fin h
  have hu := units_qw h
  rw [mg_small hs.2.2.2] at hu
  refine add_exact _ _ _ hn.1 hm.1 hs.2.2.2 ?_ ?_
  · rw [hn.2.2.1, hm.2.2.1, hu, Nat.add_mul, Int.natCast_add]
  · intro h0
    rw [h0, units_zero] at hu
    have hp := UQ_pos
    rcases Nat.mul_eq_zero.1 hu.symm with g | g <;> omega

theorem inf_eq : (9218868437227405312 : Nat) = infR := by decide +kernel
theorem add_qw_inf (n : Nat) (h : n < 2 ^ 53) : double.add (qw n) 9218868437227405312 = some 9218868437227405312 := by
  have hn := qw_fin h
  unfold Format.add
  rw [read_fin _ hn.1, read_inf 9218868437227405312 (by decide +kernel)]
  show some (double.write (.infinity (ng 9218868437227405312))) = _
  decide +kernel

end Go.Fq
end

section
namespace Go.Fq
open Ieee

theorem LMAX_qw : (4742290407621132288 : Nat) = qw 4294967296 := by decide +kernel
theorem zero_qw : (0 : Nat) = qw 0 := by decide +kernel

theorem inf_nan : nanB 9218868437227405312 = false := by decide +kernel
theorem ik_qw_inf (n : Nat) (h : n < 2 ^ 53) : ik (qw n) < ik 9218868437227405312 := by
  have hf := qw_fin h
  have hi : ik 9218868437227405312 = 9218868437227405312 := by decide +kernel
  have he := inf_eq
  rw [hi]; unfold ik; rw [hf.2.1, if_neg (by simp)]; omega

end Go.Fq
end

section
namespace Go.Iq

/-- CheckId's answer. -/
def idB (n : Int) : Bool := decide (1 ≤ n ∧ n ≤ 2147483647)
def idE (n : Int) : Int := if idB n then 0 else 20

def step1 (x : Int) : Int := IntKind.u64.wrap (bits .xor .u64 x (x / 1073741824) * 13787848793156543929)
def step2 (x : Int) : Int := IntKind.u64.wrap (bits .xor .u64 x (x / 134217728) * 10723151780598845931)
def step3 (x : Int) : Int := bits .xor .u64 x (x / 2147483648)
/-- Mix. -/
def mixI (x : Int) : Int := step3 (step2 (step1 x))
/-- The score of a router and a name's sum. -/
def scoreI (id sum : Int) : Int := mixI (bits .xor .u64 sum (mixI id))
theorem idB_iff {n : Int} : idB n = true ↔ 1 ≤ n ∧ n ≤ 2147483647 := by unfold idB; simp

end Go.Iq
end

section
namespace Go.Iq

/-! Sorted, then neighbours. -/
/-! Who wants a name most. -/
attribute [local irreducible] scoreI
/-! In which order all want it. -/
end Go.Iq
end
