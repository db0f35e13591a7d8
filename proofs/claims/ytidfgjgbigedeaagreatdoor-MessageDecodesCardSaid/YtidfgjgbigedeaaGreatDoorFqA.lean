/- Numbers of 64 bits that are stirred, sums of bytes, names: the plain functions. Lists of routers: which may be, who wants a name most, in which order all want it. -/
import Ieee.Arith
import GoSem.Core.Float
import Derived.RowKit
import Derived.Laws.BitsAll
import Derived.Laws.Cover2
import Derived.Laws.FloatArith
import Derived.IntWalk
import Derived.Laws.Bits64
section
namespace Go.Fq
open Ieee

/-- The magnitude of a rung, in units of the least number. -/
def units (r : Nat) : Nat := if r < 2 ^ 52 then r else (2 ^ 52 + r % 2 ^ 52) * 2 ^ (r / 2 ^ 52 - 1)

def infR : Nat := 2047 * 2 ^ 52

theorem infRung_eq : double.infRung = infR := by decide +kernel
theorem binade_eq : double.binade = 2 ^ 52 := by decide +kernel
theorem sign_eq : double.signWeight = 2 ^ 63 := by decide +kernel
theorem least_eq : double.leastPlace = -1074 := by decide +kernel

/-- Significand and exponent of a rung. -/
def sig (r : Nat) : Nat := if r < 2 ^ 52 then r else 2 ^ 52 + r % 2 ^ 52
def ex (r : Nat) : Nat := r / 2 ^ 52 - 1

theorem units_eq (r : Nat) : units r = sig r * 2 ^ ex r := by
  unfold units sig ex
  split
  · rename_i h
    have : r / 2 ^ 52 = 0 := Nat.div_eq_of_lt h
    simp [this]
  · rfl

theorem sig_lt (r : Nat) : sig r < 2 ^ 53 := by
  unfold sig; split <;> omega

theorem ex_sig (r : Nat) : ex r * 2 ^ 52 + sig r = r := by
  unfold ex sig; split <;> omega

theorem units_normal (m e : Nat) (h1 : 2 ^ 52 ≤ m) (h2 : m < 2 ^ 53) : units (e * 2 ^ 52 + m) = m * 2 ^ e := by
  have a : (e * 2 ^ 52 + m) / 2 ^ 52 = e + 1 := by omega
  have b : (e * 2 ^ 52 + m) % 2 ^ 52 = m - 2 ^ 52 := by omega
  have c : ¬ (e * 2 ^ 52 + m < 2 ^ 52) := by omega
  unfold units
  rw [if_neg c, a, b, show 2 ^ 52 + (m - 2 ^ 52) = m by omega, show e + 1 - 1 = e by omega]

theorem units_small (m : Nat) (h : m < 2 ^ 52) : units m = m := by
  unfold units; rw [if_pos h]

theorem units_mono_step (r : Nat) : units r < units (r + 1) := by
  by_cases h : r + 1 < 2 ^ 52
  · rw [units_small _ h, units_small r (by omega)]; omega
  · by_cases h0 : r < 2 ^ 52
    · have e : r + 1 = 0 * 2 ^ 52 + 2 ^ 52 := by omega
      rw [units_small r h0, e, units_normal _ 0 (by omega) (by omega)]; omega
    · have hs := sig_lt r
      have hx := ex_sig r
      have hg : 2 ^ 52 ≤ sig r := by unfold sig; rw [if_neg h0]; omega
      have hp : 0 < 2 ^ ex r := Nat.two_pow_pos _
      by_cases hc : sig r + 1 < 2 ^ 53
      · have e : r + 1 = ex r * 2 ^ 52 + (sig r + 1) := by omega
        rw [e, units_normal _ _ (by omega) hc, units_eq r]
        exact Nat.mul_lt_mul_of_pos_right (by omega) hp
      · have e : r + 1 = (ex r + 1) * 2 ^ 52 + 2 ^ 52 := by omega
        rw [e, units_normal _ _ (by omega) (by omega), units_eq r]
        have e2 : 2 ^ 52 * 2 ^ (ex r + 1) = 2 ^ 53 * 2 ^ ex r := by
          rw [Nat.pow_succ 2 (ex r), Nat.mul_comm (2 ^ ex r) 2, ← Nat.mul_assoc]
        rw [e2]
        exact Nat.mul_lt_mul_of_pos_right (by omega) hp

theorem units_mono (r k : Nat) : units r < units (r + (k + 1)) := by
  induction k with
  | zero => exact units_mono_step r
  | succ k ih => exact Nat.lt_trans ih (units_mono_step _)

theorem units_lt {r s : Nat} (h : r < s) : units r < units s := by
  have := units_mono r (s - r - 1)
  rwa [show r + (s - r - 1 + 1) = s by omega] at this

theorem units_lt_iff {r s : Nat} : units r < units s ↔ r < s := by
  constructor
  · intro h
    rcases Nat.lt_trichotomy r s with g | g | g
    · exact g
    · subst g; omega
    · have := units_lt g; omega
  · exact units_lt

theorem units_zero : units 0 = 0 := by rw [units_small 0 (by omega)]

def mg (x : Nat) : Nat := x % 2 ^ 63
def ng (x : Nat) : Bool := x / 2 ^ 63 % 2 == 1

theorem read_fin (x : Nat) (h : mg x < infR) : double.read x = .number (ng x) (sig (mg x)) (-1074 + (ex (mg x) : Int)) := by
  unfold Format.read
  simp only [sign_eq, binade_eq, infRung_eq, least_eq]
  unfold mg at h
  by_cases h1 : x % 2 ^ 63 < 2 ^ 52
  · rw [if_pos h1]
    have e : ex (x % 2 ^ 63) = 0 := by unfold ex; omega
    have s : sig (x % 2 ^ 63) = x % 2 ^ 63 := by unfold sig; rw [if_pos h1]
    unfold mg ng
    rw [e, s]; rfl
  · rw [if_neg h1, if_pos h]
    have s : sig (x % 2 ^ 63) = 2 ^ 52 + x % 2 ^ 63 % 2 ^ 52 := by unfold sig; rw [if_neg h1]
    unfold mg ng
    rw [s]; rfl

theorem read_inf (x : Nat) (h : mg x = infR) : double.read x = .infinity (ng x) := by
  unfold Format.read
  simp only [sign_eq, binade_eq, infRung_eq, least_eq]
  unfold mg at h
  rw [h, if_neg (by unfold infR; omega), if_neg (by omega), if_pos rfl]; rfl

theorem read_nan (x : Nat) (h : infR < mg x) : double.read x = .nan (ng x) (mg x - infR) := by
  unfold Format.read
  simp only [sign_eq, binade_eq, infRung_eq, least_eq]
  unfold mg at h
  rw [if_neg (by unfold infR at h; omega), if_neg (by omega), if_neg (by omega)]; rfl

/-- The word as a number on the line of floats. -/
def ik (x : Nat) : Int := if ng x then -(mg x : Int) else (mg x : Int)

def nanB (x : Nat) : Bool := decide (infR < mg x)

theorem shl (a b : Nat) : a <<< b = a * 2 ^ b := Nat.shiftLeft_eq a b

/-- The value of a finite word in units. -/
def val (x : Nat) : Int := if ng x then -(units (mg x) : Int) else (units (mg x) : Int)

theorem signed_val (neg : Bool) (m u : Nat) : signed neg m u = if neg then -((m * 2 ^ u : Nat) : Int) else ((m * 2 ^ u : Nat) : Int) := by
  unfold signed; rw [shl]

theorem signed_scale (neg : Bool) (m u k : Nat) : signed neg m u * (2 ^ k : Nat) = signed neg m (u + k) := by
  rw [signed_val, signed_val, Nat.pow_add]
  cases neg
  · simp only [Bool.false_eq_true, if_false]; rw [← Int.natCast_mul, Nat.mul_assoc]
  · simp only [if_true]; rw [Int.neg_mul, ← Int.natCast_mul, Nat.mul_assoc]

theorem val_signed (x : Nat) : val x = signed (ng x) (sig (mg x)) (ex (mg x)) := by
  rw [signed_val]; unfold val; rw [units_eq]

theorem cmp_of {a b c d : Int} (h1 : a < b ↔ c < d) (h2 : a = b ↔ c = d) : compare a b = compare c d := by
  show compareOfLessAndEq a b = compareOfLessAndEq c d
  unfold compareOfLessAndEq
  simp only [h1, h2]

theorem cmp_scale (a b : Int) (k : Nat) : compare a b = compare (a * (2 ^ k : Nat)) (b * (2 ^ k : Nat)) := by
  have hp : (0 : Int) < (2 ^ k : Nat) := by have := Nat.two_pow_pos k; omega
  refine cmp_of ?_ ?_
  · exact (Int.mul_lt_mul_right hp).symm
  · constructor
    · intro h; rw [h]
    · intro h; exact Int.eq_of_mul_eq_mul_right (by omega) h

theorem ik_lt_val (x y : Nat) : val x < val y ↔ ik x < ik y := by
  have h := @units_lt_iff (mg x) (mg y)
  have g := @units_lt_iff (mg y) (mg x)
  have a := @units_lt_iff 0 (mg x)
  have b := @units_lt_iff 0 (mg y)
  rw [units_zero] at a b
  unfold val ik
  cases ng x <;> cases ng y <;> simp only [Bool.false_eq_true, if_false, if_true] <;> omega

theorem ik_eq_val (x y : Nat) : val x = val y ↔ ik x = ik y := by
  have h := ik_lt_val x y
  have g := ik_lt_val y x
  omega

theorem order_fin (x y : Nat) (hx : mg x < infR) (hy : mg y < infR) : double.order x y = some (compare (ik x) (ik y)) := by
  unfold Format.order
  rw [read_fin x hx, read_fin y hy]
  unfold Datum.order
  simp only
  have e1 : ((-1074 + (ex (mg x) : Int)) - min (-1074 + (ex (mg x) : Int)) (-1074 + (ex (mg y) : Int))).toNat + min (ex (mg x)) (ex (mg y)) = ex (mg x) := by omega
  have e2 : ((-1074 + (ex (mg y) : Int)) - min (-1074 + (ex (mg x) : Int)) (-1074 + (ex (mg y) : Int))).toNat + min (ex (mg x)) (ex (mg y)) = ex (mg y) := by omega
  rw [cmp_scale _ _ (min (ex (mg x)) (ex (mg y))), signed_scale, signed_scale, e1, e2, ← val_signed, ← val_signed]
  rw [cmp_of (ik_lt_val x y) (ik_eq_val x y)]

theorem infR_pos : (0 : Nat) < infR := by unfold infR; omega

theorem mg_fin_of (x : Nat) (h : nanB x = false) (h2 : mg x ≠ infR) : mg x < infR := by
  unfold nanB at h
  have := of_decide_eq_false h
  omega

theorem order_eq (x y : Nat) : double.order x y = if nanB x || nanB y then none else some (compare (ik x) (ik y)) := by
  by_cases nx : nanB x = true
  · have hx : infR < mg x := of_decide_eq_true nx
    unfold Format.order
    rw [read_nan x hx, nx]
    cases double.read y <;> rfl
  by_cases ny : nanB y = true
  · have hy : infR < mg y := of_decide_eq_true ny
    unfold Format.order
    rw [read_nan y hy, ny]
    simp only [Bool.or_true, if_true]
    cases double.read x <;> rfl
  have nx' : nanB x = false := by simpa using nx
  have ny' : nanB y = false := by simpa using ny
  rw [nx', ny']
  simp only [Bool.or_self, Bool.false_eq_true, if_false]
  by_cases ix : mg x = infR
  · by_cases iy : mg y = infR
    · unfold Format.order
      rw [read_inf x ix, read_inf y iy]
      unfold Datum.order
      simp only
      unfold ik
      rw [ix, iy]
      cases ng x <;> cases ng y <;> decide +kernel
    · have hy := mg_fin_of y ny' iy
      unfold Format.order
      rw [read_inf x ix, read_fin y hy]
      unfold Datum.order
      simp only
      unfold ik
      rw [ix]
      have hp := infR_pos
      cases ng x
      · simp only [Bool.false_eq_true, if_false]
        congr 1; symm; rw [show Ordering.gt = Ordering.gt from rfl]
        exact Int.compare_eq_gt.2 (by split <;> omega)
      · simp only [if_true]
        congr 1; symm
        exact Int.compare_eq_lt.2 (by split <;> omega)
  · have hx := mg_fin_of x nx' ix
    by_cases iy : mg y = infR
    · unfold Format.order
      rw [read_inf y iy, read_fin x hx]
      unfold Datum.order
      simp only
      unfold ik
      rw [iy]
      have hp := infR_pos
      cases ng y
      · simp only [Bool.false_eq_true, if_false]
        congr 1; symm
        exact Int.compare_eq_lt.2 (by split <;> omega)
      · simp only [if_true]
        congr 1; symm
        exact Int.compare_eq_gt.2 (by split <;> omega)
    · exact order_fin x y hx (mg_fin_of y ny' iy)

end Go.Fq
end

section
namespace Go.Fq
open Ieee

theorem mg_word (neg : Bool) (r : Nat) (h : r < 2 ^ 63) : mg (double.word neg r) = r := by
  unfold mg Format.word; rw [sign_eq]; cases neg <;> simp <;> omega

theorem ng_word (neg : Bool) (r : Nat) (h : r < 2 ^ 63) : ng (double.word neg r) = neg := by
  unfold ng Format.word; rw [sign_eq]
  cases neg
  · have : r / 2 ^ 63 = 0 := Nat.div_eq_of_lt h
    simp [this]
  · have : (2 ^ 63 + r) / 2 ^ 63 = 1 := by omega
    simp only [if_true, this]; rfl

theorem nearest_mg_le (neg : Bool) (m : Nat) (p : Int) : mg (double.nearest neg m p) ≤ infR ∧ ng (double.nearest neg m p) = neg := by
  unfold Format.nearest
  dsimp only
  split
  · exact ⟨by rw [mg_word _ _ (by omega)]; omega, ng_word _ _ (by omega)⟩
  · have h := Nat.min_le_right ((max (p + (m.log2 : Int) - (double.fractionBits : Int)) double.leastPlace - double.leastPlace).toNat * double.binade + Toward.even.cut neg (m <<< (p - max (p + (m.log2 : Int) - (double.fractionBits : Int)) double.leastPlace).toNat) (max (p + (m.log2 : Int) - (double.fractionBits : Int)) double.leastPlace - p).toNat) double.infRung
    rw [infRung_eq] at h
    rw [infRung_eq]
    have hi : infR < 2 ^ 63 := by unfold infR; omega
    exact ⟨by rw [mg_word _ _ (by omega)]; exact h, ng_word _ _ (by omega)⟩

theorem nan_of_le {x : Nat} (h : mg x ≤ infR) : nanB x = false := by
  unfold nanB; simp only [decide_eq_false_iff_not]; omega

theorem nan_write_number (neg : Bool) (m : Nat) (p : Int) : nanB (double.write (.number neg m p)) = false :=
  nan_of_le (nearest_mg_le neg m p).1

theorem write_inf (neg : Bool) : mg (double.write (.infinity neg)) = infR ∧ ng (double.write (.infinity neg)) = neg := by
  unfold Format.write
  have hi : infR < 2 ^ 63 := by unfold infR; omega
  rw [infRung_eq]
  exact ⟨mg_word _ _ hi, ng_word _ _ hi⟩

theorem nan_write_inf (neg : Bool) : nanB (double.write (.infinity neg)) = false :=
  nan_of_le (by rw [(write_inf neg).1]; exact Nat.le_refl _)

/-- Four. -/
def FOUR : Nat := 4616189618054758400
theorem read_four : double.read FOUR = .number false (2 ^ 52) (-50) := by decide +kernel

/-- Four times a float that is no NaN. -/
def mul4 (f : Nat) : Nat := (double.mul f FOUR).getD 0
def truncD (way : Toward) (x : Nat) : Nat := double.write ((double.read x).integral way)

theorem read_cases (x : Nat) (h : nanB x = false) : (mg x < infR ∧ double.read x = .number (ng x) (sig (mg x)) (-1074 + (ex (mg x) : Int))) ∨ (mg x = infR ∧ double.read x = .infinity (ng x)) := by
  by_cases hi : mg x = infR
  · exact .inr ⟨hi, read_inf x hi⟩
  · have := mg_fin_of x h hi
    exact .inl ⟨this, read_fin x this⟩

theorem mul4_some (f : Nat) (h : nanB f = false) : double.mul f FOUR = some (mul4 f) ∧ nanB (mul4 f) = false := by
  have key : ∃ r, double.mul f FOUR = some r ∧ nanB r = false := by
    rcases read_cases f h with ⟨_, e⟩ | ⟨_, e⟩
    · refine ⟨_, by unfold Format.mul; rw [e, read_four]; rfl, nan_write_number _ _ _⟩
    · refine ⟨_, by unfold Format.mul; rw [e, read_four]; rfl, nan_write_inf _⟩
  obtain ⟨r, h1, h2⟩ := key
  have e : mul4 f = r := by unfold mul4; rw [h1]; rfl
  rw [e]; exact ⟨h1, h2⟩

theorem not_isNaN_read (x : Nat) (h : nanB x = false) : ∀ s t, double.read x ≠ .nan s t := by
  intro s t
  rcases read_cases x h with ⟨_, e⟩ | ⟨_, e⟩ <;> rw [e] <;> simp

/-- Is it a multiple of a quarter? As the program asks it. -/
def qF (f : Nat) : Bool := double.order (truncD .zero (mul4 f)) (mul4 f) == some .eq

end Go.Fq
end

section
namespace Go.Fq
open Ieee

theorem od_eq (a b : Nat) : FloatKind.f64.format.order a b = if nanB a || nanB b then none else some (compare (ik a) (ik b)) := order_eq a b
theorem od_nan_l {a : Nat} (b : Nat) (h : nanB a = true) : FloatKind.f64.format.order a b = none := by rw [od_eq, h]; rfl
theorem od_num {a b : Nat} (ha : nanB a = false) (hb : nanB b = false) : FloatKind.f64.format.order a b = some (compare (ik a) (ik b)) := by rw [od_eq, ha, hb]; rfl
theorem od_same {a b : Nat} (ha : nanB a = false) (hb : nanB b = false) (h : ik a = ik b) : FloatKind.f64.format.order a b = some .eq := by
  rw [od_num ha hb, Int.compare_eq_eq.2 h]
theorem od_self {a : Nat} (ha : nanB a = false) : FloatKind.f64.format.order a a = some .eq := od_same ha ha rfl

theorem ng_iff (a : Nat) (h : a < 2 ^ 64) : ng a = decide (2 ^ 63 ≤ a) := by
  unfold ng
  by_cases g : 2 ^ 63 ≤ a
  · have : a / 2 ^ 63 = 1 := by omega
    rw [this]; simp [g]
  · have : a / 2 ^ 63 = 0 := by omega
    rw [this]; simp [g]

theorem ng_wrap (a : Nat) (h : a < 2 ^ 64) : decide (RowKit.wrap64 (a : Int) < 0) = ng a := by
  rw [ng_iff a h]; unfold RowKit.wrap64
  rw [decide_eq_decide]
  omega

theorem abs_bits (a : Nat) (h : a < 2 ^ 64) : (bits .andNot .u64 (a : Int) 9223372036854775808).toNat = mg a := by
  rw [show (9223372036854775808 : Int) = ((9223372036854775808 : Nat) : Int) from rfl, u64_andNot_nat a _ (by omega) (by omega)]
  rw [show (18446744073709551615 - 9223372036854775808 : Nat) = 9223372036854775807 from rfl, nat_mask63]
  rfl

theorem mg_mg (a : Nat) : mg (mg a) = mg a := by unfold mg; omega
theorem ng_mg (a : Nat) : ng (mg a) = false := by unfold mg ng; have : a % 2 ^ 63 / 2 ^ 63 = 0 := by omega
                                                  rw [this]; rfl
theorem nanB_mg (a : Nat) : nanB (mg a) = nanB a := by unfold nanB; rw [mg_mg]
theorem ik_mg (a : Nat) : ik (mg a) = (mg a : Int) := by unfold ik; rw [ng_mg, mg_mg]; simp

def MAXF : Nat := 9218868437227405311
def NMAXF : Nat := 18442240474082181119
def infB (a : Nat) : Bool := decide (mg a = infR)

theorem inf_of_gt (a : Nat) : (FloatKind.f64.format.order (mg a) MAXF == some .gt) = infB a := by
  unfold infB
  by_cases h : nanB a = true
  · rw [od_nan_l _ (by rw [nanB_mg]; exact h)]
    unfold nanB at h
    have := of_decide_eq_true h
    have : ¬ mg a = infR := by omega
    simp [this]
  · have h : nanB a = false := by simpa using h
    have hm : nanB MAXF = false := by decide +kernel
    have im : ik MAXF = 9218868437227405311 := by decide +kernel
    have hl := h
    unfold nanB at hl
    have hl := of_decide_eq_false hl
    have hi : infR = 9218868437227405312 := by decide +kernel
    rw [od_num (by rw [nanB_mg]; exact h) hm, ik_mg, im, Bool.eq_iff_iff, beq_iff_eq, decide_eq_true_eq, Option.some.injEq, Int.compare_eq_gt]
    omega

/-- What the order with the greatest float tells, signs and all. -/
theorem order_max (a : Nat) : FloatKind.f64.format.order a MAXF = if nanB a then none else some (compare (ik a) 9218868437227405311) := by
  rw [od_eq, show nanB MAXF = false by decide +kernel, show ik MAXF = 9218868437227405311 by decide +kernel, Bool.or_false]
theorem order_nmax (a : Nat) : FloatKind.f64.format.order a NMAXF = if nanB a then none else some (compare (ik a) (-9218868437227405311)) := by
  rw [od_eq, show nanB NMAXF = false by decide +kernel, show ik NMAXF = -9218868437227405311 by decide +kernel, Bool.or_false]

theorem inf_two (a : Nat) : (FloatKind.f64.format.order a MAXF == some .gt || FloatKind.f64.format.order a NMAXF == some .lt) = infB a := by
  unfold infB
  rw [order_max, order_nmax]
  have hi : infR = 9218868437227405312 := by decide +kernel
  by_cases h : nanB a = true
  · rw [h]
    unfold nanB at h
    have := of_decide_eq_true h
    have : ¬ mg a = infR := by omega
    simp [this]
  · have h : nanB a = false := by simpa using h
    have hl := h
    unfold nanB at hl
    have hl := of_decide_eq_false hl
    rw [h, Bool.eq_iff_iff]
    simp only [Bool.false_eq_true, if_false, Bool.or_eq_true, beq_iff_eq, Option.some.injEq, Int.compare_eq_gt, Int.compare_eq_lt, decide_eq_true_eq]
    unfold ik
    split <;> omega

end Go.Fq
end

section
namespace Go.Fq
open Ieee

/-- What 'within' answers: the errors by number. -/
def withinF (f most : Nat) : Int :=
  if nanB f then 10 else if infB f then 11 else if ng f then 12
  else if FloatKind.f64.format.order f 4607182418800017408 == some .lt then 13
  else if FloatKind.f64.format.order f most == some .gt then 14
  else if !qF f then 15 else 0
def limitF (f : Nat) : Int := withinF f 4742290407621132288
def distF (d max : Nat) : Int :=
  if limitF max != 0 then limitF max else if nanB d then 10 else if ng d then 12 else if infB d then 0
  else if FloatKind.f64.format.order d max == some .gt || FloatKind.f64.format.order d max == some .eq then 16
  else if !qF d then 15 else 0
theorem inf_one (a : Nat) (h : ng a = false) : (FloatKind.f64.format.order a 9218868437227405311 == some .gt) = infB a := by
  have h2 := inf_two a
  rw [show (9218868437227405311 : Nat) = MAXF from rfl, ← h2]
  have : (FloatKind.f64.format.order a NMAXF == some .lt) = false := by
    rw [order_nmax]
    split
    · rfl
    · have : ¬ ik a < -9218868437227405311 := by unfold ik; rw [h]; simp only [Bool.false_eq_true, if_false]; omega
      rw [beq_eq_false_iff_ne]
      intro hc
      rw [Option.some.injEq, Int.compare_eq_lt] at hc
      exact this hc
  rw [this, Bool.or_false]

theorem cmp_gt (a b : Nat) : (FloatKind.f64.format.order a b == some .gt) = (!nanB a && !nanB b && decide (ik b < ik a)) := by
  rw [od_eq]
  cases nanB a <;> cases nanB b <;> simp
  rw [Bool.eq_iff_iff, beq_iff_eq, decide_eq_true_eq, Int.compare_eq_gt]

/-- The place of a float on one line, the NaNs behind all. -/
def place (a : Nat) : Int := if nanB a then 9223372036854775808 else ik a
end Go.Fq
end

section
namespace Go.Fq
open Ieee

/-- Units to a quarter. -/
def qe : Nat := 1072
def UQ : Nat := 2 ^ qe
theorem UQ_pos : 0 < UQ := Nat.two_pow_pos _

end Go.Fq
end

section
namespace Go.Fq
open Ieee

/-- Units to one. -/
def UI : Nat := 2 ^ 1074
theorem UI_eq : UI = 4 * UQ := by
  unfold UI UQ
  rw [show (1074 : Nat) = 2 + qe from rfl, Nat.pow_add]
theorem UI_pos : 0 < UI := by have := UQ_pos; have := UI_eq; omega

/-- The whole part. -/
theorem whole (m e : Nat) : (m <<< (-1074 + (e : Int)).toNat) / 2 ^ (-(-1074 + (e : Int))).toNat = m * 2 ^ e / UI := by
  rw [shl]
  unfold UI
  by_cases h : e ≤ 1074
  · have e1 : (-1074 + (e : Int)).toNat = 0 := by omega
    have e2 : (-(-1074 + (e : Int))).toNat + e = 1074 := by omega
    generalize (-(-1074 + (e : Int))).toNat = k at *
    rw [e1, Nat.pow_zero, Nat.mul_one, ← e2, Nat.pow_add, Nat.mul_div_mul_right _ _ (Nat.two_pow_pos e)]
  · have e1 : (-1074 + (e : Int)).toNat + 1074 = e := by omega
    have e2 : (-(-1074 + (e : Int))).toNat = 0 := by omega
    generalize (-1074 + (e : Int)).toNat = k at *
    have hp := UI_pos
    unfold UI at hp
    rw [e2, Nat.pow_zero, Nat.div_one, ← e1, Nat.pow_add, ← Nat.mul_assoc, Nat.mul_div_cancel _ hp]

end Go.Fq
end

section
namespace Go.Fq
open Ieee

theorem limitF_L : limitF 4742290407621132288 = 0 := by decide +kernel
end Go.Fq
end

section
namespace Go.Iq

def letB (c : Int) : Bool := decide (97 ≤ c ∧ c ≤ 122)
def digB (c : Int) : Bool := decide (48 ≤ c ∧ c ≤ 57)
def okB (c : Int) : Bool := letB c || digB c || decide (c = 45)
/-- A name that may be. -/
def nameB (l : List UInt8) : Bool := decide (1 ≤ l.length ∧ l.length ≤ 32) && l.all (fun c => okB (c.toNat : Int)) && letB ((l.getD 0 0).toNat : Int) && !decide (((l.getD (l.length - 1) 0).toNat : Int) = 45)
/-- CheckName's answer. -/
def nameE (l : List UInt8) : Int := if nameB l then 0 else 21
/-- CheckId's answer. -/
def idB (n : Int) : Bool := decide (1 ≤ n ∧ n ≤ 2147483647)
def idE (n : Int) : Int := if idB n then 0 else 20

def step1 (x : Int) : Int := IntKind.u64.wrap (bits .xor .u64 x (x / 1073741824) * 13787848793156543929)
def step2 (x : Int) : Int := IntKind.u64.wrap (bits .xor .u64 x (x / 134217728) * 10723151780598845931)
def step3 (x : Int) : Int := bits .xor .u64 x (x / 2147483648)
/-- Mix. -/
def mixI (x : Int) : Int := step3 (step2 (step1 x))
def U64 (x : Int) : Prop := 0 ≤ x ∧ x < 18446744073709551616

theorem wrap_bd (x : Int) : U64 (IntKind.u64.wrap x) := by rw [IntKind.wrap_u64]; unfold U64; omega
theorem take_snoc (s : ByteArray) (k : Nat) (h : k < s.size) : s.data.toList.take (k + 1) = s.data.toList.take k ++ [s[k]] := by
  rw [List.take_succ_eq_append_getElem (by simpa using h)]; rfl
/-- The score of a router and a name's sum. -/
def scoreI (id sum : Int) : Int := mixI (bits .xor .u64 sum (mixI id))
theorem getD_size (s : ByteArray) (k : Nat) (h : k < s.size) : s.data.toList.getD k 0 = s[k] := by
  rw [List.getD_eq_getElem?_getD, List.getElem?_eq_getElem (by simpa using h)]; rfl
theorem all_take (s : ByteArray) (k : Nat) (h : k < s.size) : (s.data.toList.take (k + 1)).all (fun c => okB (c.toNat : Int)) = ((s.data.toList.take k).all (fun c => okB (c.toNat : Int)) && okB (s[k].toNat : Int)) := by
  rw [take_snoc s k h, List.all_append]; simp
theorem all_bad (s : ByteArray) (k : Nat) (h : k < s.size) (hb : okB (s[k].toNat : Int) = false) : nameB s.data.toList = false := by
  unfold nameB
  have : s.data.toList.all (fun c => okB (c.toNat : Int)) = false := by
    rw [List.all_eq_false]
    exact ⟨s[k], by rw [← getD_size s k h, List.getD_eq_getElem?_getD, List.getElem?_eq_getElem (by simpa using h)]; exact List.getElem_mem _, by simp [hb]⟩
  rw [this]; simp
theorem name_len (s : ByteArray) (h : s.size < 1 ∨ 32 < s.size) : nameB s.data.toList = false := by
  unfold nameB
  have : decide (1 ≤ s.data.toList.length ∧ s.data.toList.length ≤ 32) = false := by
    rw [decide_eq_false_iff_not]
    have : s.data.toList.length = s.size := by simp
    omega
  rw [this]; simp
/-- What is told of a name behind its bytes. -/
theorem name_ends (s : ByteArray) (h1 : 0 < s.size) (h2 : s.size ≤ 32) : nameB s.data.toList = (s.data.toList.all (fun c => okB (c.toNat : Int)) && letB (s[0].toNat : Int) && !decide ((s[s.size - 1].toNat : Int) = 45)) := by
  unfold nameB
  have e : s.data.toList.length = s.size := by simp
  rw [e, show decide (1 ≤ s.size ∧ s.size ≤ 32) = true by simp; omega, getD_size s 0 h1, getD_size s (s.size - 1) (by omega)]
  simp
theorem okB_let {c : Int} (h : letB c = true) : okB c = true := by unfold okB; rw [h]; rfl
theorem okB_dig {c : Int} (h : digB c = true) : okB c = true := by unfold okB; rw [h]; simp
theorem okB_dash {c : Int} (h : (c != 45) = false) : okB c = true := by unfold okB; simp at h; simp [h]
theorem okB_no {c : Int} (h1 : ¬ letB c = true) (h2 : ¬ digB c = true) (h3 : (c != 45) = true) : okB c = false := by
  unfold okB; simp at h3; simp [h1, h2, h3]
theorem ends_yes {c : Int} (h : (c == 45) = true) : decide (c = 45) = true := by simpa using h
theorem ends_no {c : Int} (h : (c == 45) = false) : decide (c = 45) = false := by simpa using h
theorem nameE_no {l : List UInt8} (h : nameB l = false) : nameE l = 21 := by unfold nameE; rw [h]; rfl
theorem nameE_yes {l : List UInt8} (h : nameB l = true) : nameE l = 0 := by unfold nameE; rw [h]; rfl
theorem idE_no {n : Int} (h : idB n = false) : idE n = 20 := by unfold idE; rw [h]; rfl
end Go.Iq
end

section
namespace Go.Iq

/-! Sorted, then neighbours. -/
/-! Who wants a name most. -/
attribute [local irreducible] scoreI
/-! In which order all want it. -/
end Go.Iq
end
