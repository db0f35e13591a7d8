import Derived.Test.YtbgnheckoijmeaaGqA
namespace Go.Fq
open Ieee

theorem read_pos {x : Nat} (h : x < infR) : double.read x = .number false (sig x) (-1074 + (ex x : Int)) := by
  have := read_fin x (by rw [mg_small h]; exact h)
  rwa [mg_small h, ng_small h] at this

/-- k eighths of a float. -/
def kth (k x : Nat) : Nat := Rn (units x * k * 2 ^ 123)
/-- A sum of two, and a difference (the greater one ahead). -/
def plusF (x y : Nat) : Nat := Rn ((units x + units y) * 2 ^ 126)
def offF (x y : Nat) : Nat := Rn ((units x - units y) * 2 ^ 126)

theorem mul_k (c k sc : Nat) (pc : Int) (hc : double.read c = .number false sc pc) (hp : -126 ≤ pc) (hk : sc * 2 ^ (pc + 126).toNat = k * 2 ^ 123) {x : Nat} (hx : x < infR) : double.mul c x = some (kth k x) := by
  unfold Format.mul
  rw [hc, read_pos hx]
  show some (double.nearest (false ^^ false) (sc * sig x) (pc + (-1074 + (ex x : Int)))) = _
  rw [show (false ^^ false) = false from rfl, nearest_Rn false _ _ (by omega), word_pos]
  congr 1
  unfold kth
  congr 1
  have e : (pc + (-1074 + (ex x : Int)) + 1200).toNat = (pc + 126).toNat + ex x := by omega
  rw [e, units_eq, Nat.pow_add, Nat.mul_assoc (sig x * 2 ^ ex x), ← hk]
  simp only [Nat.mul_comm, Nat.mul_left_comm, Nat.mul_assoc]

def F75 : Nat := 4604930618986332160
def F25 : Nat := 4598175219545276416
def F875 : Nat := 4606056518893174784
def F125 : Nat := 4593671619917905920
theorem mul_75 {x : Nat} (h : x < infR) : double.mul 4604930618986332160 x = some (kth 6 x) := mul_k _ 6 (3 * 2 ^ 51) (-53) (by decide +kernel) (by omega) (by decide +kernel) h
theorem mul_25 {x : Nat} (h : x < infR) : double.mul 4598175219545276416 x = some (kth 2 x) := mul_k _ 2 (2 ^ 52) (-54) (by decide +kernel) (by omega) (by decide +kernel) h
theorem mul_875 {x : Nat} (h : x < infR) : double.mul 4606056518893174784 x = some (kth 7 x) := mul_k _ 7 (7 * 2 ^ 50) (-53) (by decide +kernel) (by omega) (by decide +kernel) h
theorem mul_125 {x : Nat} (h : x < infR) : double.mul 4593671619917905920 x = some (kth 1 x) := mul_k _ 1 (2 ^ 52) (-55) (by decide +kernel) (by omega) (by decide +kernel) h
theorem mul_4 {x : Nat} (h : x < infR) : double.mul 4616189618054758400 x = some (kth 32 x) := mul_k _ 32 (2 ^ 52) (-50) (by decide +kernel) (by omega) (by decide +kernel) h
theorem less_75 : double.sub 4607182418800017408 4598175219545276416 = some 4604930618986332160 := by decide +kernel
theorem less_875 : double.sub 4607182418800017408 4593671619917905920 = some 4606056518893174784 := by decide +kernel

theorem div_pow (c k : Nat) (pc : Int) (hc : double.read c = .number false (2 ^ 52) pc) (hp : pc ≤ -40 ∧ -60 ≤ pc) (hk : 2 ^ (74 - pc).toNat = k * 2 ^ 123) {x : Nat} (hx : x < infR) : double.div x c = some (kth k x) := by
  unfold Format.div
  rw [hc, read_pos hx]
  have hl : (sig x).log2 ≤ 52 := by
    by_cases hs : sig x = 0
    · rw [hs]; simp
    · have := log2_lt hs (sig_lt x); omega
  have h52 : (2 ^ 52).log2 = 52 := Nat.log2_two_pow
  unfold Datum.quotient
  simp only [Option.map_some, h52, show double.fractionBits = 52 from rfl, show (2 ^ 52 = 0) = False by simp, if_false]
  obtain ⟨j, hj⟩ : ∃ j, 52 + 2 + 52 - (sig x).log2 = 52 + j := ⟨54 - (sig x).log2, by omega⟩
  have hj2 : j ≤ 54 := by omega
  rw [hj, shl]
  have e0 : sig x * 2 ^ (52 + j) = (sig x * 2 ^ j) * 2 ^ 52 := by
    rw [Nat.pow_add, Nat.mul_comm (2 ^ 52), Nat.mul_assoc]
  rw [e0, Nat.mul_div_cancel _ (Nat.two_pow_pos 52), Nat.mul_mod_left]
  show some (double.nearest (false ^^ false) (2 * (sig x * 2 ^ j) + 0) _) = _
  rw [show (false ^^ false) = false from rfl, Nat.add_zero, nearest_Rn false _ _ (by omega), word_pos]
  congr 1
  unfold kth
  congr 1
  have e : (-1074 + (ex x : Int) - pc - ((52 + j : Nat) : Int) - 1 + 1200).toNat + (j + 1) = ex x + (74 - pc).toNat := by omega
  generalize (-1074 + (ex x : Int) - pc - ((52 + j : Nat) : Int) - 1 + 1200).toNat = q at *
  have e2 : 2 * (sig x * 2 ^ j) * 2 ^ q = sig x * 2 ^ (q + (j + 1)) := by
    rw [Nat.pow_add, Nat.pow_succ]
    simp only [Nat.mul_comm, Nat.mul_left_comm, Nat.mul_assoc]
  rw [e2, e, units_eq, Nat.pow_add, Nat.mul_assoc (sig x * 2 ^ ex x), ← hk, Nat.mul_assoc]

theorem div_2 {x : Nat} (h : x < infR) : double.div x 4611686018427387904 = some (kth 4 x) := div_pow _ 4 (-51) (by decide +kernel) (by omega) (by decide +kernel) h
theorem div_8 {x : Nat} (h : x < infR) : double.div x 4620693217682128896 = some (kth 1 x) := div_pow _ 1 (-49) (by decide +kernel) (by omega) (by decide +kernel) h

theorem two_signs {x y : Nat} (s t : Bool) : ∀ base : Int, base = min (-1074 + (ex x : Int)) (-1074 + (ex y : Int)) →
    (signed s (sig x) (-1074 + (ex x : Int) - base).toNat + signed t (sig y) (-1074 + (ex y : Int) - base).toNat) * (2 ^ (base + 1074).toNat : Nat) = (if s then -(units x : Int) else (units x : Int)) + (if t then -(units y : Int) else (units y : Int)) := by
  intro base hb
  have e1 : (-1074 + (ex x : Int) - base).toNat + (base + 1074).toNat = ex x := by omega
  have e2 : (-1074 + (ex y : Int) - base).toNat + (base + 1074).toNat = ex y := by omega
  rw [Int.add_mul, signed_scale, signed_scale, e1, e2, signed_val, signed_val, ← units_eq, ← units_eq]

theorem nat_of_scale {t : Int} {p : Nat} {u : Int} (h : t * (p : Int) = u) (_ : 0 < p) : t.natAbs * p = u.natAbs := by
  have := congrArg Int.natAbs h
  rwa [Int.natAbs_mul, Int.natAbs_natCast] at this

theorem pow126 (b : Int) (h : -1074 ≤ b) : 2 ^ (b + 1200).toNat = 2 ^ (b + 1074).toNat * 2 ^ 126 := by
  rw [← Nat.pow_add]; congr 1; omega

theorem add_fin {x y : Nat} (hx : x < infR) (hy : y < infR) : double.add x y = some (plusF x y) := by
  unfold Format.add
  rw [read_pos hx, read_pos hy]
  unfold Datum.sum
  simp only [Option.map_some]
  generalize hb : min (-1074 + (ex x : Int)) (-1074 + (ex y : Int)) = base
  have hs := two_signs (x := x) (y := y) false false base hb.symm
  simp only [Bool.false_eq_true, if_false] at hs
  generalize signed false (sig x) (-1074 + (ex x : Int) - base).toNat + signed false (sig y) (-1074 + (ex y : Int) - base).toNat = t at *
  have hp := Nat.two_pow_pos (base + 1074).toNat
  have hn := nat_of_scale hs hp
  have h0 : 0 ≤ t := by
    rcases Int.lt_or_le t 0 with g | g
    · exfalso
      have := Int.mul_neg_of_neg_of_pos g (show (0 : Int) < (2 ^ (base + 1074).toNat : Nat) by omega)
      omega
    · exact g
  have hneg : (if t = 0 then false && false else decide (t < 0)) = false := by
    split
    · rfl
    · simp; omega
  rw [hneg]
  show some (double.nearest false t.natAbs base) = _
  rw [nearest_Rn false _ _ (by omega), word_pos, pow126 base (by omega), ← Nat.mul_assoc, hn]
  unfold plusF
  congr 3

theorem sub_any {x y : Nat} (hx : x < infR) (hy : y < infR) : (y ≤ x → double.sub x y = some (offF x y)) ∧ (x < y → double.sub x y = some (double.word true (offF y x))) := by
  unfold Format.sub
  rw [read_pos hx, read_pos hy]
  unfold Datum.opposite Datum.sum
  simp only [Option.map_some, Bool.not_false]
  generalize hb : min (-1074 + (ex x : Int)) (-1074 + (ex y : Int)) = base
  have hs := two_signs (x := x) (y := y) false true base hb.symm
  simp only [Bool.false_eq_true, if_false, if_true] at hs
  generalize signed false (sig x) (-1074 + (ex x : Int) - base).toNat + signed true (sig y) (-1074 + (ex y : Int) - base).toNat = t at *
  have hp := Nat.two_pow_pos (base + 1074).toNat
  have hn := nat_of_scale hs hp
  have hpi : (0 : Int) < (2 ^ (base + 1074).toNat : Nat) := by omega
  have hb0 : -1074 ≤ base := by omega
  clear hb
  constructor
  · intro h
    have hu : units y ≤ units x := by
      rcases Nat.lt_or_ge y x with g | g
      · exact Nat.le_of_lt (units_lt g)
      · rw [show x = y by omega]; exact Nat.le_refl _
    have h0 : 0 ≤ t := by
      rcases Int.lt_or_le t 0 with g | g
      · exfalso
        have := Int.mul_neg_of_neg_of_pos g hpi
        omega
      · exact g
    have hneg : (if t = 0 then false && true else decide (t < 0)) = false := by
      split
      · rfl
      · simp; omega
    rw [hneg]
    show some (double.nearest false t.natAbs base) = _
    rw [nearest_Rn false _ _ (by omega), word_pos, pow126 base hb0, ← Nat.mul_assoc, hn]
    unfold offF
    congr 3
    generalize units x = u at *
    generalize units y = v at *
    omega
  · intro h
    have hu := units_lt h
    have h0 : t < 0 := by
      rcases Int.lt_or_le t 0 with g | g
      · exact g
      · exfalso
        have := Int.mul_nonneg g (Int.le_of_lt hpi)
        omega
    have hneg : (if t = 0 then false && true else decide (t < 0)) = true := by
      rw [if_neg (by omega)]; simp; omega
    rw [hneg]
    show some (double.nearest true t.natAbs base) = _
    rw [nearest_Rn true _ _ (by omega), pow126 base hb0, ← Nat.mul_assoc, hn]
    unfold offF
    congr 4
    generalize units x = u at *
    generalize units y = v at *
    omega

theorem kth_le_inf (k x : Nat) : kth k x ≤ infR := Rn_le_inf _
theorem plusF_le_inf (x y : Nat) : plusF x y ≤ infR := Rn_le_inf _
theorem offF_le_inf (x y : Nat) : offF x y ≤ infR := Rn_le_inf _
theorem units_le {x y : Nat} (h : x ≤ y) : units x ≤ units y := by
  rcases Nat.lt_or_ge x y with g | g
  · exact Nat.le_of_lt (units_lt g)
  · rw [show x = y by omega]; exact Nat.le_refl _
theorem kth_mono (k : Nat) {x y : Nat} (h : x ≤ y) : kth k x ≤ kth k y := Rn_mono (Nat.mul_le_mul_right _ (Nat.mul_le_mul_right _ (units_le h)))
theorem plusF_mono {x y a b : Nat} (h : x ≤ a) (g : y ≤ b) : plusF x y ≤ plusF a b := Rn_mono (Nat.mul_le_mul_right _ (Nat.add_le_add (units_le h) (units_le g)))
theorem offF_le {x y : Nat} (hx : x < infR) : offF x y ≤ x := Rn_le_of hx (Nat.mul_le_mul_right _ (Nat.sub_le _ _))
theorem offF_pos {x y : Nat} (h : y < x) : 0 < offF x y := by
  have hu := units_lt h
  have h1 : units 1 = 1 := units_small 1 (by omega)
  have : 1 ≤ Rn ((units x - units y) * 2 ^ 126) := Rn_ge_of (r := 1) (by unfold infR; omega) (Nat.mul_le_mul_right _ (by rw [h1]; omega))
  exact this
theorem offF_self (x : Nat) : offF x x = 0 := by unfold offF; rw [Nat.sub_self, Nat.zero_mul, Rn_zero]

theorem mg_word_true {r : Nat} (h : r ≤ infR) : mg (double.word true r) = r := mg_word true r (by unfold infR at h; omega)
theorem ng_word_true {r : Nat} (h : r ≤ infR) : ng (double.word true r) = true := ng_word true r (by unfold infR at h; omega)
theorem word_true_lt {r : Nat} (h : r ≤ infR) : double.word true r < 2 ^ 64 := by
  unfold Format.word; rw [sign_eq, if_pos rfl]; unfold infR at h; omega

end Go.Fq
