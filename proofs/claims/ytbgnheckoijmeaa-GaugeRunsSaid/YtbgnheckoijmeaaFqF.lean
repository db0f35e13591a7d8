import Derived.Test.YtbgnheckoijmeaaFqE
import Derived.Laws.Cover2
import Derived.Laws.FloatArith
namespace Go.Fq
open Ieee

/-- Units to one. -/
def UI : Nat := 2 ^ 1074
theorem UI_eq : UI = 4 * UQ := by
  unfold UI UQ
  rw [show (1074 : Nat) = 2 + qe from rfl, Nat.pow_add]
theorem UI_pos : 0 < UI := by have := UQ_pos; have := UI_eq; omega

theorem cut_zero (neg : Bool) (n drop : Nat) : Toward.zero.cut neg n drop = n / 2 ^ drop := by
  unfold Toward.cut
  simp only [shl, Nat.one_mul, Bool.toNat_false, Nat.add_zero]
  by_cases h : drop ≤ n.log2 + 2
  · rw [Nat.min_eq_left h]
  · rw [Nat.min_eq_right (by omega)]
    have g : n < 2 ^ (n.log2 + 2) := Nat.lt_of_lt_of_le Nat.lt_log2_self (Nat.pow_le_pow_right (by omega) (by omega))
    have g2 : 2 ^ (n.log2 + 2) ≤ 2 ^ drop := Nat.pow_le_pow_right (by omega) (by omega)
    rw [Nat.div_eq_of_lt g, Nat.div_eq_of_lt (by omega)]

theorem cut_down (n drop : Nat) : Toward.down.cut false n drop = n / 2 ^ drop := by
  rw [← cut_zero false n drop]; unfold Toward.cut; rfl

/-- The whole part. -/
theorem whole (m e : Nat) : (m <<< (-1074 + (e : Int)).toNat) / 2 ^ (-(-1074 + (e : Int))).toNat = m * 2 ^ e / UI := by
  rw [shl]
  unfold UI
  by_cases h : e ≤ 1074
  · have e1 : (-1074 + (e : Int)).toNat = 0 := by omega
    have e2 : (-(-1074 + (e : Int))).toNat + e = 1074 := by omega
    generalize (-(-1074 + (e : Int))).toNat = k at *
    rw [e1, Nat.pow_zero, Nat.mul_one, ← e2, Nat.pow_add, Nat.mul_div_mul_right _ _ (Nat.two_pow_pos e)]
  · have e1 : (-1074 + (e : Int)).toNat + 1074 = e := by omega
    have e2 : (-(-1074 + (e : Int))).toNat = 0 := by omega
    generalize (-1074 + (e : Int)).toNat = k at *
    have hp := UI_pos
    unfold UI at hp
    rw [e2, Nat.pow_zero, Nat.div_one, ← e1, Nat.pow_add, ← Nat.mul_assoc, Nat.mul_div_cancel _ hp]

theorem integral_zero (x : Nat) (hx : mg x < infR) : (double.read x).integral .zero = .number (ng x) (units (mg x) / UI) 0 := by
  rw [read_fin x hx]
  show Datum.number _ (Toward.zero.cut _ _ _) 0 = _
  rw [cut_zero, whole, ← units_eq]
theorem integral_down (x : Nat) (hx : mg x < infR) (hn : ng x = false) : (double.read x).integral .down = .number false (units (mg x) / UI) 0 := by
  rw [read_fin x hx, hn]
  show Datum.number _ (Toward.down.cut _ _ _) 0 = _
  rw [cut_down, whole, ← units_eq]

/-- A whole number's word. -/
theorem nearest_whole (k : Nat) (h : 4 * k < 2 ^ 53) : double.nearest false k 0 = qw (4 * k) := by
  obtain ⟨r, h1, h2, h3⟩ := qw_rung (4 * k) h
  rw [h3]
  have := nearest_exact false k 0 r 1074 h1 (by omega) (by omega) (by
    rw [h2, Nat.sub_self, Nat.pow_zero, Nat.mul_one, show ((0 : Int) + ((1074 : Nat) : Int)).toNat = 1074 from rfl]
    have e := UI_eq
    unfold UI at e
    rw [e]
    simp only [Nat.mul_comm, Nat.mul_left_comm])
  rw [this]; exact word_pos r

theorem truncD_zero (x : Nat) (hx : mg x < infR) (hn : ng x = false) (h : 4 * (units (mg x) / UI) < 2 ^ 53) : truncD .zero x = qw (4 * (units (mg x) / UI)) := by
  unfold truncD
  rw [integral_zero x hx, hn]
  exact nearest_whole _ h
theorem truncD_down (x : Nat) (hx : mg x < infR) (hn : ng x = false) (h : 4 * (units (mg x) / UI) < 2 ^ 53) : truncD .down x = qw (4 * (units (mg x) / UI)) := by
  unfold truncD
  rw [integral_down x hx hn]
  exact nearest_whole _ h

theorem floatOfInt_nat (k : Nat) (h : 4 * k < 2 ^ 53) : floatOfInt .f64 (k : Int) = qw (4 * k) := by
  unfold floatOfInt FloatKind.nearest FloatKind.encode
  show double.nearest (decide ((k : Int) < 0)) (k : Int).natAbs 0 = _
  rw [show decide ((k : Int) < 0) = false by simp, Int.natAbs_natCast]
  exact nearest_whole k h

theorem mul4_exact (x r : Nat) (hx : mg x < infR) (hn : ng x = false) (hr : r < infR) (h : units r = 4 * units (mg x)) : mul4 x = r := by
  have hm : double.mul x FOUR = some r := by
    unfold Format.mul
    rw [read_fin x hx, read_four, hn]
    show some (double.nearest (false ^^ false) (sig (mg x) * 2 ^ 52) (-1074 + (ex (mg x) : Int) + -50)) = some r
    rw [show (false ^^ false) = false from rfl]
    rw [nearest_exact false _ _ r 1126 hr (by omega) (by omega) ?_]
    · exact congrArg some (word_pos r)
    · have e : (-1074 + (ex (mg x) : Int) + -50 + ((1126 : Nat) : Int)).toNat = ex (mg x) + 2 := by omega
      rw [e, h, units_eq, Nat.pow_add]
      simp only [Nat.mul_comm, Nat.mul_left_comm, Nat.mul_assoc, Nat.reduceSub]
  unfold mul4; rw [hm]; rfl

theorem div4_exact (x r : Nat) (hx : mg x < infR) (hn : ng x = false) (hr : r < infR) (h : units (mg x) = 4 * units r) : double.div x FOUR = some r := by
  unfold Format.div
  rw [read_fin x hx, read_four, hn]
  have hl : (sig (mg x)).log2 ≤ 52 := by
    by_cases hs : sig (mg x) = 0
    · rw [hs]; simp
    · have := log2_lt hs (sig_lt (mg x)); omega
  have h52 : (2 ^ 52).log2 = 52 := Nat.log2_two_pow
  unfold Datum.quotient
  simp only [Option.map_some, h52, show double.fractionBits = 52 from rfl, show (2 ^ 52 = 0) = False by simp, if_false]
  have hmore : ∃ k, 52 + 2 + 52 - (sig (mg x)).log2 = 52 + (k + 2) ∧ k ≤ 52 := ⟨52 - (sig (mg x)).log2, by omega, by omega⟩
  obtain ⟨k, hk, hk2⟩ := hmore
  rw [hk, shl]
  have e0 : sig (mg x) * 2 ^ (52 + (k + 2)) = (sig (mg x) * 2 ^ (k + 2)) * 2 ^ 52 := by
    rw [Nat.pow_add, Nat.mul_comm (2 ^ 52), Nat.mul_assoc]
  rw [e0, Nat.mul_div_cancel _ (Nat.two_pow_pos 52), Nat.mul_mod_left]
  show some (double.nearest (false ^^ false) (2 * (sig (mg x) * 2 ^ (k + 2)) + 0) _) = some r
  rw [show (false ^^ false) = false from rfl, Nat.add_zero]
  rw [nearest_exact false _ _ r 1200 hr (by omega) (by omega) ?_]
  · exact congrArg some (word_pos r)
  · generalize hp : (-1074 + (ex (mg x) : Int) - -50 - ((52 + (k + 2) : Nat) : Int) - 1 + ((1200 : Nat) : Int)).toNat = q
    have e : 1 + (k + 2) + q = ex (mg x) + (2 + (1200 - 1074)) - 4 := by omega
    have e2 : 2 * (sig (mg x) * 2 ^ (k + 2)) * 2 ^ q = sig (mg x) * 2 ^ (1 + (k + 2) + q) := by
      generalize k + 2 = j
      rw [Nat.mul_assoc 2, Nat.mul_assoc (sig (mg x)), ← Nat.pow_add, show 1 + j + q = (j + q) + 1 by omega, Nat.pow_succ]
      rw [Nat.mul_comm (2 ^ (j + q)) 2, Nat.mul_left_comm]
    rw [e2, e]
    rw [units_eq] at h
    rw [show ex (mg x) + (2 + (1200 - 1074)) - 4 = ex (mg x) + 124 by omega, Nat.pow_add, ← Nat.mul_assoc, h]
    rw [show (1200 - 1074 : Nat) = 2 + 124 from rfl, Nat.pow_add]
    simp only [Nat.mul_comm, Nat.mul_left_comm, Nat.mul_assoc, Nat.reducePow]

theorem units_qw {n : Nat} (h : n < 2 ^ 53) : units (mg (qw n)) = n * UQ := by
  obtain ⟨r, h1, h2, h3⟩ := qw_rung n h
  rw [h3, mg_small h1, h2]

theorem mul4_qw (n : Nat) (h : 4 * n < 2 ^ 53) : mul4 (qw n) = qw (4 * n) := by
  have hf := qw_fin (n := n) (by omega)
  have hg := qw_fin h
  refine mul4_exact _ _ hf.1 hf.2.1 hg.2.2.2 ?_
  have := units_qw h
  rw [mg_small hg.2.2.2] at this
  rw [this, units_qw (by omega), Nat.mul_assoc]

theorem div4_qw (n : Nat) (h : 4 * n < 2 ^ 53) : double.div (qw (4 * n)) FOUR = some (qw n) := by
  have hf := qw_fin (n := n) (by omega)
  have hg := qw_fin h
  refine div4_exact _ _ hg.1 hg.2.1 hf.2.2.2 ?_
  have := units_qw (n := n) (by omega)
  rw [mg_small hf.2.2.2] at this
  rw [this, units_qw h, Nat.mul_assoc]

theorem trunc_qw4 (n : Nat) (h : 4 * n < 2 ^ 53) : truncD .zero (qw (4 * n)) = qw (4 * n) := by
  have hg := qw_fin h
  have e : units (mg (qw (4 * n))) / UI = n := by
    rw [units_qw h, UI_eq, Nat.mul_comm 4 n, Nat.mul_assoc, Nat.mul_div_cancel _ (by have := UQ_pos; omega)]
  rw [truncD_zero _ hg.1 hg.2.1 (by rw [e]; exact h), e]

theorem qF_qw (n : Nat) (h : 4 * n < 2 ^ 53) : qF (qw n) = true := by
  unfold qF
  rw [mul4_qw n h, trunc_qw4 n h]
  have := od_self (qw_nan h)
  rw [show double.order (qw (4 * n)) (qw (4 * n)) = some .eq from this]; rfl

theorem add_qw (n m : Nat) (h : n + m < 2 ^ 53) (hz : n + m ≠ 0) : double.add (qw n) (qw m) = some (qw (n + m)) := by
  have hn := qw_fin (n := n) (by omega)
  have hm := qw_fin (n := m) (by omega)
  have hs := qw_fin h
  have hu := units_qw h
  rw [mg_small hs.2.2.2] at hu
  refine add_exact _ _ _ hn.1 hm.1 hs.2.2.2 ?_ ?_
  · rw [hn.2.2.1, hm.2.2.1, hu, Nat.add_mul, Int.natCast_add]
  · intro h0
    rw [h0, units_zero] at hu
    have hp := UQ_pos
    rcases Nat.mul_eq_zero.1 hu.symm with g | g <;> omega

theorem inf_eq : (9218868437227405312 : Nat) = infR := by decide +kernel
theorem add_qw_inf (n : Nat) (h : n < 2 ^ 53) : double.add (qw n) 9218868437227405312 = some 9218868437227405312 := by
  have hn := qw_fin h
  unfold Format.add
  rw [read_fin _ hn.1, read_inf 9218868437227405312 (by decide +kernel)]
  show some (double.write (.infinity (ng 9218868437227405312))) = _
  decide +kernel

end Go.Fq
