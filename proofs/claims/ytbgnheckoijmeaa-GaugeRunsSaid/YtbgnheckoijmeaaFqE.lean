import Derived.Test.YtbgnheckoijmeaaFqD
namespace Go.Fq
open Ieee

theorem log2_iff {n k : Nat} (h : n ≠ 0) : n.log2 = k ↔ 2 ^ k ≤ n ∧ n < 2 ^ (k + 1) := Nat.log2_eq_iff h

theorem log2_shift (a k : Nat) (h : a ≠ 0) : (a * 2 ^ k).log2 = a.log2 + k := by
  have hp := Nat.two_pow_pos k
  obtain ⟨h1, h2⟩ := (log2_iff (k := a.log2) h).1 rfl
  refine (log2_iff (Nat.mul_ne_zero h (by omega))).2 ⟨?_, ?_⟩
  · rw [Nat.pow_add]; exact Nat.mul_le_mul_right _ h1
  · rw [show a.log2 + k + 1 = (a.log2 + 1) + k by omega, Nat.pow_add]
    exact Nat.mul_lt_mul_of_pos_right h2 hp

theorem log2_lt {n k : Nat} (h : n ≠ 0) (g : n < 2 ^ k) : n.log2 < k := (Nat.log2_lt h).2 g

/-- A cut that drops nothing but noughts. -/
theorem cut_exact (neg : Bool) (m k : Nat) : Toward.even.cut neg (m * 2 ^ k) k = m := by
  unfold Toward.cut
  by_cases hm : m = 0
  · subst hm; simp
  have hl := log2_shift m k hm
  have hg : min k ((m * 2 ^ k).log2 + 2) = k := by omega
  have hp := Nat.two_pow_pos k
  simp only [hg, shl, Nat.one_mul, Nat.mul_div_cancel _ hp, Nat.mul_mod_left]
  have e1 : decide (2 ^ k < 2 * 0) = false := by simp
  have e2 : (2 ^ k == 2 * 0) = false := by rw [beq_eq_false_iff_ne]; omega
  rw [e1, e2]; simp

theorem cut_none (neg : Bool) (m : Nat) : Toward.even.cut neg m 0 = m := by
  have := cut_exact neg m 0
  simpa using this

theorem nearest_exact (neg : Bool) (mag : Nat) (pl : Int) (r K : Nat) (hr : r < infR) (hK : 0 ≤ pl + K) (hK2 : 1074 ≤ K) (h : mag * 2 ^ (pl + K).toNat = units r * 2 ^ (K - 1074)) :
    double.nearest neg mag pl = double.word neg r := by
  have p1 := Nat.two_pow_pos (pl + K).toNat
  have p2 := Nat.two_pow_pos (K - 1074)
  unfold Format.nearest
  by_cases hm : mag = 0
  · rw [if_pos hm]
    subst hm
    have : units r = 0 := by
      rw [Nat.zero_mul] at h
      rcases Nat.mul_eq_zero.1 h.symm with g | g
      · exact g
      · omega
    have : r = 0 := units_inj (by rw [this, units_zero])
    rw [this]
  · rw [if_neg hm]
    rw [units_eq, Nat.mul_assoc, ← Nat.pow_add] at h
    have hs : sig r ≠ 0 := by
      intro hs; rw [hs, Nat.zero_mul] at h
      rcases Nat.mul_eq_zero.1 h with g | g
      · exact hm g
      · omega
    have hl : mag.log2 + (pl + K).toNat = (sig r).log2 + (ex r + (K - 1074)) := by
      rw [← log2_shift _ _ hm, ← log2_shift _ _ hs, h]
    have hlt := log2_lt hs (sig_lt r)
    have hge : 0 < ex r → 52 ≤ (sig r).log2 := by
      intro g
      have := sig_ge r g
      exact (Nat.le_log2 hs).2 this
    have fb : double.fractionBits = 52 := rfl
    have hlast : max (pl + (mag.log2 : Int) - (double.fractionBits : Int)) double.leastPlace = (ex r : Int) - 1074 := by
      rw [least_eq, fb]
      by_cases g : 0 < ex r
      · have := hge g; omega
      · omega
    dsimp only
    rw [hlast, least_eq, binade_eq, infRung_eq]
    have hkept : Toward.even.cut neg (mag <<< (pl - ((ex r : Int) - 1074)).toNat) ((ex r : Int) - 1074 - pl).toNat = sig r := by
      rw [shl]
      by_cases g : pl ≤ (ex r : Int) - 1074
      · have e0 : (pl - ((ex r : Int) - 1074)).toNat = 0 := by omega
        rw [e0, Nat.pow_zero, Nat.mul_one]
        have e1 : ex r + (K - 1074) = ((ex r : Int) - 1074 - pl).toNat + (pl + K).toNat := by omega
        rw [e1, Nat.pow_add, ← Nat.mul_assoc] at h
        rw [Nat.eq_of_mul_eq_mul_right p1 h]
        exact cut_exact _ _ _
      · have e0 : ((ex r : Int) - 1074 - pl).toNat = 0 := by omega
        rw [e0]
        have e1 : (pl + K).toNat = (pl - ((ex r : Int) - 1074)).toNat + (ex r + (K - 1074)) := by omega
        rw [e1, Nat.pow_add, ← Nat.mul_assoc] at h
        rw [Nat.eq_of_mul_eq_mul_right (Nat.two_pow_pos _) h]
        exact cut_none _ _
    rw [hkept]
    have e : ((ex r : Int) - 1074 - -1074).toNat = ex r := by omega
    rw [e, ex_sig, Nat.min_eq_left (Nat.le_of_lt hr)]

/-- Units to a quarter. -/
def qe : Nat := 1072
def UQ : Nat := 2 ^ qe
theorem UQ_pos : 0 < UQ := Nat.two_pow_pos _

/-- The word of n quarters. -/
def qw (n : Nat) : Nat := double.nearest false n (-2)

/-- The magnitude of n quarters is a rung's. -/
theorem qw_rung (n : Nat) (h : n < 2 ^ 53) : ∃ r, r < infR ∧ units r = n * UQ ∧ qw n = r := by
  obtain ⟨r, h1, h2⟩ := rep n qe h (by unfold qe; omega)
  change units r = n * UQ at h2
  refine ⟨r, h1, h2, ?_⟩
  unfold qw
  rw [nearest_exact false n (-2) r 1074 h1 (by omega) (by omega) (by rw [h2, Nat.sub_self, Nat.pow_zero, Nat.mul_one, show ((-2 : Int) + ((1074 : Nat) : Int)).toNat = qe from rfl]; rfl)]
  unfold Format.word; rw [if_neg (by simp)]

theorem word_pos (r : Nat) : double.word false r = r := by unfold Format.word; simp
theorem mg_small {r : Nat} (h : r < infR) : mg r = r := by unfold mg; unfold infR at h; omega
theorem ng_small {r : Nat} (h : r < infR) : ng r = false := by
  unfold ng; unfold infR at h
  have : r / 2 ^ 63 = 0 := Nat.div_eq_of_lt (by omega)
  rw [this]; rfl

theorem qw_fin {n : Nat} (h : n < 2 ^ 53) : mg (qw n) < infR ∧ ng (qw n) = false ∧ val (qw n) = (n * UQ : Nat) ∧ qw n < infR := by
  obtain ⟨r, h1, h2, h3⟩ := qw_rung n h
  rw [h3]
  refine ⟨by rw [mg_small h1]; exact h1, ng_small h1, ?_, h1⟩
  unfold val; rw [ng_small h1, mg_small h1, h2]; rfl

theorem qw_nan {n : Nat} (h : n < 2 ^ 53) : nanB (qw n) = false := nan_of_le (Nat.le_of_lt (qw_fin h).1)
theorem qw_inf {n : Nat} (h : n < 2 ^ 53) : infB (qw n) = false := by
  have := (qw_fin h).1; unfold infB; simp only [decide_eq_false_iff_not]; omega

theorem qw_lt {n m : Nat} (hn : n < 2 ^ 53) (hm : m < 2 ^ 53) : ik (qw n) < ik (qw m) ↔ n < m := by
  rw [← ik_lt_val, (qw_fin hn).2.2.1, (qw_fin hm).2.2.1]
  have hp := UQ_pos
  rw [Int.ofNat_lt]
  exact Nat.mul_lt_mul_right hp

theorem od_qw {n m : Nat} (hn : n < 2 ^ 53) (hm : m < 2 ^ 53) : FloatKind.f64.format.order (qw n) (qw m) = some (compare (n : Int) (m : Int)) := by
  rw [od_num (qw_nan hn) (qw_nan hm)]
  have h1 := qw_lt hn hm
  have h2 := qw_lt hm hn
  congr 1
  refine cmp_of ?_ ?_ <;> omega

/-- A sum whose value a rung has. -/
theorem add_exact (x y r : Nat) (hx : mg x < infR) (hy : mg y < infR) (hr : r < infR) (h : val x + val y = (units r : Int)) (hz : r ≠ 0) : double.add x y = some r := by
  unfold Format.add
  rw [read_fin x hx, read_fin y hy]
  unfold Datum.sum
  simp only [Option.map_some]
  generalize hb : min (-1074 + (ex (mg x) : Int)) (-1074 + (ex (mg y) : Int)) = base
  have e1 : (-1074 + (ex (mg x) : Int) - base).toNat + (base + 1074).toNat = ex (mg x) := by omega
  have e2 : (-1074 + (ex (mg y) : Int) - base).toNat + (base + 1074).toNat = ex (mg y) := by omega
  have hs : (signed (ng x) (sig (mg x)) (-1074 + (ex (mg x) : Int) - base).toNat + signed (ng y) (sig (mg y)) (-1074 + (ex (mg y) : Int) - base).toNat) * (2 ^ (base + 1074).toNat : Nat) = (units r : Int) := by
    rw [Int.add_mul, signed_scale, signed_scale, e1, e2, ← val_signed, ← val_signed, h]
  generalize signed (ng x) (sig (mg x)) (-1074 + (ex (mg x) : Int) - base).toNat + signed (ng y) (sig (mg y)) (-1074 + (ex (mg y) : Int) - base).toNat = t at hs
  have hu : 0 < units r := by have := units_lt (r := 0) (s := r) (by omega); rw [units_zero] at this; exact this
  have hpos : 0 < t := by
    have hp : (0 : Int) < (2 ^ (base + 1074).toNat : Nat) := by have := Nat.two_pow_pos (base + 1074).toNat; omega
    exact Int.pos_of_mul_pos_left (by rw [hs]; omega) hp |> fun h => h
  rw [if_neg (by omega), show decide (t < 0) = false by simp; omega]
  obtain ⟨T, rfl⟩ := Int.eq_ofNat_of_zero_le (Int.le_of_lt hpos)
  congr 1
  show double.nearest false T base = r
  rw [nearest_exact false T base r 1074 hr (by omega) (by omega) (by rw [Nat.sub_self, Nat.pow_zero, Nat.mul_one]; exact Int.ofNat_inj.1 (by rw [Int.natCast_mul]; exact hs))]
  exact word_pos r

end Go.Fq
