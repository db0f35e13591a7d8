import Derived.Test.YtbgnheckoijmeaaFqR
namespace Go.Fq
open Ieee

/-- A cut to even, in closed form. -/
def cE (X d : Nat) : Nat := if 2 ^ d < 2 * (X % 2 ^ d) ∨ (2 ^ d = 2 * (X % 2 ^ d) ∧ X / 2 ^ d % 2 = 1) then X / 2 ^ d + 1 else X / 2 ^ d

theorem cut_cE (neg : Bool) (n d : Nat) : Toward.even.cut neg n d = cE n d := by
  by_cases h : d ≤ n.log2 + 2
  · exact cut_even neg n d h
  · have hmin : min d (n.log2 + 2) = n.log2 + 2 := by omega
    have g : n < 2 ^ (n.log2 + 1) := Nat.lt_log2_self
    have g2 : 2 ^ (n.log2 + 2) = 2 * 2 ^ (n.log2 + 1) := by rw [Nat.pow_succ 2 (n.log2 + 1), Nat.mul_comm]
    have g3 : 2 ^ (n.log2 + 2) ≤ 2 ^ d := Nat.pow_le_pow_right (by omega) (by omega)
    have lt1 : n < 2 ^ (n.log2 + 2) := by omega
    have lt2 : n < 2 ^ d := by omega
    have e1 : decide (2 ^ (n.log2 + 2) < 2 * n) = false := by rw [decide_eq_false_iff_not]; omega
    have e2 : (2 ^ (n.log2 + 2) == 2 * n) = false := by rw [beq_eq_false_iff_ne]; omega
    unfold Toward.cut cE
    simp only [hmin, shl, Nat.one_mul, Nat.div_eq_of_lt lt1, Nat.mod_eq_of_lt lt1, Nat.div_eq_of_lt lt2, Nat.mod_eq_of_lt lt2, e1, e2]
    rw [if_neg (by omega)]; rfl

theorem cE_mono {X Y d : Nat} (h : X ≤ Y) : cE X d ≤ cE Y d := by
  have hq : X / 2 ^ d ≤ Y / 2 ^ d := Nat.div_le_div_right h
  have hx := Nat.div_add_mod X (2 ^ d)
  have hy := Nat.div_add_mod Y (2 ^ d)
  unfold cE
  by_cases e : X / 2 ^ d = Y / 2 ^ d
  · rw [e] at hx
    rw [e]
    have hr : X % 2 ^ d ≤ Y % 2 ^ d := by omega
    generalize X % 2 ^ d = r at *
    generalize Y % 2 ^ d = s at *
    generalize 2 ^ d = D at *
    by_cases c : D < 2 * r ∨ (D = 2 * r ∧ Y / D % 2 = 1)
    · rw [if_pos c, if_pos (by omega)]; omega
    · rw [if_neg c]; split <;> omega
  · split <;> split <;> omega

theorem cE_shift (n d j : Nat) : cE (n * 2 ^ j) (d + j) = cE n d := by
  have hp := Nat.two_pow_pos j
  unfold cE
  rw [Nat.pow_add, Nat.mul_div_mul_right _ _ hp, Nat.mul_mod_mul_right, ← Nat.mul_assoc]
  have c1 : 2 ^ d * 2 ^ j < 2 * (n % 2 ^ d) * 2 ^ j ↔ 2 ^ d < 2 * (n % 2 ^ d) := Nat.mul_lt_mul_right hp
  have c2 : 2 ^ d * 2 ^ j = 2 * (n % 2 ^ d) * 2 ^ j ↔ 2 ^ d = 2 * (n % 2 ^ d) :=
    ⟨fun h => Nat.eq_of_mul_eq_mul_right hp h, fun h => congrArg (· * 2 ^ j) h⟩
  simp only [c1, c2]

theorem cE_zero (n : Nat) : cE n 0 = n := by
  unfold cE; simp [Nat.mod_one]

theorem cE_exact (n k : Nat) : cE (n * 2 ^ k) k = n := by
  have := cE_shift n 0 k
  rw [Nat.zero_add, cE_zero] at this; exact this

/-- The rung that a number at place p is rounded to. -/
theorem nearest_form (neg : Bool) (m : Nat) (p : Int) (hm : m ≠ 0) :
    double.nearest neg m p = double.word neg (min ((max (p + (m.log2 : Int) - 52) (-1074) + 1074).toNat * 2 ^ 52 + cE (m * 2 ^ (p - max (p + (m.log2 : Int) - 52) (-1074)).toNat) (max (p + (m.log2 : Int) - 52) (-1074) - p).toNat) infR) := by
  unfold Format.nearest
  rw [if_neg hm]
  dsimp only
  rw [least_eq, binade_eq, infRung_eq, show (double.fractionBits : Int) = 52 from rfl, cut_cE, shl]
  rfl

theorem nearest_scale (neg : Bool) (m j : Nat) (p : Int) : double.nearest neg (m * 2 ^ j) (p - j) = double.nearest neg m p := by
  by_cases hm : m = 0
  · subst hm; rw [Nat.zero_mul]; unfold Format.nearest; simp
  have hp := Nat.two_pow_pos j
  rw [nearest_form neg m p hm, nearest_form neg (m * 2 ^ j) (p - j) (Nat.mul_ne_zero hm (by omega)), log2_shift m j hm]
  rw [show (p - (j : Int)) + ((m.log2 + j : Nat) : Int) - 52 = p + (m.log2 : Int) - 52 by omega]
  generalize max (p + (m.log2 : Int) - 52) (-1074) = last
  congr 2
  congr 1
  by_cases h : p ≤ last
  · have e1 : (p - last).toNat = 0 := by omega
    have e2 : (p - (j : Int) - last).toNat = 0 := by omega
    have e3 : (last - (p - (j : Int))).toNat = (last - p).toNat + j := by omega
    rw [e1, e2, e3, Nat.pow_zero, Nat.mul_one, Nat.mul_one, cE_shift]
  · have e1 : (last - p).toNat = 0 := by omega
    rw [e1, cE_zero]
    by_cases g : last ≤ p - j
    · have e2 : (last - (p - (j : Int))).toNat = 0 := by omega
      have e3 : (p - last).toNat = j + (p - (j : Int) - last).toNat := by omega
      rw [e2, cE_zero, e3, Nat.pow_add, Nat.mul_assoc]
    · have e2 : (p - (j : Int) - last).toNat = 0 := by omega
      have e3 : j = (p - last).toNat + (last - (p - (j : Int))).toNat := by omega
      rw [e2, Nat.pow_zero, Nat.mul_one]
      generalize (last - (p - (j : Int))).toNat = k at *
      rw [e3, Nat.pow_add, ← Nat.mul_assoc, cE_exact]

/-- The rung that X units of 2 ^ -1200 are rounded to. -/
def Rn (X : Nat) : Nat := double.nearest false X (-1200)

theorem Rn_zero : Rn 0 = 0 := by unfold Rn Format.nearest; rw [if_pos rfl]; exact word_pos 0
theorem Rn_form (X : Nat) (h : X ≠ 0) : Rn X = min ((max (X.log2 - 52) 126 - 126) * 2 ^ 52 + cE X (max (X.log2 - 52) 126)) infR := by
  unfold Rn
  rw [nearest_form _ _ _ h, word_pos]
  have e1 : (-1200 - max (-1200 + (X.log2 : Int) - 52) (-1074)).toNat = 0 := by omega
  have e2 : (max (-1200 + (X.log2 : Int) - 52) (-1074) - -1200).toNat = max (X.log2 - 52) 126 := by omega
  have e3 : (max (-1200 + (X.log2 : Int) - 52) (-1074) + 1074).toNat = max (X.log2 - 52) 126 - 126 := by omega
  rw [e1, e2, e3, Nat.pow_zero, Nat.mul_one]

theorem Rn_le_inf (X : Nat) : Rn X ≤ infR := by
  by_cases h : X = 0
  · subst h; rw [Rn_zero]; unfold infR; omega
  · rw [Rn_form X h]; exact Nat.min_le_right _ _

theorem Rn_mono {X Y : Nat} (h : X ≤ Y) : Rn X ≤ Rn Y := by
  by_cases hX : X = 0
  · subst hX; rw [Rn_zero]; exact Nat.zero_le _
  have hY : Y ≠ 0 := by omega
  rw [Rn_form X hX, Rn_form Y hY]
  have hl : X.log2 ≤ Y.log2 := by
    refine (Nat.le_log2 hY).2 (Nat.le_trans ?_ h)
    exact ((log2_iff (k := X.log2) hX).1 rfl).1
  obtain ⟨x1, x2⟩ := (log2_iff (k := X.log2) hX).1 rfl
  obtain ⟨y1, y2⟩ := (log2_iff (k := Y.log2) hY).1 rfl
  have key : (max (X.log2 - 52) 126 - 126) * 2 ^ 52 + cE X (max (X.log2 - 52) 126) ≤ (max (Y.log2 - 52) 126 - 126) * 2 ^ 52 + cE Y (max (Y.log2 - 52) 126) := by
    by_cases e : max (X.log2 - 52) 126 = max (Y.log2 - 52) 126
    · rw [e]; exact Nat.add_le_add_left (cE_mono h) _
    · have hd : max (Y.log2 - 52) 126 = Y.log2 - 52 := by omega
      rw [hd] at e ⊢
      have a : 2 ^ 52 ≤ cE Y (Y.log2 - 52) := by
        have : 2 ^ 52 ≤ Y / 2 ^ (Y.log2 - 52) := by
          rw [Nat.le_div_iff_mul_le (Nat.two_pow_pos _), ← Nat.pow_add, show 52 + (Y.log2 - 52) = Y.log2 by omega]; exact y1
        unfold cE; split <;> omega
      have b : cE X (max (X.log2 - 52) 126) ≤ 2 ^ 53 := by
        have : X / 2 ^ (max (X.log2 - 52) 126) < 2 ^ 53 := by
          rw [Nat.div_lt_iff_lt_mul (Nat.two_pow_pos _), ← Nat.pow_add]
          exact Nat.lt_of_lt_of_le x2 (Nat.pow_le_pow_right (by omega) (by omega))
        unfold cE; split <;> omega
      have hd2 : max (X.log2 - 52) 126 + 1 ≤ Y.log2 - 52 := by omega
      have hd3 : 126 ≤ max (X.log2 - 52) 126 := Nat.le_max_right _ _
      generalize cE Y (Y.log2 - 52) = c at *
      generalize cE X (max (X.log2 - 52) 126) = b2 at *
      generalize max (X.log2 - 52) 126 = u at *
      generalize Y.log2 - 52 = v at *
      clear x1 x2 y1 y2 e hd hl h hX hY
      omega
  exact Nat.le_min.2 ⟨Nat.le_trans (Nat.min_le_left _ _) key, Nat.min_le_right _ _⟩

theorem nearest_Rn (neg : Bool) (m : Nat) (p : Int) (h : 0 ≤ p + 1200) : double.nearest neg m p = double.word neg (Rn (m * 2 ^ (p + 1200).toNat)) := by
  have e := nearest_scale neg m (p + 1200).toNat p
  rw [show p - (((p + 1200).toNat : Nat) : Int) = -1200 by omega] at e
  rw [← e]
  generalize m * 2 ^ (p + 1200).toNat = X
  by_cases hX : X = 0
  · subst hX; rw [Rn_zero]; unfold Format.nearest; rw [if_pos rfl]
  · unfold Rn
    rw [nearest_form neg X _ hX, nearest_form false X _ hX, word_pos]

theorem Rn_exact (r : Nat) (h : r < infR) : Rn (units r * 2 ^ 126) = r := by
  unfold Rn
  rw [nearest_exact false _ _ r 1200 h (by omega) (by omega) (by rw [show ((-1200 : Int) + ((1200 : Nat) : Int)).toNat = 0 from rfl, Nat.pow_zero, Nat.mul_one])]
  exact word_pos r

theorem Rn_le_of {X r : Nat} (hr : r < infR) (h : X ≤ units r * 2 ^ 126) : Rn X ≤ r := by
  have := Rn_mono h; rwa [Rn_exact r hr] at this
theorem Rn_ge_of {X r : Nat} (hr : r < infR) (h : units r * 2 ^ 126 ≤ X) : r ≤ Rn X := by
  have := Rn_mono h; rwa [Rn_exact r hr] at this

end Go.Fq
