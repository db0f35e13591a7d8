import Derived.Test.YtbgnheckoijmeaaFqA
namespace Go.Fq
open Ieee

theorem mg_word (neg : Bool) (r : Nat) (h : r < 2 ^ 63) : mg (double.word neg r) = r := by
  unfold mg Format.word; rw [sign_eq]; cases neg <;> simp <;> omega

theorem ng_word (neg : Bool) (r : Nat) (h : r < 2 ^ 63) : ng (double.word neg r) = neg := by
  unfold ng Format.word; rw [sign_eq]
  cases neg
  · have : r / 2 ^ 63 = 0 := Nat.div_eq_of_lt h
    simp [this]
  · have : (2 ^ 63 + r) / 2 ^ 63 = 1 := by omega
    simp only [if_true, this]; rfl

theorem nearest_mg_le (neg : Bool) (m : Nat) (p : Int) : mg (double.nearest neg m p) ≤ infR ∧ ng (double.nearest neg m p) = neg := by
  unfold Format.nearest
  dsimp only
  split
  · exact ⟨by rw [mg_word _ _ (by omega)]; omega, ng_word _ _ (by omega)⟩
  · have h := Nat.min_le_right ((max (p + (m.log2 : Int) - (double.fractionBits : Int)) double.leastPlace - double.leastPlace).toNat * double.binade + Toward.even.cut neg (m <<< (p - max (p + (m.log2 : Int) - (double.fractionBits : Int)) double.leastPlace).toNat) (max (p + (m.log2 : Int) - (double.fractionBits : Int)) double.leastPlace - p).toNat) double.infRung
    rw [infRung_eq] at h
    rw [infRung_eq]
    have hi : infR < 2 ^ 63 := by unfold infR; omega
    exact ⟨by rw [mg_word _ _ (by omega)]; exact h, ng_word _ _ (by omega)⟩

theorem nan_of_le {x : Nat} (h : mg x ≤ infR) : nanB x = false := by
  unfold nanB; simp only [decide_eq_false_iff_not]; omega

theorem nan_write_number (neg : Bool) (m : Nat) (p : Int) : nanB (double.write (.number neg m p)) = false :=
  nan_of_le (nearest_mg_le neg m p).1

theorem write_inf (neg : Bool) : mg (double.write (.infinity neg)) = infR ∧ ng (double.write (.infinity neg)) = neg := by
  unfold Format.write
  have hi : infR < 2 ^ 63 := by unfold infR; omega
  rw [infRung_eq]
  exact ⟨mg_word _ _ hi, ng_word _ _ hi⟩

theorem nan_write_inf (neg : Bool) : nanB (double.write (.infinity neg)) = false :=
  nan_of_le (by rw [(write_inf neg).1]; exact Nat.le_refl _)

/-- Four. -/
def FOUR : Nat := 4616189618054758400
theorem read_four : double.read FOUR = .number false (2 ^ 52) (-50) := by decide +kernel

/-- Four times a float that is no NaN. -/
def mul4 (f : Nat) : Nat := (double.mul f FOUR).getD 0
def truncD (way : Toward) (x : Nat) : Nat := double.write ((double.read x).integral way)

theorem read_cases (x : Nat) (h : nanB x = false) : (mg x < infR ∧ double.read x = .number (ng x) (sig (mg x)) (-1074 + (ex (mg x) : Int))) ∨ (mg x = infR ∧ double.read x = .infinity (ng x)) := by
  by_cases hi : mg x = infR
  · exact .inr ⟨hi, read_inf x hi⟩
  · have := mg_fin_of x h hi
    exact .inl ⟨this, read_fin x this⟩

theorem mul4_some (f : Nat) (h : nanB f = false) : double.mul f FOUR = some (mul4 f) ∧ nanB (mul4 f) = false := by
  have key : ∃ r, double.mul f FOUR = some r ∧ nanB r = false := by
    rcases read_cases f h with ⟨_, e⟩ | ⟨_, e⟩
    · refine ⟨_, by unfold Format.mul; rw [e, read_four]; rfl, nan_write_number _ _ _⟩
    · refine ⟨_, by unfold Format.mul; rw [e, read_four]; rfl, nan_write_inf _⟩
  obtain ⟨r, h1, h2⟩ := key
  have e : mul4 f = r := by unfold mul4; rw [h1]; rfl
  rw [e]; exact ⟨h1, h2⟩

theorem truncD_nan (way : Toward) (x : Nat) (h : nanB x = false) : nanB (truncD way x) = false := by
  unfold truncD
  rcases read_cases x h with ⟨_, e⟩ | ⟨_, e⟩
  · rw [e]; exact nan_write_number _ _ _
  · rw [e]; exact nan_write_inf _

theorem not_isNaN_read (x : Nat) (h : nanB x = false) : ∀ s t, double.read x ≠ .nan s t := by
  intro s t
  rcases read_cases x h with ⟨_, e⟩ | ⟨_, e⟩ <;> rw [e] <;> simp

/-- Is it a multiple of a quarter? As the program asks it. -/
def qF (f : Nat) : Bool := double.order (truncD .zero (mul4 f)) (mul4 f) == some .eq

/-- The NaNs that an operation may make are NaNs. -/
theorem nan_made (t : Nat) : nanB ((t % 2) * 2 ^ 63 + 0x7ff0000000000000 + 1 + (t / 2) % (2 ^ 52 - 1)) = true := by
  have h1 : t % 2 < 2 := Nat.mod_lt _ (by omega)
  have h2 : (t / 2) % (2 ^ 52 - 1) < 2 ^ 52 - 1 := Nat.mod_lt _ (by omega)
  generalize t % 2 = a at *
  generalize (t / 2) % (2 ^ 52 - 1) = b at *
  unfold nanB mg infR
  simp only [decide_eq_true_eq]
  omega

end Go.Fq
