/- Varints: what they are, and how they are read: there and back, and only so. -/
import Std
namespace Go.Wq

/-- What reading comes to: a value and where the next byte is, or an error and where the item begins. -/
inductive R (α : Type) where
  | ok (a : α) (n : Nat)
  | bad (e : Nat) (at_ : Nat)

abbrev eShort : Nat := 42
abbrev eOver : Nat := 43

/-- A number's varint. -/
def vint (n : Nat) : List UInt8 := if n < 128 then [UInt8.ofNat n] else UInt8.ofNat (n % 128 + 128) :: vint (n / 128)
termination_by n
decreasing_by omega

theorem vint_small {n : Nat} (h : n < 128) : vint n = [UInt8.ofNat n] := by rw [vint]; simp [h]
theorem vint_big {n : Nat} (h : ¬ n < 128) : vint n = UInt8.ofNat (n % 128 + 128) :: vint (n / 128) := by rw [vint]; simp [h]

/-- Reading goes on: i bytes are read, n of them. -/
def varGo (s : List UInt8) (fr : Nat) : Nat → Nat → Nat → Nat → R Nat
  | 0, _, _, _ => .bad eOver fr
  | f + 1, i, p, n =>
    match s[p]? with
    | none => .bad eShort fr
    | some c =>
      if i = 9 ∧ 1 < c.toNat then .bad eOver fr
      else if c.toNat < 128 then (if c.toNat = 0 ∧ 0 < i then .bad eOver fr else .ok (n + c.toNat % 128 * 128 ^ i) (p + 1))
      else varGo s fr f (i + 1) (p + 1) (n + c.toNat % 128 * 128 ^ i)
def rdVar (s : List UInt8) (p : Nat) : R Nat := varGo s p 10 0 p 0

theorem toNat_ofNat {n : Nat} (h : n < 256) : (UInt8.ofNat n).toNat = n := by simp [Nat.mod_eq_of_lt h]

theorem varGo_vint (s : List UInt8) (fr : Nat) : ∀ (f i p n m : Nat), f + i = 10 → m * 128 ^ i < 2 ^ 64 → (0 < i → 0 < m) → (∀ k, k < (vint m).length → s[p + k]? = (vint m)[k]?) →
    varGo s fr f i p n = .ok (n + m * 128 ^ i) (p + (vint m).length) := by
  intro f
  induction f with
  | zero =>
    intro i p n m hf hm hi hs
    exfalso
    have : i = 10 := by omega
    subst this
    have h1 := hi (by omega)
    have : 1 * 128 ^ 10 ≤ m * 128 ^ 10 := Nat.mul_le_mul_right _ h1
    omega
  | succ f ih =>
    intro i p n m hf hm hi hs
    have hi9 : i ≤ 9 := by omega
    by_cases h : m < 128
    · rw [vint_small h] at hs ⊢
      have h0 : s[p]? = some (UInt8.ofNat m) := by simpa using hs 0 (by simp)
      have ht := toNat_ofNat (n := m) (by omega)
      simp only [varGo, h0, ht]
      have c1 : ¬ (i = 9 ∧ 1 < m) := by
        rintro ⟨rfl, h2⟩
        have : 2 * 128 ^ 9 ≤ m * 128 ^ 9 := Nat.mul_le_mul_right _ h2
        omega
      have c2 : ¬ (m = 0 ∧ 0 < i) := by
        rintro ⟨rfl, h2⟩
        exact absurd (hi h2) (by omega)
      rw [if_neg c1, if_pos h, if_neg c2, Nat.mod_eq_of_lt h]
      rfl
    · rw [vint_big h] at hs ⊢
      have h0 : s[p]? = some (UInt8.ofNat (m % 128 + 128)) := by simpa using hs 0 (by simp)
      have ht := toNat_ofNat (n := m % 128 + 128) (by omega)
      simp only [varGo, h0, ht]
      have hpow : 128 ^ (i + 1) = 128 ^ i * 128 := Nat.pow_succ ..
      have hdm : m % 128 + 128 * (m / 128) = m := Nat.mod_add_div m 128
      have hprod : m * 128 ^ i = m % 128 * 128 ^ i + m / 128 * 128 ^ (i + 1) := by
        rw [hpow]
        generalize 128 ^ i = q at *
        have : m / 128 * (q * 128) = (128 * (m / 128)) * q := by rw [Nat.mul_comm q 128, ← Nat.mul_assoc, Nat.mul_comm (m / 128) 128]
        rw [this, ← Nat.add_mul, hdm]
      have c1 : ¬ (i = 9 ∧ 1 < m % 128 + 128) := by
        rintro ⟨rfl, -⟩
        have : 128 * 128 ^ 9 ≤ m * 128 ^ 9 := Nat.mul_le_mul_right _ (by omega)
        omega
      have c2 : ¬ m % 128 + 128 < 128 := by omega
      rw [if_neg c1, if_neg c2, ih (i + 1) (p + 1) _ (m / 128) (by omega) (by omega) (fun _ => by omega) ?_]
      · have : (m % 128 + 128) % 128 = m % 128 := by omega
        rw [this, hprod]
        simp only [List.length_cons, R.ok.injEq]
        omega
      · intro k hk
        have := hs (k + 1) (by simpa using hk)
        simpa [Nat.add_assoc, Nat.add_comm, Nat.add_left_comm] using this

/-- There and back. -/
theorem rdVar_vint (s : List UInt8) (p m : Nat) (hm : m < 2 ^ 64) (hs : ∀ k, k < (vint m).length → s[p + k]? = (vint m)[k]?) : rdVar s p = .ok m (p + (vint m).length) := by
  have := varGo_vint s p 10 0 p 0 m rfl (by simpa using hm) (fun h => absurd h (by omega)) hs
  simpa [rdVar] using this

theorem varGo_only (s : List UInt8) (fr : Nat) : ∀ (f i p n x q : Nat), f + i = 10 → varGo s fr f i p n = .ok x q →
    ∃ m, x = n + m * 128 ^ i ∧ m * 128 ^ i < 2 ^ 64 ∧ (0 < i → 0 < m) ∧ q = p + (vint m).length ∧ q ≤ s.length ∧ ∀ k, k < (vint m).length → s[p + k]? = (vint m)[k]? := by
  intro f
  induction f with
  | zero => intro i p n x q _ h; simp [varGo] at h
  | succ f ih =>
    intro i p n x q hf h
    simp only [varGo] at h
    cases h0 : s[p]? with
    | none => simp [h0] at h
    | some c =>
      simp only [h0] at h
      have hp : p < s.length := by
        rcases Nat.lt_or_ge p s.length with h' | h'
        · exact h'
        · rw [List.getElem?_eq_none h'] at h0; cases h0
      have hc := c.toNat_lt
      have hback : UInt8.ofNat c.toNat = c := by simp
      by_cases c1 : i = 9 ∧ 1 < c.toNat
      · rw [if_pos c1] at h; cases h
      · rw [if_neg c1] at h
        by_cases c2 : c.toNat < 128
        · rw [if_pos c2] at h
          by_cases c3 : c.toNat = 0 ∧ 0 < i
          · rw [if_pos c3] at h; cases h
          · rw [if_neg c3] at h
            injection h with h1 h2
            refine ⟨c.toNat, by rw [← h1, Nat.mod_eq_of_lt c2], ?_, fun hi => ?_, ?_, by omega, ?_⟩
            · rcases Nat.lt_or_ge i 9 with h9 | h9
              · have : 128 ^ i ≤ 128 ^ 8 := Nat.pow_le_pow_right (by omega) (by omega)
                calc c.toNat * 128 ^ i ≤ 127 * 128 ^ 8 := Nat.mul_le_mul (by omega) this
                  _ < 2 ^ 64 := by decide
              · have : i = 9 := by omega
                subst this
                have : c.toNat ≤ 1 := by
                  rcases Nat.lt_or_ge 1 c.toNat with h' | h'
                  · exact absurd ⟨rfl, h'⟩ c1
                  · exact h'
                calc c.toNat * 128 ^ 9 ≤ 1 * 128 ^ 9 := Nat.mul_le_mul_right _ this
                  _ < 2 ^ 64 := by decide
            · rcases Nat.eq_zero_or_pos c.toNat with h' | h'
              · exact absurd ⟨h', hi⟩ c3
              · exact h'
            · rw [vint_small c2]; simpa using h2.symm
            · rw [vint_small c2]
              intro k hk
              have : k = 0 := by simpa using hk
              subst this
              simpa [hback] using h0
        · rw [if_neg c2] at h
          have hi9 : i ≠ 9 := fun hi => c1 ⟨hi, by omega⟩
          obtain ⟨m, hx, hm, hpos, hq, hql, hs⟩ := ih (i + 1) (p + 1) _ x q (by omega) h
          have hm0 := hpos (by omega)
          have hpow : 128 ^ (i + 1) = 128 ^ i * 128 := Nat.pow_succ ..
          have e1 : (c.toNat % 128 + 128 * m) % 128 = c.toNat % 128 := by omega
          have e2 : (c.toNat % 128 + 128 * m) / 128 = m := by omega
          have hv : vint (c.toNat % 128 + 128 * m) = c :: vint m := by
            rw [vint_big (by omega), e1, e2]
            have : c.toNat % 128 + 128 = c.toNat := by omega
            rw [this, hback]
          have hprod : (c.toNat % 128 + 128 * m) * 128 ^ i = c.toNat % 128 * 128 ^ i + m * 128 ^ (i + 1) := by
            rw [hpow, Nat.add_mul]
            congr 1
            rw [Nat.mul_comm 128 m, Nat.mul_assoc, Nat.mul_comm 128]
          refine ⟨c.toNat % 128 + 128 * m, by rw [hx, hprod]; omega, ?_, fun _ => by omega, by rw [hq, hv]; simp; omega, hql, ?_⟩
          · rw [hprod]
            have hk : 128 ^ (i + 1) ∣ 2 ^ 63 ∨ True := Or.inr trivial
            -- m * 128^(i+1) < 2^64 is a multiple of 128^(i+1), which divides 2^63 (i + 1 ≤ 9)
            have hd : ∃ r, 2 ^ 64 = r * 128 ^ (i + 1) := by
              refine ⟨2 ^ (64 - 7 * (i + 1)), ?_⟩
              have : (128 : Nat) ^ (i + 1) = 2 ^ (7 * (i + 1)) := by rw [show (128 : Nat) = 2 ^ 7 from rfl, ← Nat.pow_mul]
              rw [this, ← Nat.pow_add]
              congr 1
              omega
            obtain ⟨r, hr⟩ := hd
            rw [hr] at hm ⊢
            have hmr : m < r := Nat.lt_of_mul_lt_mul_right hm
            have h1 : (m + 1) * 128 ^ (i + 1) ≤ r * 128 ^ (i + 1) := Nat.mul_le_mul_right _ hmr
            rw [Nat.add_mul, Nat.one_mul] at h1
            have h2 : c.toNat % 128 * 128 ^ i < 128 ^ (i + 1) := by
              rw [hpow, Nat.mul_comm (128 ^ i)]
              exact Nat.mul_lt_mul_of_pos_right (by omega) (Nat.pow_pos (by omega))
            omega
          · rw [hv]
            intro k hk
            cases k with
            | zero => simpa using h0
            | succ k =>
              have := hs k (by simpa using hk)
              simpa [Nat.add_assoc, Nat.add_comm, Nat.add_left_comm] using this

/-- Only so. -/
theorem rdVar_only {s : List UInt8} {p x q : Nat} (h : rdVar s p = .ok x q) : x < 2 ^ 64 ∧ q = p + (vint x).length ∧ q ≤ s.length ∧ ∀ k, k < (vint x).length → s[p + k]? = (vint x)[k]? := by
  obtain ⟨m, hx, hm, -, hq, hql, hs⟩ := varGo_only s p 10 0 p 0 x q rfl h
  have : x = m := by simpa using hx
  subst this
  exact ⟨by simpa using hm, hq, hql, hs⟩

theorem vint_pos (n : Nat) : 0 < (vint n).length := by
  by_cases h : n < 128
  · rw [vint_small h]; simp
  · rw [vint_big h]; simp
theorem vint_len : ∀ (k n : Nat), n < 128 ^ k → 0 < k → (vint n).length ≤ k := by
  intro k
  induction k with
  | zero => intro n _ h; omega
  | succ k ih =>
    intro n hn _
    by_cases h : n < 128
    · rw [vint_small h]; simp
    · rw [vint_big h]
      have hk : 0 < k := by
        rcases Nat.eq_zero_or_pos k with rfl | h'
        · simp at hn; omega
        · exact h'
      have := ih (n / 128) (by rw [Nat.pow_succ] at hn; omega) hk
      simpa using this
end Go.Wq
