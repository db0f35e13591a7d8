/- What the plain texts of wire say, one behind the other: shapes, bytes, fields, and what lies in memory. -/
import Std
import Derived.WalkKit
import Derived.Below
import Derived.Laws.AppendOwn
import Derived.Laws.AppendOwnNone
import Derived.Laws.OwnMore
import Derived.Laws.IdiomStrings
import Derived.Lib.AppendStr
import Derived.Lib.EndianBits
import Derived.Lib.QuoteBits
import Derived.ChangeReads
import Derived.SizedLaws
import Derived.OpenShut
section
/- Varints: what they are, and how they are read: there and back, and only so. -/
namespace Go.Wq

/-- What reading comes to: a value and where the next byte is, or an error and where the item begins. -/
inductive R (α : Type) where
  | ok (a : α) (n : Nat)
  | bad (e : Nat) (at_ : Nat)

abbrev eShort : Nat := 42
abbrev eOver : Nat := 43

/-- A number's varint. -/
def vint (n : Nat) : List UInt8 := if n < 128 then [UInt8.ofNat n] else UInt8.ofNat (n % 128 + 128) :: vint (n / 128)
termination_by n
decreasing_by omega

theorem vint_small {n : Nat} (h : n < 128) : vint n = [UInt8.ofNat n] := by rw [vint]; simp [h]
theorem vint_big {n : Nat} (h : ¬ n < 128) : vint n = UInt8.ofNat (n % 128 + 128) :: vint (n / 128) := by rw [vint]; simp [h]

/-- Reading goes on: i bytes are read, n of them. -/
def varGo (s : List UInt8) (fr : Nat) : Nat → Nat → Nat → Nat → R Nat
  | 0, _, _, _ => .bad eOver fr
  | f + 1, i, p, n =>
    match s[p]? with
    | none => .bad eShort fr
    | some c =>
      if i = 9 ∧ 1 < c.toNat then .bad eOver fr
      else if c.toNat < 128 then (if c.toNat = 0 ∧ 0 < i then .bad eOver fr else .ok (n + c.toNat % 128 * 128 ^ i) (p + 1))
      else varGo s fr f (i + 1) (p + 1) (n + c.toNat % 128 * 128 ^ i)
def rdVar (s : List UInt8) (p : Nat) : R Nat := varGo s p 10 0 p 0

theorem toNat_ofNat {n : Nat} (h : n < 256) : (UInt8.ofNat n).toNat = n := by simp [Nat.mod_eq_of_lt h]

theorem varGo_vint (s : List UInt8) (fr : Nat) : ∀ (f i p n m : Nat), f + i = 10 → m * 128 ^ i < 2 ^ 64 → (0 < i → 0 < m) → (∀ k, k < (vint m).length → s[p + k]? = (vint m)[k]?) →
    varGo s fr f i p n = .ok (n + m * 128 ^ i) (p + (vint m).length) := by
  intro f
  induction f with
  | zero =>
    intro i p n m hf hm hi hs
    exfalso
    have : i = 10 := by omega
    subst this
    have h1 := hi (by omega)
    have : 1 * 128 ^ 10 ≤ m * 128 ^ 10 := Nat.mul_le_mul_right _ h1
    omega
  | succ f ih =>
    intro i p n m hf hm hi hs
    have hi9 : i ≤ 9 := by omega
    by_cases h : m < 128
    · rw [vint_small h] at hs ⊢
      have h0 : s[p]? = some (UInt8.ofNat m) := by simpa using hs 0 (by simp)
      have ht := toNat_ofNat (n := m) (by omega)
      simp only [varGo, h0, ht]
      have c1 : ¬ (i = 9 ∧ 1 < m) := by
        rintro ⟨rfl, h2⟩
        have : 2 * 128 ^ 9 ≤ m * 128 ^ 9 := Nat.mul_le_mul_right _ h2
        omega
      have c2 : ¬ (m = 0 ∧ 0 < i) := by
        rintro ⟨rfl, h2⟩
        exact absurd (hi h2) (by omega)
      rw [if_neg c1, if_pos h, if_neg c2, Nat.mod_eq_of_lt h]
      rfl
    · rw [vint_big h] at hs ⊢
      have h0 : s[p]? = some (UInt8.ofNat (m % 128 + 128)) := by simpa using hs 0 (by simp)
      have ht := toNat_ofNat (n := m % 128 + 128) (by omega)
      simp only [varGo, h0, ht]
      have hpow : 128 ^ (i + 1) = 128 ^ i * 128 := Nat.pow_succ ..
      have hdm : m % 128 + 128 * (m / 128) = m := Nat.mod_add_div m 128
      have hprod : m * 128 ^ i = m % 128 * 128 ^ i + m / 128 * 128 ^ (i + 1) := by
        rw [hpow]
        generalize 128 ^ i = q at *
        have : m / 128 * (q * 128) = (128 * (m / 128)) * q := by rw [Nat.mul_comm q 128, ← Nat.mul_assoc, Nat.mul_comm (m / 128) 128]
        rw [this, ← Nat.add_mul, hdm]
      have c1 : ¬ (i = 9 ∧ 1 < m % 128 + 128) := by
        rintro ⟨rfl, -⟩
        have : 128 * 128 ^ 9 ≤ m * 128 ^ 9 := Nat.mul_le_mul_right _ (by omega)
        omega
      have c2 : ¬ m % 128 + 128 < 128 := by omega
      rw [if_neg c1, if_neg c2, ih (i + 1) (p + 1) _ (m / 128) (by omega) (by omega) (fun _ => by omega) ?_]
      · have : (m % 128 + 128) % 128 = m % 128 := by omega
        rw [this, hprod]
        simp only [List.length_cons, R.ok.injEq]
        omega
      · intro k hk
        have := hs (k + 1) (by simpa using hk)
        simpa [Nat.add_assoc, Nat.add_comm, Nat.add_left_comm] using this

/-- There and back. -/
theorem rdVar_vint (s : List UInt8) (p m : Nat) (hm : m < 2 ^ 64) (hs : ∀ k, k < (vint m).length → s[p + k]? = (vint m)[k]?) : rdVar s p = .ok m (p + (vint m).length) := by
  have := varGo_vint s p 10 0 p 0 m rfl (by simpa using hm) (fun h => absurd h (by omega)) hs
  simpa [rdVar] using this

theorem varGo_only (s : List UInt8) (fr : Nat) : ∀ (f i p n x q : Nat), f + i = 10 → varGo s fr f i p n = .ok x q →
    ∃ m, x = n + m * 128 ^ i ∧ m * 128 ^ i < 2 ^ 64 ∧ (0 < i → 0 < m) ∧ q = p + (vint m).length ∧ q ≤ s.length ∧ ∀ k, k < (vint m).length → s[p + k]? = (vint m)[k]? := by
  intro f
  induction f with
  | zero => intro i p n x q _ h; simp [varGo] at h
  | succ f ih =>
    intro i p n x q hf h
    simp only [varGo] at h
    cases h0 : s[p]? with
    | none => simp [h0] at h
    | some c =>
      simp only [h0] at h
      have hp : p < s.length := by
        rcases Nat.lt_or_ge p s.length with h' | h'
        · exact h'
        · rw [List.getElem?_eq_none h'] at h0; cases h0
      have hc := c.toNat_lt
      have hback : UInt8.ofNat c.toNat = c := by simp
      by_cases c1 : i = 9 ∧ 1 < c.toNat
      · rw [if_pos c1] at h; cases h
      · rw [if_neg c1] at h
        by_cases c2 : c.toNat < 128
        · rw [if_pos c2] at h
          by_cases c3 : c.toNat = 0 ∧ 0 < i
          · rw [if_pos c3] at h; cases h
          · rw [if_neg c3] at h
            injection h with h1 h2
            refine ⟨c.toNat, by rw [← h1, Nat.mod_eq_of_lt c2], ?_, fun hi => ?_, ?_, by omega, ?_⟩
            · rcases Nat.lt_or_ge i 9 with h9 | h9
              · have : 128 ^ i ≤ 128 ^ 8 := Nat.pow_le_pow_right (by omega) (by omega)
                calc c.toNat * 128 ^ i ≤ 127 * 128 ^ 8 := Nat.mul_le_mul (by omega) this
                  _ < 2 ^ 64 := by decide
              · have : i = 9 := by omega
                subst this
                have : c.toNat ≤ 1 := by
                  rcases Nat.lt_or_ge 1 c.toNat with h' | h'
                  · exact absurd ⟨rfl, h'⟩ c1
                  · exact h'
                calc c.toNat * 128 ^ 9 ≤ 1 * 128 ^ 9 := Nat.mul_le_mul_right _ this
                  _ < 2 ^ 64 := by decide
            · rcases Nat.eq_zero_or_pos c.toNat with h' | h'
              · exact absurd ⟨h', hi⟩ c3
              · exact h'
            · rw [vint_small c2]; simpa using h2.symm
            · rw [vint_small c2]
              intro k hk
              have : k = 0 := by simpa using hk
              subst this
              simpa [hback] using h0
        · rw [if_neg c2] at h
          have hi9 : i ≠ 9 := fun hi => c1 ⟨hi, by omega⟩
          obtain ⟨m, hx, hm, hpos, hq, hql, hs⟩ := ih (i + 1) (p + 1) _ x q (by omega) h
          have hm0 := hpos (by omega)
          have hpow : 128 ^ (i + 1) = 128 ^ i * 128 := Nat.pow_succ ..
          have e1 : (c.toNat % 128 + 128 * m) % 128 = c.toNat % 128 := by omega
          have e2 : (c.toNat % 128 + 128 * m) / 128 = m := by omega
          have hv : vint (c.toNat % 128 + 128 * m) = c :: vint m := by
            rw [vint_big (by omega), e1, e2]
            have : c.toNat % 128 + 128 = c.toNat := by omega
            rw [this, hback]
          have hprod : (c.toNat % 128 + 128 * m) * 128 ^ i = c.toNat % 128 * 128 ^ i + m * 128 ^ (i + 1) := by
            rw [hpow, Nat.add_mul]
            congr 1
            rw [Nat.mul_comm 128 m, Nat.mul_assoc, Nat.mul_comm 128]
          refine ⟨c.toNat % 128 + 128 * m, by rw [hx, hprod]; omega, ?_, fun _ => by omega, by rw [hq, hv]; simp; omega, hql, ?_⟩
          · rw [hprod]
            have hk : 128 ^ (i + 1) ∣ 2 ^ 63 ∨ True := Or.inr trivial
            -- m * 128^(i+1) < 2^64 is a multiple of 128^(i+1), which divides 2^63 (i + 1 ≤ 9)
            have hd : ∃ r, 2 ^ 64 = r * 128 ^ (i + 1) := by
              refine ⟨2 ^ (64 - 7 * (i + 1)), ?_⟩
              have : (128 : Nat) ^ (i + 1) = 2 ^ (7 * (i + 1)) := by rw [show (128 : Nat) = 2 ^ 7 from rfl, ← Nat.pow_mul]
              rw [this, ← Nat.pow_add]
              congr 1
              omega
            obtain ⟨r, hr⟩ := hd
            rw [hr] at hm ⊢
            have hmr : m < r := Nat.lt_of_mul_lt_mul_right hm
            have h1 : (m + 1) * 128 ^ (i + 1) ≤ r * 128 ^ (i + 1) := Nat.mul_le_mul_right _ hmr
            rw [Nat.add_mul, Nat.one_mul] at h1
            have h2 : c.toNat % 128 * 128 ^ i < 128 ^ (i + 1) := by
              rw [hpow, Nat.mul_comm (128 ^ i)]
              exact Nat.mul_lt_mul_of_pos_right (by omega) (Nat.pow_pos (by omega))
            omega
          · rw [hv]
            intro k hk
            cases k with
            | zero => simpa using h0
            | succ k =>
              have := hs k (by simpa using hk)
              simpa [Nat.add_assoc, Nat.add_comm, Nat.add_left_comm] using this

/-- Only so. -/
theorem rdVar_only {s : List UInt8} {p x q : Nat} (h : rdVar s p = .ok x q) : x < 2 ^ 64 ∧ q = p + (vint x).length ∧ q ≤ s.length ∧ ∀ k, k < (vint x).length → s[p + k]? = (vint x)[k]? := by
  obtain ⟨m, hx, hm, -, hq, hql, hs⟩ := varGo_only s p 10 0 p 0 x q rfl h
  have : x = m := by simpa using hx
  subst this
  exact ⟨by simpa using hm, hq, hql, hs⟩

theorem vint_pos (n : Nat) : 0 < (vint n).length := by
  by_cases h : n < 128
  · rw [vint_small h]; simp
  · rw [vint_big h]; simp
theorem vint_len : ∀ (k n : Nat), n < 128 ^ k → 0 < k → (vint n).length ≤ k := by
  intro k
  induction k with
  | zero => intro n _ h; omega
  | succ k ih =>
    intro n hn _
    by_cases h : n < 128
    · rw [vint_small h]; simp
    · rw [vint_big h]
      have hk : 0 < k := by
        rcases Nat.eq_zero_or_pos k with rfl | h'
        · simp at hn; omega
        · exact h'
      have := ih (n / 128) (by rw [Nat.pow_succ] at hn; omega) hk
      simpa using this
end Go.Wq
end

section
/- Fields as bytes, by shapes: what they are; there and back, and only so; unlike fields, unlike bytes. -/
namespace Go.Wq

/-- An item of a shape: a letter (u i f b t), or a list of items. -/
inductive It where
  | u | i | f | b | t
  | l (its : List It)

/-- A field: its parts. -/
inductive Fld where
  | mk (u : Nat) (i : Int) (f : Nat) (b : Bool) (t : List UInt8) (l : List (List Fld))
namespace Fld
def U : Fld → Nat | mk u _ _ _ _ _ => u
def I : Fld → Int | mk _ i _ _ _ _ => i
def F : Fld → Nat | mk _ _ f _ _ _ => f
def B : Fld → Bool | mk _ _ _ b _ _ => b
def T : Fld → List UInt8 | mk _ _ _ _ t _ => t
def L : Fld → List (List Fld) | mk _ _ _ _ _ l => l
end Fld

def zeroBut (c : Char) (x : Fld) : Bool :=
  (c == 'u' || x.U == 0) && (c == 'i' || x.I == 0) && (c == 'f' || x.F == 0) && (c == 'b' || !x.B) && (c == 't' || x.T.isEmpty) && (c == 'l' || x.L.isEmpty)
def It.letter : It → Char
  | .u => 'u' | .i => 'i' | .f => 'f' | .b => 'b' | .t => 't' | .l _ => 'l'

/-- A whole number's number: 2 I, or, below 0, -2 I - 1. -/
def zig (i : Int) : Nat := if i < 0 then (-2 * i - 1).toNat else (2 * i).toNat
def zag (n : Nat) : Int := if n % 2 = 1 then -((n / 2 : Nat) : Int) - 1 else ((n / 2 : Nat) : Int)
theorem zag_zig (i : Int) : zag (zig i) = i := by
  unfold zig zag
  split <;> split <;> omega
theorem zig_zag (n : Nat) : zig (zag n) = n := by
  unfold zig zag
  split <;> split <;> omega
theorem zig_lt {i : Int} (h0 : -9223372036854775808 ≤ i) (h1 : i ≤ 9223372036854775807) : zig i < 2 ^ 64 := by unfold zig; split <;> omega
theorem zag_range {n : Nat} (h : n < 2 ^ 64) : -9223372036854775808 ≤ zag n ∧ zag n ≤ 9223372036854775807 := by unfold zag; split <;> omega

/-- The low k bytes of a number, the highest first. -/
def bytesOf : Nat → Nat → List UInt8
  | 0, _ => []
  | k + 1, n => UInt8.ofNat (n / 256 ^ k % 256) :: bytesOf k n
def numOf : List UInt8 → Nat → Nat
  | [], n => n
  | c :: r, n => numOf r (n * 256 + c.toNat)
theorem bytesOf_length (k n : Nat) : (bytesOf k n).length = k := by induction k with
  | zero => rfl
  | succ k ih => simp [bytesOf, ih]
theorem numOf_bytesOf : ∀ (k n m : Nat), numOf (bytesOf k n) m = m * 256 ^ k + n % 256 ^ k := by
  intro k
  induction k with
  | zero => intro n m; simp [bytesOf, numOf, Nat.mod_one]
  | succ k ih =>
    intro n m
    rw [bytesOf, numOf, ih, toNat_ofNat (Nat.mod_lt _ (by omega)), Nat.pow_succ]
    have h1 : n % (256 ^ k * 256) = n % 256 ^ k + 256 ^ k * (n / 256 ^ k % 256) := Nat.mod_mul
    rw [h1, Nat.add_mul, Nat.mul_assoc m, Nat.mul_comm 256, Nat.mul_comm (256 ^ k) (n / 256 ^ k % 256)]
    omega
theorem bytesOf_numOf : ∀ (l : List UInt8) (m : Nat), bytesOf l.length (numOf l m) = l ∧ numOf l m = m * 256 ^ l.length + numOf l m % 256 ^ l.length := by
  intro l
  induction l with
  | nil => intro m; simp [bytesOf, numOf, Nat.mod_one]
  | cons c r ih =>
    intro m
    obtain ⟨h1, h2⟩ := ih (m * 256 + c.toNat)
    have hc := c.toNat_lt
    simp only [numOf, List.length_cons, bytesOf]
    generalize hN : numOf r (m * 256 + c.toNat) = N at *
    have hq : N / 256 ^ r.length = m * 256 + c.toNat := by
      rw [h2, Nat.mul_comm, Nat.mul_add_div (Nat.pow_pos (by omega)), Nat.div_eq_of_lt (Nat.mod_lt _ (Nat.pow_pos (by omega)))]
      omega
    refine ⟨?_, ?_⟩
    · rw [hq, h1]
      have : (m * 256 + c.toNat) % 256 = c.toNat := by omega
      rw [this]; simp
    · have hm : N % 256 ^ (r.length + 1) = N % 256 ^ r.length + 256 ^ r.length * (N / 256 ^ r.length % 256) := by rw [Nat.pow_succ]; exact Nat.mod_mul
      have hm2 : (m * 256 + c.toNat) % 256 = c.toNat := by omega
      rw [hm, hq, hm2, Nat.pow_succ]
      have e : m * (256 ^ r.length * 256) + 256 ^ r.length * c.toNat = (m * 256 + c.toNat) * 256 ^ r.length := by
        rw [Nat.add_mul, Nat.mul_comm (256 ^ r.length) 256, ← Nat.mul_assoc, Nat.mul_comm (256 ^ r.length)]
      omega

/-- Many encodings, one behind the other; none where one is none. -/
def rows (g : List Fld → Option (List UInt8)) : List (List Fld) → Option (List UInt8)
  | [] => some []
  | x :: r => match g x, rows g r with | some a, some b => some (a ++ b) | _, _ => none

mutual
/-- An item's bytes: none, if a part that counts not is not zero, or a list's fields are not as they must be. -/
def encOne : It → Fld → Option (List UInt8)
  | .u, x => if zeroBut 'u' x then some (vint x.U) else none
  | .i, x => if zeroBut 'i' x then some (vint (zig x.I)) else none
  | .f, x => if zeroBut 'f' x then some (bytesOf 8 x.F) else none
  | .b, x => if zeroBut 'b' x then some [if x.B then 1 else 0] else none
  | .t, x => if zeroBut 't' x then some (vint x.T.length ++ x.T) else none
  | .l its, x => if zeroBut 'l' x then (match rows (fun r => encAll its r) x.L with | some a => some (vint x.L.length ++ a) | none => none) else none
def encAll : List It → List Fld → Option (List UInt8)
  | [], [] => some []
  | it :: its, x :: r => match encOne it x, encAll its r with | some a, some b => some (a ++ b) | _, _ => none
  | _, _ => none
end

/-- So many readings, one behind the other. -/
def rdRows (g : Nat → R (List Fld)) : Nat → Nat → R (List (List Fld))
  | 0, p => .ok [] p
  | n + 1, p => match g p with
    | .bad e q => .bad e q
    | .ok x q => match rdRows g n q with
      | .bad e q' => .bad e q'
      | .ok r q' => .ok (x :: r) q'

mutual
def rdOne (s : List UInt8) : It → Nat → R Fld
  | .u, p => match rdVar s p with | .ok n q => .ok (.mk n 0 0 false [] []) q | .bad e q => .bad e q
  | .i, p => match rdVar s p with | .ok n q => .ok (.mk 0 (zag n) 0 false [] []) q | .bad e q => .bad e q
  | .f, p => if s.length < p + 8 then .bad eShort p else .ok (.mk 0 0 (numOf ((s.drop p).take 8) 0) false [] []) (p + 8)
  | .b, p => match s[p]? with | none => .bad eShort p | some c => if 1 < c.toNat then .bad eOver p else .ok (.mk 0 0 0 (c.toNat == 1) [] []) (p + 1)
  | .t, p => match rdVar s p with
    | .ok n q => if s.length < q + n then .bad eShort p else .ok (.mk 0 0 0 false ((s.drop q).take n) []) (q + n)
    | .bad e q => .bad e q
  | .l its, p => match rdVar s p with
    | .ok n q => (match rdRows (fun p => rdAll s its p) n q with | .ok rs q' => .ok (.mk 0 0 0 false [] rs) q' | .bad e q' => .bad e q')
    | .bad e q => .bad e q
def rdAll (s : List UInt8) : List It → Nat → R (List Fld)
  | [], p => .ok [] p
  | it :: its, p => match rdOne s it p with
    | .bad e q => .bad e q
    | .ok x q => match rdAll s its q with
      | .bad e q' => .bad e q'
      | .ok r q' => .ok (x :: r) q'
end

/-- What a field's parts may be: as Go's types have them. -/
inductive Fld.Ok : Fld → Prop where
  | mk {u : Nat} {i : Int} {f : Nat} {b : Bool} {t : List UInt8} {l : List (List Fld)} (hu : u < 2 ^ 64) (h0 : -9223372036854775808 ≤ i) (h1 : i ≤ 9223372036854775807) (hf : f < 2 ^ 64) (ht : t.length < 2 ^ 63) (hn : l.length < 2 ^ 63)
      (hl : ∀ r ∈ l, ∀ x ∈ r, Fld.Ok x) : Fld.Ok (.mk u i f b t l)

/-- These bytes stand at a place. -/
def At (s : List UInt8) (p : Nat) (a : List UInt8) : Prop := ∀ k, k < a.length → s[p + k]? = a[k]?
theorem At.left {s : List UInt8} {p : Nat} {a b : List UInt8} (h : At s p (a ++ b)) : At s p a := fun k hk => by
  rw [h k (by simp; omega), List.getElem?_append_left hk]
theorem At.right {s : List UInt8} {p : Nat} {a b : List UInt8} (h : At s p (a ++ b)) : At s (p + a.length) b := fun k hk => by
  have := h (a.length + k) (by simp; omega)
  rw [List.getElem?_append_right (by omega)] at this
  simpa [Nat.add_assoc] using this
theorem At.join {s : List UInt8} {p : Nat} {a b : List UInt8} (h : At s p a) (g : At s (p + a.length) b) : At s p (a ++ b) := fun k hk => by
  by_cases hk' : k < a.length
  · rw [List.getElem?_append_left hk']; exact h k hk'
  · rw [List.getElem?_append_right (by omega)]
    have := g (k - a.length) (by simp at hk; omega)
    rw [← this]
    congr 1
    omega
theorem At.nil (s : List UInt8) (p : Nat) : At s p [] := fun k hk => by simp at hk
theorem At.fits {s : List UInt8} {p : Nat} {a : List UInt8} (h : At s p a) (ha : a ≠ []) : p + a.length ≤ s.length := by
  have hpos : 0 < a.length := List.length_pos_iff.2 ha
  have := h (a.length - 1) (by omega)
  rw [List.getElem?_eq_getElem (l := a) (by omega)] at this
  rcases Nat.lt_or_ge (p + (a.length - 1)) s.length with h' | h'
  · omega
  · rw [List.getElem?_eq_none h'] at this; cases this
theorem At.take {s : List UInt8} {p : Nat} {a : List UInt8} (h : At s p a) : (s.drop p).take a.length = a := by
  apply List.ext_getElem?
  intro k
  by_cases hk : k < a.length
  · rw [List.getElem?_take, if_pos hk, List.getElem?_drop]; exact h k hk
  · rw [List.getElem?_take, if_neg hk, List.getElem?_eq_none (by omega)]
theorem At.of_take {s : List UInt8} {p n : Nat} : At s p ((s.drop p).take n) := fun k hk => by
  have hk' : k < n := by simp at hk; omega
  rw [List.getElem?_take, if_pos hk', List.getElem?_drop]
end Go.Wq
end

section
/- There and back; only so. -/
namespace Go.Wq

theorem only_u {x : Fld} (h : zeroBut 'u' x = true) : x = .mk x.U 0 0 false [] [] := by
  obtain ⟨u, i, f, b, t, l⟩ := x
  simp [zeroBut, Fld.U, Fld.I, Fld.F, Fld.B, Fld.T, Fld.L] at h ⊢
  simp [h]
theorem only_i {x : Fld} (h : zeroBut 'i' x = true) : x = .mk 0 x.I 0 false [] [] := by
  obtain ⟨u, i, f, b, t, l⟩ := x
  simp [zeroBut, Fld.U, Fld.I, Fld.F, Fld.B, Fld.T, Fld.L] at h ⊢
  simp [h]
theorem only_f {x : Fld} (h : zeroBut 'f' x = true) : x = .mk 0 0 x.F false [] [] := by
  obtain ⟨u, i, f, b, t, l⟩ := x
  simp [zeroBut, Fld.U, Fld.I, Fld.F, Fld.B, Fld.T, Fld.L] at h ⊢
  simp [h]
theorem only_b {x : Fld} (h : zeroBut 'b' x = true) : x = .mk 0 0 0 x.B [] [] := by
  obtain ⟨u, i, f, b, t, l⟩ := x
  simp [zeroBut, Fld.U, Fld.I, Fld.F, Fld.B, Fld.T, Fld.L] at h ⊢
  simp [h]
theorem only_t {x : Fld} (h : zeroBut 't' x = true) : x = .mk 0 0 0 false x.T [] := by
  obtain ⟨u, i, f, b, t, l⟩ := x
  simp [zeroBut, Fld.U, Fld.I, Fld.F, Fld.B, Fld.T, Fld.L] at h ⊢
  simp [h]
theorem only_l {x : Fld} (h : zeroBut 'l' x = true) : x = .mk 0 0 0 false [] x.L := by
  obtain ⟨u, i, f, b, t, l⟩ := x
  simp [zeroBut, Fld.U, Fld.I, Fld.F, Fld.B, Fld.T, Fld.L] at h ⊢
  simp [h]

theorem Fld.Ok.hu {x : Fld} (h : x.Ok) : x.U < 2 ^ 64 := by cases h; assumption
theorem Fld.Ok.h0 {x : Fld} (h : x.Ok) : -9223372036854775808 ≤ x.I := by cases h; assumption
theorem Fld.Ok.h1 {x : Fld} (h : x.Ok) : x.I ≤ 9223372036854775807 := by cases h; assumption
theorem Fld.Ok.hf {x : Fld} (h : x.Ok) : x.F < 2 ^ 64 := by cases h; assumption
theorem Fld.Ok.ht {x : Fld} (h : x.Ok) : x.T.length < 2 ^ 63 := by cases h; assumption
theorem Fld.Ok.hn {x : Fld} (h : x.Ok) : x.L.length < 2 ^ 63 := by cases h; assumption
theorem Fld.Ok.hl {x : Fld} (h : x.Ok) : ∀ r ∈ x.L, ∀ y ∈ r, y.Ok := by cases h; assumption

theorem rows_back {s : List UInt8} {enc : List Fld → Option (List UInt8)} {rd : Nat → R (List Fld)}
    (hb : ∀ x a p, enc x = some a → (∀ y ∈ x, y.Ok) → At s p a → rd p = .ok x (p + a.length)) :
    ∀ (l : List (List Fld)) (a : List UInt8) (p : Nat), rows enc l = some a → (∀ x ∈ l, ∀ y ∈ x, y.Ok) → At s p a → rdRows rd l.length p = .ok l (p + a.length) := by
  intro l
  induction l with
  | nil => intro a p h _ _; simp [rows] at h; subst h; simp [rdRows]
  | cons x r ih =>
    intro a p h hok hs
    simp only [rows] at h
    split at h
    · rename_i a1 a2 h1 h2
      injection h with h
      subst h
      have e1 := hb x a1 p h1 (hok x (List.mem_cons_self ..)) hs.left
      have e2 := ih a2 (p + a1.length) h2 (fun y hy => hok y (List.mem_cons_of_mem _ hy)) hs.right
      simp only [List.length_cons, rdRows, e1, e2, List.length_append]
      congr 1
      omega
    · cases h

mutual
theorem back_one (s : List UInt8) : ∀ (it : It) (x : Fld) (a : List UInt8) (p : Nat), encOne it x = some a → x.Ok → At s p a → rdOne s it p = .ok x (p + a.length)
  | .u, x, a, p, h, hx, hs => by
    simp only [encOne] at h
    split at h
    · rename_i hz
      injection h with h
      subst h
      rw [rdOne, rdVar_vint s p _ hx.hu hs]
      exact congrArg (fun y => R.ok y _) (only_u hz).symm
    · cases h
  | .i, x, a, p, h, hx, hs => by
    simp only [encOne] at h
    split at h
    · rename_i hz
      injection h with h
      subst h
      rw [rdOne, rdVar_vint s p _ (zig_lt hx.h0 hx.h1) hs]
      exact congrArg (fun y => R.ok y _) ((congrArg (fun n => Fld.mk 0 n 0 false [] []) (zag_zig _)).trans (only_i hz).symm)
    · cases h
  | .f, x, a, p, h, hx, hs => by
    simp only [encOne] at h
    split at h
    · rename_i hz
      injection h with h
      subst h
      have hl := hs.fits (by simp [bytesOf])
      have ht := hs.take
      rw [bytesOf_length] at hl ht ⊢
      rw [rdOne, if_neg (by omega), ht, numOf_bytesOf, Nat.zero_mul, Nat.zero_add, Nat.mod_eq_of_lt hx.hf]
      exact congrArg (fun y => R.ok y _) (only_f hz).symm
    · cases h
  | .b, x, a, p, h, hx, hs => by
    simp only [encOne] at h
    split at h
    · rename_i hz
      injection h with h
      subst h
      have h0 := hs 0 (by simp)
      simp only [Nat.add_zero, List.getElem?_cons_zero] at h0
      rw [rdOne, h0]
      have e : (if x.B = true then (1 : UInt8) else 0).toNat = if x.B = true then 1 else 0 := by split <;> rfl
      simp only [e]
      rw [if_neg (by split <;> omega)]
      have e2 : ((if x.B = true then 1 else 0 : Nat) == 1) = x.B := by cases x.B <;> rfl
      rw [e2]
      exact congrArg (fun y => R.ok y _) (only_b hz).symm
    · cases h
  | .t, x, a, p, h, hx, hs => by
    simp only [encOne] at h
    split at h
    · rename_i hz
      injection h with h
      subst h
      rw [rdOne, rdVar_vint s p _ (Nat.lt_trans hx.ht (by decide)) hs.left]
      have hr := hs.right
      have hne : vint x.T.length ++ x.T ≠ [] := by
        intro e
        have h1 := congrArg List.length e
        have h2 := vint_pos x.T.length
        rw [List.length_append, List.length_nil] at h1
        omega
      have hfit := hs.fits hne
      rw [List.length_append, ← Nat.add_assoc] at hfit
      simp only []
      rw [if_neg (by omega), hr.take, List.length_append, ← Nat.add_assoc]
      exact congrArg (fun y => R.ok y _) (only_t hz).symm
    · cases h
  | .l its, x, a, p, h, hx, hs => by
    simp only [encOne] at h
    split at h
    · rename_i hz
      split at h
      · rename_i a2 h2
        injection h with h
        subst h
        rw [rdOne, rdVar_vint s p _ (Nat.lt_trans hx.hn (by decide)) hs.left]
        simp only []
        rw [rows_back (fun x a p h1 h2 h3 => back_all s its x a p h1 h2 h3) _ a2 _ h2 hx.hl hs.right]
        simp only [List.length_append, ← Nat.add_assoc]
        exact congrArg (fun y => R.ok y _) (only_l hz).symm
      · cases h
    · cases h
theorem back_all (s : List UInt8) : ∀ (its : List It) (l : List Fld) (a : List UInt8) (p : Nat), encAll its l = some a → (∀ x ∈ l, x.Ok) → At s p a → rdAll s its p = .ok l (p + a.length)
  | [], [], a, p, h, _, _ => by simp only [encAll] at h; injection h with h; subst h; simp [rdAll]
  | [], _ :: _, a, p, h, _, _ => by simp [encAll] at h
  | _ :: _, [], a, p, h, _, _ => by simp [encAll] at h
  | it :: its, x :: r, a, p, h, hx, hs => by
    simp only [encAll] at h
    split at h
    · rename_i a1 a2 h1 h2
      injection h with h
      subst h
      have e1 := back_one s it x a1 p h1 (hx x (List.mem_cons_self ..)) hs.left
      have e2 := back_all s its r a2 (p + a1.length) h2 (fun y hy => hx y (List.mem_cons_of_mem _ hy)) hs.right
      simp only [rdAll, e1, e2, List.length_append]
      congr 1
      omega
    · cases h
end
end Go.Wq
end

section
/- What is read is what is written: only so. Unlike fields have unlike bytes. -/
namespace Go.Wq

/-- A list's items are one at least. -/
inductive It.Ok : It → Prop where
  | u : It.Ok .u
  | i : It.Ok .i
  | f : It.Ok .f
  | b : It.Ok .b
  | t : It.Ok .t
  | l {its : List It} (h : its ≠ []) (g : ∀ x ∈ its, It.Ok x) : It.Ok (.l its)

theorem enc_pos {it : It} {x : Fld} {a : List UInt8} (h : encOne it x = some a) : 0 < a.length := by
  have hv := fun n => vint_pos n
  cases it <;> simp only [encOne] at h <;> split at h <;> try (cases h; done)
  · injection h with h; subst h; exact hv _
  · injection h with h; subst h; exact hv _
  · injection h with h; subst h; rw [bytesOf_length]; omega
  · injection h with h; subst h; simp
  · injection h with h; subst h; have := hv x.T.length; simp; omega
  · split at h
    · injection h with h; subst h; have := hv x.L.length; simp; omega
    · cases h
theorem encAll_pos {its : List It} {l : List Fld} {a : List UInt8} (hne : its ≠ []) (h : encAll its l = some a) : 0 < a.length := by
  cases its with
  | nil => exact absurd rfl hne
  | cons it its =>
    cases l with
    | nil => simp [encAll] at h
    | cons x r =>
      simp only [encAll] at h
      split at h
      · rename_i a1 a2 h1 h2
        injection h with h
        subst h
        have := enc_pos h1
        simp; omega
      · cases h

theorem rows_pos {enc : List Fld → Option (List UInt8)} (hp : ∀ x a, enc x = some a → 0 < a.length) : ∀ (l : List (List Fld)) (a : List UInt8), rows enc l = some a → l.length ≤ a.length := by
  intro l
  induction l with
  | nil => intro a _; simp
  | cons x r ih =>
    intro a h
    simp only [rows] at h
    split at h
    · rename_i a1 a2 h1 h2
      injection h with h
      subst h
      have := hp x a1 h1
      have := ih a2 h2
      simp; omega
    · cases h

theorem rows_only {s : List UInt8} {enc : List Fld → Option (List UInt8)} {rd : Nat → R (List Fld)}
    (hb : ∀ x p q, rd p = .ok x q → ∃ a, enc x = some a ∧ (∀ y ∈ x, y.Ok) ∧ At s p a ∧ q = p + a.length) :
    ∀ (n p : Nat) (l : List (List Fld)) (q : Nat), rdRows rd n p = .ok l q → l.length = n ∧ ∃ a, rows enc l = some a ∧ (∀ x ∈ l, ∀ y ∈ x, y.Ok) ∧ At s p a ∧ q = p + a.length := by
  intro n
  induction n with
  | zero =>
    intro p l q h
    simp only [rdRows] at h
    injection h with h1 h2
    subst h1; subst h2
    exact ⟨rfl, [], rfl, by simp, At.nil s _, rfl⟩
  | succ n ih =>
    intro p l q h
    simp only [rdRows] at h
    cases hg : rd p with
    | bad e q' => simp [hg] at h
    | ok x q1 =>
      simp only [hg] at h
      cases hr : rdRows rd n q1 with
      | bad e q' => simp [hr] at h
      | ok r q2 =>
        simp only [hr] at h
        injection h with h1 h2
        subst h1; subst h2
        obtain ⟨a1, e1, o1, s1, rfl⟩ := hb x p q1 hg
        obtain ⟨hl, a2, e2, o2, s2, rfl⟩ := ih _ r q2 hr
        refine ⟨by simp [hl], a1 ++ a2, by simp only [rows, e1, e2], ?_, s1.join s2, by simp; omega⟩
        intro y hy
        rcases List.mem_cons.1 hy with rfl | hy
        · exact o1
        · exact o2 y hy

mutual
theorem only_one (s : List UInt8) (hs : s.length < 2 ^ 63) : ∀ (it : It) (_ : it.Ok) (x : Fld) (p q : Nat), rdOne s it p = .ok x q → ∃ a, encOne it x = some a ∧ x.Ok ∧ At s p a ∧ q = p + a.length
  | .u, _, x, p, q, h => by
    simp only [rdOne] at h
    split at h
    · rename_i n q' hr
      injection h with h1 h2
      subst h1; subst h2
      obtain ⟨hn, hq, hl, hat⟩ := rdVar_only hr
      exact ⟨vint n, by simp [encOne, zeroBut, Fld.U, Fld.I, Fld.F, Fld.B, Fld.T, Fld.L], .mk hn (by omega) (by omega) (by omega) (by simp) (by simp) (by simp), hat, hq⟩
    · cases h
  | .i, _, x, p, q, h => by
    simp only [rdOne] at h
    split at h
    · rename_i n q' hr
      injection h with h1 h2
      subst h1; subst h2
      obtain ⟨hn, hq, hl, hat⟩ := rdVar_only hr
      obtain ⟨z0, z1⟩ := zag_range hn
      exact ⟨vint n, by simp [encOne, zeroBut, Fld.U, Fld.I, Fld.F, Fld.B, Fld.T, Fld.L, zig_zag], .mk (by omega) z0 z1 (by omega) (by simp) (by simp) (by simp), hat, hq⟩
    · cases h
  | .f, _, x, p, q, h => by
    simp only [rdOne] at h
    split at h
    · cases h
    · rename_i hlt
      injection h with h1 h2
      subst h1; subst h2
      have hlen : ((s.drop p).take 8).length = 8 := by simp; omega
      obtain ⟨b1, b2⟩ := bytesOf_numOf ((s.drop p).take 8) 0
      rw [hlen] at b1 b2
      refine ⟨(s.drop p).take 8, ?_, .mk (by omega) (by omega) (by omega) ?_ (by simp) (by simp) (by simp), At.of_take, by rw [hlen]⟩
      · have hz : zeroBut 'f' (Fld.mk 0 0 (numOf ((s.drop p).take 8) 0) false [] []) = true := by simp [zeroBut, Fld.U, Fld.I, Fld.B, Fld.T, Fld.L]
        simp only [encOne, hz, if_true]
        exact congrArg some b1
      · rw [Nat.zero_mul, Nat.zero_add] at b2
        rw [b2]
        exact Nat.mod_lt _ (by decide)
  | .b, _, x, p, q, h => by
    simp only [rdOne] at h
    split at h
    · cases h
    · rename_i c hc
      split at h
      · cases h
      · rename_i hle
        injection h with h1 h2
        subst h1; subst h2
        refine ⟨[c], ?_, .mk (by omega) (by omega) (by omega) (by omega) (by simp) (by simp) (by simp), ?_, rfl⟩
        · have hz : zeroBut 'b' (Fld.mk 0 0 0 (c.toNat == 1) [] []) = true := by simp [zeroBut, Fld.U, Fld.I, Fld.F, Fld.T, Fld.L]
          simp only [encOne, hz, if_true, Fld.B]
          congr 1
          have : c.toNat = 0 ∨ c.toNat = 1 := by omega
          have hback : UInt8.ofNat c.toNat = c := by simp
          rcases this with h0 | h0 <;> rw [h0] at hback <;> rw [h0] <;> rw [← hback] <;> rfl
        · intro k hk
          have : k = 0 := by simpa using hk
          subst this
          simpa using hc
  | .t, _, x, p, q, h => by
    simp only [rdOne] at h
    split at h
    · rename_i n q' hr
      split at h
      · cases h
      · rename_i hle
        injection h with h1 h2
        subst h1; subst h2
        obtain ⟨hn, hq, hl, hat⟩ := rdVar_only hr
        have hlen : ((s.drop q').take n).length = n := by simp; omega
        refine ⟨vint n ++ (s.drop q').take n, ?_, .mk (by omega) (by omega) (by omega) (by omega) (by omega) (by simp) (by simp), ?_, ?_⟩
        · simp [encOne, zeroBut, Fld.U, Fld.I, Fld.F, Fld.B, Fld.T, Fld.L]
          have : min n (s.length - q') = n := by omega
          rw [this]
        · subst hq
          exact At.join hat At.of_take
        · rw [List.length_append, hlen, hq]; omega
    · cases h
  | .l its, hok, x, p, q, h => by
    simp only [rdOne] at h
    obtain ⟨hne, hg⟩ : its ≠ [] ∧ ∀ y ∈ its, y.Ok := by cases hok; exact ⟨by assumption, by assumption⟩
    split at h
    · rename_i n q' hr
      split at h
      · rename_i rs q2 hrs
        injection h with h1 h2
        subst h1; subst h2
        obtain ⟨hn, hq, hl, hat⟩ := rdVar_only hr
        obtain ⟨hlen, a2, e2, o2, s2, rfl⟩ := rows_only (fun x p q h => only_all s hs its hg x p q h) n q' rs q2 hrs
        have hle := rows_pos (fun x a h => encAll_pos hne h) rs a2 e2
        have hfit : rs.length < 2 ^ 63 := by
          by_cases ha : a2 = []
          · subst ha; simp at hle; rw [hle]; decide
          · have := s2.fits ha; omega
        refine ⟨vint n ++ a2, ?_, .mk (by omega) (by omega) (by omega) (by omega) (by simp) hfit o2, ?_, by simp; omega⟩
        · have hz : zeroBut 'l' (Fld.mk 0 0 0 false [] rs) = true := by simp [zeroBut, Fld.U, Fld.I, Fld.F, Fld.B, Fld.T]
          simp only [encOne, hz, if_true, Fld.L]
          rw [e2, hlen]
        · subst hq
          exact At.join hat s2
      · cases h
    · cases h
theorem only_all (s : List UInt8) (hs : s.length < 2 ^ 63) : ∀ (its : List It) (_ : ∀ y ∈ its, y.Ok) (l : List Fld) (p q : Nat), rdAll s its p = .ok l q → ∃ a, encAll its l = some a ∧ (∀ x ∈ l, x.Ok) ∧ At s p a ∧ q = p + a.length
  | [], _, l, p, q, h => by
    simp only [rdAll] at h
    injection h with h1 h2
    subst h1; subst h2
    exact ⟨[], by simp [encAll], by simp, At.nil s _, rfl⟩
  | it :: its, hok, l, p, q, h => by
    simp only [rdAll] at h
    split at h
    · cases h
    · rename_i x q1 h1
      split at h
      · cases h
      · rename_i r q2 h2
        injection h with e1 e2
        subst e1; subst e2
        obtain ⟨a1, g1, o1, s1, rfl⟩ := only_one s hs it (hok it (List.mem_cons_self ..)) x p q1 h1
        obtain ⟨a2, g2, o2, s2, rfl⟩ := only_all s hs its (fun y hy => hok y (List.mem_cons_of_mem _ hy)) r _ q2 h2
        refine ⟨a1 ++ a2, by simp only [encAll, g1, g2], ?_, s1.join s2, by simp; omega⟩
        intro y hy
        rcases List.mem_cons.1 hy with rfl | hy
        · exact o1
        · exact o2 y hy
end

theorem At.self (a b : List UInt8) : At (a ++ b) 0 a := fun k hk => by rw [Nat.zero_add, List.getElem?_append_left hk]

/-- Unlike fields have unlike bytes. -/
theorem enc_inj {its : List It} {l m : List Fld} {a : List UInt8} (hl : ∀ x ∈ l, x.Ok) (hm : ∀ x ∈ m, x.Ok) (h1 : encAll its l = some a) (h2 : encAll its m = some a) : l = m := by
  have e1 := back_all a its l a 0 h1 hl (by simpa using At.self a [])
  have e2 := back_all a its m a 0 h2 hm (by simpa using At.self a [])
  rw [e1] at e2
  injection e2

/-- Two shapes' bytes, one behind the other, are those of the shapes joined. -/
theorem enc_join : ∀ (its its' : List It) (l m : List Fld) (a b : List UInt8), encAll its l = some a → encAll its' m = some b → encAll (its ++ its') (l ++ m) = some (a ++ b) := by
  intro its
  induction its with
  | nil =>
    intro its' l m a b h1 h2
    cases l with
    | nil => simp only [encAll] at h1; injection h1 with h1; subst h1; simpa using h2
    | cons x r => simp [encAll] at h1
  | cons it its ih =>
    intro its' l m a b h1 h2
    cases l with
    | nil => simp [encAll] at h1
    | cons x r =>
      simp only [encAll] at h1
      split at h1
      · rename_i a1 a2 g1 g2
        injection h1 with h1
        subst h1
        have := ih its' r m a2 b g2 h2
        simp only [List.cons_append, encAll, g1, this, List.append_assoc]
      · cases h1
end Go.Wq
end

section
/- Shapes: texts as items. -/
namespace Go.Wq

def letter (c : UInt8) : Option It :=
  if c = 117 then some .u else if c = 105 then some .i else if c = 102 then some .f else if c = 98 then some .b else if c = 116 then some .t else none

/-- The items of a text up to its end or a parenthesis, and what is left: none, if there are none. (With fuel: one more than the text is long is enough.) -/
def parse : Nat → Nat → List UInt8 → Option (List It × List UInt8)
  | 0, _, _ => none
  | _ + 1, _, [] => some ([], [])
  | n + 1, deep, c :: r =>
    if c = 41 then some ([], c :: r)
    else match letter c with
      | some it => (match parse n deep r with | some (l, q) => some (it :: l, q) | none => none)
      | none =>
        if c = 40 then
          (match parse n (deep + 1) r with
            | some (inn, _ :: q) => if inn = [] ∨ 8 < deep + 1 then none else (match parse n deep q with | some (l, q') => some (.l inn :: l, q') | none => none)
            | _ => none)
        else none

/-- A text's items, if it is a shape. -/
def shape (s : List UInt8) : Option (List It) :=
  if 256 < s.length then none else match parse (s.length + 1) 0 s with | some (l, []) => some l | _ => none


/-- What is left is a text's end. -/
theorem parse_left : ∀ (n deep : Nat) (s : List UInt8) (l : List It) (q : List UInt8), parse n deep s = some (l, q) → ∃ p, s = p ++ q ∧ (q = [] ∨ ∃ r, q = 41 :: r) := by
  intro n
  induction n with
  | zero => intro deep s l q h; simp [parse] at h
  | succ n ih =>
    intro deep s l q h
    cases s with
    | nil => simp only [parse] at h; injection h with h; injection h with h1 h2; subst h2; exact ⟨[], rfl, Or.inl rfl⟩
    | cons c r =>
      simp only [parse] at h
      split at h
      · rename_i hc
        injection h with h; injection h with h1 h2; subst h2; subst hc
        exact ⟨[], rfl, Or.inr ⟨r, rfl⟩⟩
      · split at h
        · split at h
          · rename_i l' q' hp
            injection h with h; injection h with h1 h2; subst h2
            obtain ⟨p, hs, hq⟩ := ih _ _ _ _ hp
            exact ⟨c :: p, by rw [hs]; rfl, hq⟩
          · cases h
        · split at h
          · split at h
            · rename_i inn c' q1 hp
              split at h
              · cases h
              · split at h
                · rename_i l' q' hp2
                  injection h with h; injection h with h1 h2; subst h2
                  obtain ⟨p, hs, hq⟩ := ih _ _ _ _ hp
                  obtain ⟨p2, hs2, hq2⟩ := ih _ _ _ _ hp2
                  exact ⟨c :: p ++ c' :: p2, by rw [hs, hs2]; simp, hq2⟩
                · cases h
            · cases h
          · cases h

/-- More fuel turns nothing. -/
theorem parse_more : ∀ (n deep : Nat) (s : List UInt8) (x : List It × List UInt8), parse n deep s = some x → ∀ m, n ≤ m → parse m deep s = some x := by
  intro n
  induction n with
  | zero => intro deep s x h; simp [parse] at h
  | succ n ih =>
    intro deep s x h m hm
    obtain ⟨m, rfl⟩ : ∃ k, m = k + 1 := ⟨m - 1, by omega⟩
    cases s with
    | nil => simpa [parse] using h
    | cons c r =>
      simp only [parse] at h ⊢
      split at h
      · rename_i hc; rw [if_pos hc]; exact h
      · rename_i hc
        rw [if_neg hc]
        split at h
        · split at h
          · rename_i l' q' hp
            rw [ih _ _ _ hp m (by omega)]; exact h
          · cases h
        · split at h
          · rename_i h40
            rw [if_pos h40]
            split at h
            · rename_i inn c' q1 hp
              rw [ih _ _ _ hp m (by omega)]
              simp only []
              split at h
              · cases h
              · rename_i hno
                rw [if_neg hno]
                split at h
                · rename_i l' q' hp2
                  rw [ih _ _ _ hp2 m (by omega)]; exact h
                · cases h
            · cases h
          · cases h

/-- What parses whole, with more behind it that parses, parses joined. -/
theorem parse_join : ∀ (n deep : Nat) (s : List UInt8) (l : List It), parse n deep s = some (l, []) → ∀ (t : List UInt8) (m : Nat) (l' : List It) (q : List UInt8), parse m deep t = some (l', q) → parse (n + m) deep (s ++ t) = some (l ++ l', q) := by
  intro n
  induction n with
  | zero => intro deep s l h; simp [parse] at h
  | succ n ih =>
    intro deep s l h t m l' q ht
    cases s with
    | nil =>
      simp only [parse] at h
      injection h with h; injection h with h1 h2; subst h1
      exact parse_more m deep t _ ht _ (by omega)
    | cons c r =>
      rw [show n + 1 + m = (n + m) + 1 by omega]
      simp only [parse, List.cons_append] at h ⊢
      split at h
      · injection h with h; injection h with h1 h2; cases h2
      · rename_i hc
        rw [if_neg hc]
        split at h
        · split at h
          · rename_i l1 q1 hp
            injection h with h; injection h with h1 h2; subst h1; subst h2
            rw [ih _ _ _ hp t m l' q ht]; rfl
          · cases h
        · split at h
          · rename_i h40
            rw [if_pos h40]
            split at h
            · rename_i inn c' q1 hp
              split at h
              · cases h
              · rename_i hno
                split at h
                · rename_i l2 q2 hp2
                  injection h with h; injection h with h1 h2; subst h1; subst h2
                  -- the inner parse, with more behind its parenthesis
                  have hin : parse (n + m) (deep + 1) (r ++ t) = some (inn, c' :: (q1 ++ t)) := by
                    have key : ∀ (n deep : Nat) (s : List UInt8) (l : List It) (c : UInt8) (q : List UInt8), parse n deep s = some (l, c :: q) → ∀ t, parse n deep (s ++ t) = some (l, c :: (q ++ t)) := by
                      intro n
                      induction n with
                      | zero => intro deep s l c q h; simp [parse] at h
                      | succ n ih =>
                        intro deep s l c q h t
                        cases s with
                        | nil => simp only [parse] at h; injection h with h; injection h with h1 h2; cases h2
                        | cons d r =>
                          simp only [parse, List.cons_append] at h ⊢
                          split at h
                          · rename_i hd
                            injection h with h; injection h with h1 h2
                            injection h2 with h2 h3
                            subst h1; subst h2; subst h3
                            rw [if_pos hd]
                          · rename_i hd
                            rw [if_neg hd]
                            split at h
                            · split at h
                              · rename_i l1 q1 hp
                                injection h with h; injection h with h1 h2; subst h1; subst h2
                                rw [ih _ _ _ _ _ hp t]
                              · cases h
                            · split at h
                              · rename_i h40
                                rw [if_pos h40]
                                split at h
                                · rename_i inn c' q1 hp
                                  rw [ih _ _ _ _ _ hp t]
                                  simp only []
                                  split at h
                                  · cases h
                                  · rename_i hno
                                    rw [if_neg hno]
                                    split at h
                                    · rename_i l2 q2 hp2
                                      injection h with h; injection h with h1 h2; subst h1; subst h2
                                      rw [ih _ _ _ _ _ hp2 t]
                                    · cases h
                                · cases h
                              · cases h
                    exact parse_more n _ _ _ (key n _ _ _ _ _ hp t) _ (by omega)
                  rw [hin]
                  simp only []
                  rw [if_neg hno, ih _ _ _ hp2 t m l' q ht]; rfl
                · cases h
            · cases h
          · cases h

theorem letter_ok {c : UInt8} {it : It} (h : letter c = some it) : it.Ok := by
  unfold letter at h
  split at h
  · cases h; exact .u
  · split at h
    · cases h; exact .i
    · split at h
      · cases h; exact .f
      · split at h
        · cases h; exact .b
        · split at h
          · cases h; exact .t
          · cases h

/-- Enough fuel is enough. -/
theorem parse_fuel : ∀ (n m deep : Nat) (s : List UInt8), s.length < n → s.length < m → parse n deep s = parse m deep s := by
  intro n
  induction n with
  | zero => intro m deep s h; omega
  | succ n ih =>
    intro m deep s hn hm
    obtain ⟨m, rfl⟩ : ∃ k, m = k + 1 := ⟨m - 1, by omega⟩
    cases s with
    | nil => simp [parse]
    | cons c r =>
      simp only [List.length_cons] at hn hm
      simp only [parse]
      rw [ih m deep r (by omega) (by omega), ih m (deep + 1) r (by omega) (by omega)]
      have hq : ∀ inn c' q, parse m (deep + 1) r = some (inn, c' :: q) → parse n deep q = parse m deep q := by
        intro inn c' q hp
        obtain ⟨p, hr, -⟩ := parse_left _ _ _ _ _ hp
        have hlen : q.length < r.length := by rw [hr]; simp; omega
        exact ih m deep q (by omega) (by omega)
      cases hp : parse m (deep + 1) r with
      | none => rfl
      | some x =>
        obtain ⟨inn, q⟩ := x
        cases q with
        | nil => rfl
        | cons c' q => simp only [hq inn c' q hp]

/-- The items of a text are such as may be. -/
theorem parse_ok : ∀ (n deep : Nat) (s : List UInt8) (l : List It) (q : List UInt8), parse n deep s = some (l, q) → ∀ x ∈ l, x.Ok := by
  intro n
  induction n with
  | zero => intro deep s l q h; simp [parse] at h
  | succ n ih =>
    intro deep s l q h
    cases s with
    | nil => simp only [parse] at h; injection h with h; injection h with h1 h2; subst h1; simp
    | cons c r =>
      simp only [parse] at h
      split at h
      · injection h with h; injection h with h1 h2; subst h1; simp
      · split at h
        · rename_i it hit
          split at h
          · rename_i l' q' hp
            injection h with h; injection h with h1 h2; subst h1
            intro x hx
            rcases List.mem_cons.1 hx with rfl | hx
            · exact letter_ok hit
            · exact ih _ _ _ _ hp x hx
          · cases h
        · split at h
          · split at h
            · rename_i inn c' q1 hp
              split at h
              · cases h
              · rename_i hno
                split at h
                · rename_i l' q' hp2
                  injection h with h; injection h with h1 h2; subst h1
                  intro x hx
                  rcases List.mem_cons.1 hx with rfl | hx
                  · exact .l (fun e => hno (Or.inl e)) (ih _ _ _ _ hp)
                  · exact ih _ _ _ _ hp2 x hx
                · cases h
            · cases h
          · cases h

theorem shape_ok {s : List UInt8} {l : List It} (h : shape s = some l) : ∀ x ∈ l, x.Ok := by
  unfold shape at h
  split at h
  · cases h
  · split at h
    · rename_i l' hp
      injection h with h; subst h
      exact parse_ok _ _ _ _ _ hp
    · cases h
theorem shape_join {s t : List UInt8} {l m : List It} (hs : shape s = some l) (ht : shape t = some m) (hn : s.length + t.length ≤ 256) : shape (s ++ t) = some (l ++ m) := by
  unfold shape at hs ht ⊢
  split at hs
  · cases hs
  · split at ht
    · cases ht
    · split at hs
      · rename_i l' hp
        injection hs with hs; subst hs
        split at ht
        · rename_i m' hp2
          injection ht with ht; subst ht
          have hj := parse_join _ _ _ _ hp _ _ _ _ hp2
          rw [if_neg (by simp; omega)]
          rw [parse_fuel _ (s.length + 1 + (t.length + 1)) _ _ (by simp) (by simp; omega), hj]
        · cases ht
      · cases hs
end Go.Wq
end

section
/- Bytes in memory that the call owns. -/
namespace Go.Wq
open Go.RowKit Go.Lib

/-- Bytes as values. -/
def bcs (l : List UInt8) : List Value := l.map fun c => Value.int .u8 (c.toNat : Int)
theorem bcs_append (a b : List UInt8) : bcs (a ++ b) = bcs a ++ bcs b := List.map_append
theorem bcs_length (l : List UInt8) : (bcs l).length = l.length := List.length_map ..
theorem strCells_bcs (s : ByteArray) : strCells s = bcs s.data.toList := rfl
theorem bcs_one (x : Int) (c : UInt8) (h : x = (c.toNat : Int)) : [Value.int .u8 x] = bcs [c] := by subst h; rfl

/-- Bytes that the call owns, as a text. -/
theorem own_text {P : Program} {w : World} {base e : Nat} {v : Value} {n : Nat} {l : List UInt8} (src dst : TypeId) (hs : P.underlying src = some (.slice e)) (he : P.underlying e = some (.int .u8)) (hd : P.underlying dst = some .string)
    (h : w.ownsRow base e 1 v n (bcs l)) : (convert src dst v).run P w = .ok (.string ⟨l.toArray⟩) w := by
  have hl : l.length = n := by have := h.1; rw [bcs_length] at this; omega
  rcases h.2 with ⟨rfl, hn⟩ | ⟨g, cap, cur, rfl, hg, hh, hc⟩
  · have : l = [] := List.eq_nil_of_length_eq_zero (by omega)
    subst this
    rw [run_convert_bytes_string w src dst e none 0 0 hs he hd]
    rfl
  · subst hl
    refine run_convert_bytes_back w src dst e ⟨g, 0, none⟩ cap l hs he hd ?_
    intro j hj
    have := h.cells (g := g) rfl j (.int .u8 (l[j].toNat : Int)) (by simp [bcs, hj])
    exact this
end Go.Wq
end

section
/- Bits of numbers of 64 bits: groups of 7, bytes. -/
namespace Go.Wq
open Go.Lib

theorem and127 (n : Nat) (h : n < 18446744073709551616) : bits BinOp.and IntKind.u64 (n : Int) 127 = ((n % 128 : Nat) : Int) := by
  have e := bits_and_u64_nat n 127 h (by omega)
  have : n &&& 127 = n % 128 := Nat.and_two_pow_sub_one_eq_mod n 7
  rw [this] at e
  exact e
theorem or128 (m : Nat) (h : m < 128) : bits BinOp.or IntKind.u64 (m : Int) 128 = ((m + 128 : Nat) : Int) := by
  have := bits_join_low .u64 64 (by decide) wraps_u64 7 (m : Int) 128 (by omega) (by omega) (by omega) (by omega) (by decide) (by omega)
  rw [this]; omega
theorem group7 (n : Nat) (h : n < 18446744073709551616) : bits BinOp.or IntKind.u64 (bits BinOp.and IntKind.u64 (n : Int) 127) 128 % 256 = ((UInt8.ofNat (n % 128 + 128)).toNat : Int) := by
  rw [and127 n h, or128 _ (Nat.mod_lt _ (by omega)), toNat_ofNat (by omega)]
  omega
theorem last7 (n : Nat) (h : n < 128) : (n : Int) % 256 = ((UInt8.ofNat n).toNat : Int) := by
  rw [toNat_ofNat (by omega)]; omega
theorem vint_ten (n : Nat) (h : n < 18446744073709551616) : (vint n).length ≤ 10 := vint_len 10 n (Nat.lt_of_lt_of_le h (by decide)) (by omega)
theorem xor_max (y : Nat) (h : y < 2 ^ 64) : 18446744073709551615 ^^^ y = 18446744073709551615 - y := by
  apply Nat.eq_of_testBit_eq
  intro j
  rw [Nat.testBit_xor, show 18446744073709551615 - y = 2 ^ 64 - (y + 1) by omega, Nat.testBit_two_pow_sub_succ h, show (18446744073709551615 : Nat) = 2 ^ 64 - 1 from rfl, Nat.testBit_two_pow_sub_one]
  by_cases hj : j < 64
  · simp [hj]
  · have : y.testBit j = false := Nat.testBit_lt_two_pow (Nat.lt_of_lt_of_le h (Nat.pow_le_pow_right (by omega) (by omega)))
    simp [hj, this]
theorem zig_pos (i : Int) (h0 : ¬ i < 0) (h1 : i ≤ 9223372036854775807) : IntKind.u64.wrap (IntKind.u64.wrap i * 2) = ((zig i : Nat) : Int) := by
  rw [Go.IntKind.wrap_u64, Go.IntKind.wrap_u64]
  unfold zig
  rw [if_neg h0]
  omega
theorem zig_neg (i : Int) (h0 : i < 0) (h1 : -9223372036854775808 ≤ i) : bits BinOp.xor IntKind.u64 IntKind.u64.max (IntKind.u64.wrap (IntKind.u64.wrap i * 2)) = ((zig i : Nat) : Int) := by
  have hw : IntKind.u64.wrap (IntKind.u64.wrap i * 2) = ((18446744073709551616 + 2 * i).toNat : Int) := by
    rw [Go.IntKind.wrap_u64, Go.IntKind.wrap_u64]; omega
  have hm : IntKind.u64.max = ((18446744073709551615 : Nat) : Int) := rfl
  rw [hw, hm, bits_xor_u64_nat _ _ (by omega) (by omega), xor_max _ (by omega)]
  unfold zig
  rw [if_pos h0]
  omega
theorem bytes8_take (f j : Nat) (h : j < 8) : (bytesOf 8 f).take (j + 1) = (bytesOf 8 f).take j ++ [UInt8.ofNat (f / 2 ^ (56 - 8 * j) % 256)] := by
  have : j = 0 ∨ j = 1 ∨ j = 2 ∨ j = 3 ∨ j = 4 ∨ j = 5 ∨ j = 6 ∨ j = 7 := by omega
  rcases this with rfl | rfl | rfl | rfl | rfl | rfl | rfl | rfl <;> rfl
theorem byte_shift (f j : Nat) : (f : Int) / 2 ^ (56 - 8 * j) % 256 = ((UInt8.ofNat (f / 2 ^ (56 - 8 * j) % 256)).toNat : Int) := by
  rw [toNat_ofNat (Nat.mod_lt _ (by omega))]
  simp
theorem loop_len (bs : ByteArray) : ∀ (k i : Nat) (r : List UInt8), bs.size - i = k → (ByteArray.toList.loop bs i r).length = r.length + k := by
  intro k
  induction k with
  | zero => intro i r h; rw [ByteArray.toList.loop]; rw [if_neg (by omega)]; simp
  | succ k ih => intro i r h; rw [ByteArray.toList.loop]; rw [if_pos (by omega), ih (i + 1) _ (by omega)]; simp; omega
theorem toList_nil (t : ByteArray) : t.toList = [] ↔ t.size = 0 := by
  have := loop_len t t.size 0 [] (by omega)
  rw [← List.length_eq_zero_iff]
  show (ByteArray.toList.loop t 0 []).length = 0 ↔ _
  rw [this]; simp
end Go.Wq
end

section
/- append to what the call owns: where the row lies behind it: where it lay, or in a new block. -/
namespace Go.Wq
set_option linter.unusedVariables false
open Go.RowKit Go.Lib

/-- From w to w' a row that the call owns has grown: it lies where it lay or in a new block, and nothing else that was there has turned. -/
structure Grew (w w' : World) (v v' : Value) : Prop where
  g : w.grownBy w' v.ownBlock
  n : ∀ k, v'.ownBlock = some k → v.ownBlock = some k ∨ w.heap.size ≤ k

theorem Grew.refl (w : World) (v : Value) : Grew w w v v := ⟨⟨rfl, rfl, rfl, Nat.le_refl _, fun _ _ _ => rfl⟩, fun k h => Or.inl h⟩
theorem Grew.trans {w1 w2 w3 : World} {v1 v2 v3 : Value} (h : Grew w1 w2 v1 v2) (k : Grew w2 w3 v2 v3) : Grew w1 w3 v1 v3 := by
  refine ⟨⟨k.g.os.trans h.g.os, k.g.tape.trans h.g.tape, k.g.output.trans h.g.output, Nat.le_trans h.g.size k.g.size, fun i hi hne => ?_⟩, fun i hi => ?_⟩
  · have hs := h.g.size
    rw [k.g.block i (by omega) ?_, h.g.block i hi hne]
    intro e
    rcases h.n i e.symm with h1 | h1
    · exact hne h1.symm
    · omega
  · rcases k.n i hi with h1 | h1
    · exact h.n i h1
    · exact Or.inr (Nat.le_trans h.g.size h1)
theorem Grew.alloc (w : World) (o : Obj) (v : Value) : Grew w (w.alloc o) v v := ⟨World.grownBy_alloc w o _, fun k h => Or.inl h⟩
theorem Grew.drew (w : World) (v : Value) : Grew w w.drew v v := ⟨⟨rfl, rfl, rfl, Nat.le_refl _, fun _ _ _ => rfl⟩, fun k h => Or.inl h⟩
theorem Grew.of_below {w w' : World} (v : Value) (h : Below w.heap.size w w') : Grew w w' v v := ⟨⟨h.os, h.tape, h.output, h.size, fun k hk _ => h.block k hk⟩, fun k h => Or.inl h⟩
theorem Grew.below {w w' : World} {v v' : Value} (h : Grew w w' v v') {base : Nat} (hb : base ≤ w.heap.size) (ho : ∀ k, v.ownBlock = some k → base ≤ k) : Below base w w' :=
  (Below.refl base w).grown h.g hb ho
/-- What lies in an old block that is not the row's stays. -/
theorem Grew.cell {w w' : World} {v v' : Value} (h : Grew w w' v v') {b : Nat} (hb : b < w.heap.size) (hne : v.ownBlock ≠ some b) (o : Nat) : w'.cell? ⟨b, o, none⟩ = w.cell? ⟨b, o, none⟩ :=
  World.cell?_of_block (h.g.block b hb (fun e => hne e.symm))
theorem Grew.frozen {w w' : World} {v v' : Value} (h : Grew w w' v v') {b : Nat} (hb : b < w.heap.size) (hne : v.ownBlock ≠ some b) (o : Nat) : w'.frozen? ⟨b, o, none⟩ = w.frozen? ⟨b, o, none⟩ :=
  World.frozen?_of_block (h.g.block b hb (fun e => hne e.symm))
theorem Grew.other {w w' : World} {v v' : Value} (h : Grew w w' v v') {b : Nat} (hb : b < w.heap.size) (hne : v.ownBlock ≠ some b) : v'.ownBlock ≠ some b := by
  intro e
  rcases h.n b e with h1 | h1
  · exact hne h1
  · omega

/-- The same memory, whatever has been drawn. -/
structure Like (w W : World) : Prop where
  heap : W.heap = w.heap
  os : W.os = w.os
  tape : W.tape = w.tape
  output : W.output = w.output
theorem Like.refl (w : World) : Like w w := ⟨rfl, rfl, rfl, rfl⟩
theorem Like.below {w W w' : World} {B : Nat} (h : Like w W) (b : Below B W w') : Below B w w' := ⟨b.os.trans h.os, b.tape.trans h.tape, b.output.trans h.output, by rw [← h.heap]; exact b.size, fun k hk => by rw [b.block k hk, h.heap]⟩
theorem Like.grew {w W w' : World} {v v' : Value} (h : Like w W) (b : Grew W w' v v') : Grew w w' v v' :=
  ⟨⟨b.g.os.trans h.os, b.g.tape.trans h.tape, b.g.output.trans h.output, by rw [← h.heap]; exact b.g.size, fun k hk hne => by rw [b.g.block k (by rw [h.heap]; exact hk) hne, h.heap]⟩, fun k hk => by have := b.n k hk; rwa [h.heap] at this⟩
theorem Like.own {w W : World} (h : Like w W) {base e size : Nat} {v : Value} {n : Nat} {xs : List Value} (o : w.ownsRow base e size v n xs) : W.ownsRow base e size v n xs := by
  unfold World.ownsRow at o ⊢; rw [h.heap]; exact o
section
variable {P : Program} {w : World}
theorem ran_inj {α : Type} {a b : α} {w1 w2 : World} (h : Result.ok a w1 = Result.ok b w2) : a = b := by injection h

theorem append_vals (base : Nat) (t ty e : TypeId) (i : TypeInfo) (z : Value) (size bytes : Nat) (ht : P.underlying t = some (.slice e)) (hi : P.info? e = some i) (hz : i.zero = some z)
    (hsize : i.size = size) (hby : i.bytes = bytes) (hzs : z.cells.size = size) (hsz : 0 < size)
    (v : Value) (n : Nat) (xs : List Value) (hown : w.ownsRow base e size v n xs)
    (a : Addr) (m c : Nat) (news : List Value) (hl : news.length = m * size) (hnews : ∀ j u, news[j]? = some u → w.cell? (a.add j) = some u) (h1 : ∀ u ∈ news, u.oneCell' = true)
    (h63 : n + m ≤ maxLen) (hbytes : (n + m) * bytes ≤ 140737488355328) (hbase : base ≤ w.heap.size) :
    ∃ v' w', (Builtin.append_ #[t, t] ty #[v, .slice (some a) m c]).run P w = .ok v' w' ∧ w'.ownsRow base e size v' (n + m) (xs ++ news) ∧ Grew w w' v v' := by
  obtain ⟨v', w', hr, h2, h3, h4⟩ := run_append_own (P := P) w base t ty e i z size bytes ht hi hz hsize hby hzs hsz v n xs hown a m c news hl hnews h1 h63 hbytes hbase
  refine ⟨v', w', hr, h2, h3, ?_⟩
  subst hsize
  subst hby
  have hsmall : n + m ≤ 9223372036854775807 := by simp only [maxLen] at h63; omega
  rcases hown.2 with ⟨rfl, rfl⟩ | ⟨g, cap, cur, rfl, hbg, hg, hnc, hcm, hcs, htake⟩
  · by_cases hm : m = 0
    · have := h4.2 ⟨rfl, hm⟩
      subst this
      intro k hk; cases hk
    · rw [run_append_nil (P := P) w t ty e i z ht hi hz a m c news hl hnews (by omega) (by omega) (by have hb := hbytes; simp only [Nat.zero_add] at hb; omega)] at hr
      have := ran_inj hr
      subst this
      intro k hk
      simp [Value.ownBlock] at hk
      exact Or.inr (by omega)
  · by_cases hroom : n + m ≤ cap
    · have hfit : n * i.size + news.length ≤ cur.size := by rw [hl, hcs, ← Nat.add_mul]; exact Nat.mul_le_mul_right _ hroom
      rw [run_append_room (P := P) w t ty e i ht hi g n cap cur hg a m c news hl hnews h1 hroom hfit] at hr
      have := ran_inj hr
      subst this
      intro k hk
      exact Or.inl hk
    · have holds : ∀ j u, xs[j]? = some u → w.cell? ((⟨g, 0, none⟩ : Addr).add j) = some u := hown.cells (g := g) rfl
      rw [run_append_grow (P := P) w t ty e i z ht hi hz ⟨g, 0, none⟩ n cap xs hown.1 holds a m c news hl hnews (by omega) (by omega) (growslice_fits (by omega) hbytes)] at hr
      have := ran_inj hr
      subst this
      intro k hk
      simp [Value.ownBlock] at hk
      exact Or.inr (by omega)

theorem append_text (base : Nat) (t u ty e : TypeId) (i : TypeInfo) (ht : P.underlying t = some (.slice e)) (hu : P.underlying u = some .string) (hi : P.info? e = some i) (hz : i.zero = some (.int .u8 0))
    (hsize : i.size = 1) (hby : i.bytes = 1)
    (v : Value) (n : Nat) (xs : List Value) (hown : w.ownsRow base e 1 v n xs) (s : ByteArray)
    (h63 : n + s.size ≤ maxLen) (hbytes : n + s.size ≤ 140737488355328) (hbase : base ≤ w.heap.size) :
    ∃ v' w', (Builtin.append_ #[t, u] ty #[v, .string s]).run P w = .ok v' w' ∧ w'.ownsRow base e 1 v' (n + s.size) (xs ++ strCells s) ∧ Grew w w' v v' := by
  obtain ⟨v', w', hr, h2, h3, h4⟩ := run_append_own_string (P := P) w base t u ty e i ht hu hi hz hsize hby v n xs hown s h63 hbytes hbase
  refine ⟨v', w', hr, h2, h3, ?_⟩
  have hxl : xs.length = n := by simpa using hown.1
  have hsmall : n + s.size ≤ 9223372036854775807 := by simp only [maxLen] at h63; omega
  rcases hown.2 with ⟨rfl, rfl⟩ | ⟨g, cap, cur, rfl, hbg, hg, hnc, hcm, hcs, htake⟩
  · by_cases hm : s.size = 0
    · have := h4.2 ⟨rfl, hm⟩
      subst this
      intro k hk; cases hk
    · rw [run_append_nil_string (P := P) w t u ty e i (.int .u8 0) ht hu hi hz s (by omega) (by omega) (by rw [hby]; omega)] at hr
      have := ran_inj hr
      subst this
      intro k hk
      simp [Value.ownBlock] at hk
      exact Or.inr (by omega)
  · by_cases hroom : n + s.size ≤ cap
    · have hcs' : cur.size = cap := by simpa using hcs
      rw [run_append_room_string (P := P) w t u ty e i ht hu hi hsize g n cap cur hg s hroom (by omega)] at hr
      have := ran_inj hr
      subst this
      intro k hk
      exact Or.inl hk
    · have holds : ∀ j u, xs[j]? = some u → w.cell? ((⟨g, 0, none⟩ : Addr).add j) = some u := hown.cells (g := g) rfl
      rw [run_append_grow_string (P := P) w t u ty e i (.int .u8 0) ht hu hi hz ⟨g, 0, none⟩ n cap xs (by rw [hsize]; simpa using hxl) holds s (by omega) (by omega) (by rw [hby]; exact growslice_fits (by omega) (by omega))] at hr
      have := ran_inj hr
      subst this
      intro k hk
      simp [Value.ownBlock] at hk
      exact Or.inr (by omega)

/-- The operation, for the walk. -/
theorem wpList_append_vals (w : World) {ops : Array Oper} {rest : List Oper} {o : Oper} {a : Act} {Q : Exit → Act → World → Prop} (hgd : o.guard = none) (s x : Operand) (t : TypeId)
    (ho : o.op = .call { callee := .builtin .append, args := #[s, x], argTypes := #[t, t] })
    (base : Nat) (e : TypeId) (i : TypeInfo) (z : Value) (size bytes : Nat) (ht : P.underlying t = some (.slice e)) (hi : P.info? e = some i) (hz : i.zero = some z)
    (hsize : i.size = size) (hby : i.bytes = bytes) (hzs : z.cells.size = size) (hsz : 0 < size)
    (v : Value) (n : Nat) (xs : List Value) (hs : a.eval s = v) (hown : w.ownsRow base e size v n xs)
    (ad : Addr) (m c : Nat) (news : List Value) (hx : a.eval x = .slice (some ad) m c) (hl : news.length = m * size) (hnews : ∀ j u, news[j]? = some u → w.cell? (ad.add j) = some u) (h1 : ∀ u ∈ news, u.oneCell' = true)
    (h63 : n + m ≤ maxLen) (hbytes : (n + m) * bytes ≤ 140737488355328) (hbase : base ≤ w.heap.size)
    (h : ∀ v' w', w'.ownsRow base e size v' (n + m) (xs ++ news) → Grew w w' v v' → wpList P ops Q rest (a.put o.dst v') w') : wpList P ops Q (o :: rest) a w := by
  refine wpList_plain hgd fun K hK => ?_
  obtain ⟨v', w', hr, h2, h3⟩ := append_vals (P := P) (w := w) base t o.type e i z size bytes ht hi hz hsize hby hzs hsz v n xs hown ad m c news hl hnews h1 h63 hbytes hbase
  unfold Oper.wp execOp
  simp only [ho, resolve, invoke, builtin, Sem.run_bind, Sem.run_pure, Result.andThen_ok, List.map_toArray, List.map_cons, List.map_nil, hs, hx, hr]
  exact hK _ _ (h v' w' h2 h3)
theorem wpList_append_text (w : World) {ops : Array Oper} {rest : List Oper} {o : Oper} {a : Act} {Q : Exit → Act → World → Prop} (hgd : o.guard = none) (sl x : Operand) (t u : TypeId)
    (ho : o.op = .call { callee := .builtin .append, args := #[sl, x], argTypes := #[t, u] })
    (base : Nat) (e : TypeId) (i : TypeInfo) (ht : P.underlying t = some (.slice e)) (hu : P.underlying u = some .string) (hi : P.info? e = some i) (hz : i.zero = some (.int .u8 0))
    (hsize : i.size = 1) (hby : i.bytes = 1)
    (v : Value) (n : Nat) (xs : List Value) (hs : a.eval sl = v) (hown : w.ownsRow base e 1 v n xs) (s : ByteArray) (hx : a.eval x = .string s)
    (h63 : n + s.size ≤ maxLen) (hbytes : n + s.size ≤ 140737488355328) (hbase : base ≤ w.heap.size)
    (h : ∀ v' w', w'.ownsRow base e 1 v' (n + s.size) (xs ++ strCells s) → Grew w w' v v' → wpList P ops Q rest (a.put o.dst v') w') : wpList P ops Q (o :: rest) a w := by
  refine wpList_plain hgd fun K hK => ?_
  obtain ⟨v', w', hr, h2, h3⟩ := append_text (P := P) (w := w) base t u o.type e i ht hu hi hz hsize hby v n xs hown s h63 hbytes hbase
  unfold Oper.wp execOp
  simp only [ho, resolve, invoke, builtin, Sem.run_bind, Sem.run_pure, Result.andThen_ok, List.map_toArray, List.map_cons, List.map_nil, hs, hx, hr]
  exact hK _ _ (h v' w' h2 h3)
end
end Go.Wq
end

section
/- Fields and items in memory. -/
namespace Go.Wq
set_option linter.unusedVariables false
open Go.RowKit Go.Lib

mutual
/-- A field at a place below block B. -/
def FldIn (w : World) (B : Nat) : Fld → Nat → Nat → Prop
  | .mk u i f bb t l, b, o => b < B ∧ w.cell? ⟨b, o, none⟩ = some (.int .u64 (u : Int)) ∧ w.cell? ⟨b, o + 1, none⟩ = some (.int .i64 i) ∧ w.cell? ⟨b, o + 2, none⟩ = some (.float .f64 f) ∧ w.cell? ⟨b, o + 3, none⟩ = some (.bool bb) ∧
      (∃ s : ByteArray, s.data.toList = t ∧ w.cell? ⟨b, o + 4, none⟩ = some (.string s)) ∧ ∃ (ra : Option Addr) (rn rc : Nat), w.cell? ⟨b, o + 5, none⟩ = some (.slice ra rn rc) ∧ RowsIn w B l ra rn
def RowsIn (w : World) (B : Nat) : List (List Fld) → Option Addr → Nat → Prop
  | [], _, n => n = 0
  | r :: l, a, n => ∃ b o m, a = some ⟨b, o, none⟩ ∧ n = m + 1 ∧ b < B ∧ (∃ (sa : Option Addr) (sn sc : Nat), w.cell? ⟨b, o, none⟩ = some (.slice sa sn sc) ∧ FldsIn w B r sa sn) ∧ RowsIn w B l (some ⟨b, o + 1, none⟩) m
def FldsIn (w : World) (B : Nat) : List Fld → Option Addr → Nat → Prop
  | [], _, n => n = 0
  | x :: r, a, n => ∃ b o m, a = some ⟨b, o, none⟩ ∧ n = m + 1 ∧ FldIn w B x b o ∧ FldsIn w B r (some ⟨b, o + 6, none⟩) m
end

theorem FldsIn.len {w : World} {B : Nat} : ∀ {l : List Fld} {a : Option Addr} {n : Nat}, FldsIn w B l a n → n = l.length
  | [], a, n, h => by simpa [FldsIn] using h
  | x :: r, a, n, h => by
    simp only [FldsIn] at h
    obtain ⟨b, o, m, rfl, rfl, h1, h2⟩ := h
    simp [FldsIn.len h2]
theorem RowsIn.len {w : World} {B : Nat} : ∀ {l : List (List Fld)} {a : Option Addr} {n : Nat}, RowsIn w B l a n → n = l.length
  | [], a, n, h => by simpa [RowsIn] using h
  | x :: r, a, n, h => by
    simp only [RowsIn] at h
    obtain ⟨b, o, m, rfl, rfl, h0, h1, h2⟩ := h
    simp [RowsIn.len h2]
theorem FldsIn.at {w : World} {B : Nat} : ∀ {l : List Fld} {a : Option Addr} {n : Nat}, FldsIn w B l a n → ∀ (k : Nat) (hk : k < l.length), ∃ b o, a = some ⟨b, o, none⟩ ∧ FldIn w B l[k] b (o + k * 6)
  | [], a, n, h, k, hk => by simp at hk
  | x :: r, a, n, h, k, hk => by
    simp only [FldsIn] at h
    obtain ⟨b, o, m, rfl, rfl, h1, h2⟩ := h
    cases k with
    | zero => exact ⟨b, o, rfl, by simpa using h1⟩
    | succ k =>
      obtain ⟨b', o', e, h3⟩ := FldsIn.at h2 k (by simpa using hk)
      injection e with e
      injection e with e1 e2 _
      subst e1; subst e2
      refine ⟨b, o, rfl, ?_⟩
      rw [show o + (k + 1) * 6 = o + 6 + k * 6 by omega]
      exact h3
theorem RowsIn.at {w : World} {B : Nat} : ∀ {l : List (List Fld)} {a : Option Addr} {n : Nat}, RowsIn w B l a n → ∀ (k : Nat) (hk : k < l.length), ∃ b o, a = some ⟨b, o, none⟩ ∧ b < B ∧ ∃ (sa : Option Addr) (sn sc : Nat), w.cell? ⟨b, o + k, none⟩ = some (.slice sa sn sc) ∧ FldsIn w B l[k] sa sn
  | [], a, n, h, k, hk => by simp at hk
  | x :: r, a, n, h, k, hk => by
    simp only [RowsIn] at h
    obtain ⟨b, o, m, rfl, rfl, hb, h1, h2⟩ := h
    cases k with
    | zero => exact ⟨b, o, rfl, hb, h1⟩
    | succ k =>
      obtain ⟨b', o', e, hb', h3⟩ := RowsIn.at h2 k (by simpa using hk)
      injection e with e
      injection e with e1 e2 _
      subst e1; subst e2
      refine ⟨b, o, rfl, hb, ?_⟩
      rw [show o + (k + 1) = o + 1 + k by omega]
      exact h3

mutual
theorem FldIn.kept {w w' : World} {B : Nat} (h : ∀ k, k < B → w'.heap[k]? = w.heap[k]?) : ∀ (x : Fld) (b o : Nat), FldIn w B x b o → FldIn w' B x b o
  | .mk u i f bb t l, b, o, hx => by
    simp only [FldIn] at hx ⊢
    obtain ⟨hb, c0, c1, c2, c3, ⟨s, hs, c4⟩, ra, rn, rc, c5, hr⟩ := hx
    have e : ∀ k, w'.cell? ⟨b, k, none⟩ = w.cell? ⟨b, k, none⟩ := fun k => World.cell?_of_block (h b hb)
    exact ⟨hb, (e _).trans c0, (e _).trans c1, (e _).trans c2, (e _).trans c3, ⟨s, hs, (e _).trans c4⟩, ra, rn, rc, (e _).trans c5, RowsIn.kept h l ra rn hr⟩
theorem RowsIn.kept {w w' : World} {B : Nat} (h : ∀ k, k < B → w'.heap[k]? = w.heap[k]?) : ∀ (l : List (List Fld)) (a : Option Addr) (n : Nat), RowsIn w B l a n → RowsIn w' B l a n
  | [], a, n, hx => by simpa [RowsIn] using hx
  | r :: l, a, n, hx => by
    simp only [RowsIn] at hx ⊢
    obtain ⟨b, o, m, ha, hn, hb, ⟨sa, sn, sc, c, h1⟩, h2⟩ := hx
    have e : ∀ k, w'.cell? ⟨b, k, none⟩ = w.cell? ⟨b, k, none⟩ := fun k => World.cell?_of_block (h b hb)
    exact ⟨b, o, m, ha, hn, hb, ⟨sa, sn, sc, (e _).trans c, FldsIn.kept h r sa sn h1⟩, RowsIn.kept h l _ m h2⟩
theorem FldsIn.kept {w w' : World} {B : Nat} (h : ∀ k, k < B → w'.heap[k]? = w.heap[k]?) : ∀ (l : List Fld) (a : Option Addr) (n : Nat), FldsIn w B l a n → FldsIn w' B l a n
  | [], a, n, hx => by simpa [FldsIn] using hx
  | x :: l, a, n, hx => by
    simp only [FldsIn] at hx ⊢
    obtain ⟨b, o, m, ha, hn, h1, h2⟩ := hx
    exact ⟨b, o, m, ha, hn, FldIn.kept h x b o h1, FldsIn.kept h l _ m h2⟩
end

def It.code : It → Int
  | .u => 117 | .i => 105 | .f => 102 | .b => 98 | .t => 116 | .l _ => 40
mutual
/-- An item at a place below block B. -/
def ItIn (w : World) (B : Nat) : It → Nat → Nat → Prop
  | .l its, b, o => b < B ∧ w.cell? ⟨b, o, none⟩ = some (.int .u8 40) ∧ ∃ (a : Option Addr) (n c : Nat), w.cell? ⟨b, o + 1, none⟩ = some (.slice a n c) ∧ ItsIn w B its a n
  | .u, b, o => b < B ∧ w.cell? ⟨b, o, none⟩ = some (.int .u8 117)
  | .i, b, o => b < B ∧ w.cell? ⟨b, o, none⟩ = some (.int .u8 105)
  | .f, b, o => b < B ∧ w.cell? ⟨b, o, none⟩ = some (.int .u8 102)
  | .b, b, o => b < B ∧ w.cell? ⟨b, o, none⟩ = some (.int .u8 98)
  | .t, b, o => b < B ∧ w.cell? ⟨b, o, none⟩ = some (.int .u8 116)
def ItsIn (w : World) (B : Nat) : List It → Option Addr → Nat → Prop
  | [], _, n => n = 0
  | x :: r, a, n => ∃ b o m, a = some ⟨b, o, none⟩ ∧ n = m + 1 ∧ ItIn w B x b o ∧ ItsIn w B r (some ⟨b, o + 2, none⟩) m
end
theorem ItsIn.len {w : World} {B : Nat} : ∀ {l : List It} {a : Option Addr} {n : Nat}, ItsIn w B l a n → n = l.length
  | [], a, n, h => by simpa [ItsIn] using h
  | x :: r, a, n, h => by
    simp only [ItsIn] at h
    obtain ⟨b, o, m, rfl, rfl, h1, h2⟩ := h
    simp [ItsIn.len h2]
theorem ItsIn.at {w : World} {B : Nat} : ∀ {l : List It} {a : Option Addr} {n : Nat}, ItsIn w B l a n → ∀ (k : Nat) (hk : k < l.length), ∃ b o, a = some ⟨b, o, none⟩ ∧ ItIn w B l[k] b (o + k * 2)
  | [], a, n, h, k, hk => by simp at hk
  | x :: r, a, n, h, k, hk => by
    simp only [ItsIn] at h
    obtain ⟨b, o, m, rfl, rfl, h1, h2⟩ := h
    cases k with
    | zero => exact ⟨b, o, rfl, by simpa using h1⟩
    | succ k =>
      obtain ⟨b', o', e, h3⟩ := ItsIn.at h2 k (by simpa using hk)
      injection e with e
      injection e with e1 e2 _
      subst e1; subst e2
      refine ⟨b, o, rfl, ?_⟩
      rw [show o + (k + 1) * 2 = o + 2 + k * 2 by omega]
      exact h3
mutual
theorem ItIn.kept {w w' : World} {B : Nat} (h : ∀ k, k < B → w'.heap[k]? = w.heap[k]?) : ∀ (x : It) (b o : Nat), ItIn w B x b o → ItIn w' B x b o
  | .l its, b, o, hx => by
    simp only [ItIn] at hx ⊢
    obtain ⟨hb, c0, a, n, c, c1, h1⟩ := hx
    have e : ∀ k, w'.cell? ⟨b, k, none⟩ = w.cell? ⟨b, k, none⟩ := fun k => World.cell?_of_block (h b hb)
    exact ⟨hb, (e _).trans c0, a, n, c, (e _).trans c1, ItsIn.kept h its a n h1⟩
  | .u, b, o, hx => by simp only [ItIn] at hx ⊢; exact ⟨hx.1, (World.cell?_of_block (h b hx.1)).trans hx.2⟩
  | .i, b, o, hx => by simp only [ItIn] at hx ⊢; exact ⟨hx.1, (World.cell?_of_block (h b hx.1)).trans hx.2⟩
  | .f, b, o, hx => by simp only [ItIn] at hx ⊢; exact ⟨hx.1, (World.cell?_of_block (h b hx.1)).trans hx.2⟩
  | .b, b, o, hx => by simp only [ItIn] at hx ⊢; exact ⟨hx.1, (World.cell?_of_block (h b hx.1)).trans hx.2⟩
  | .t, b, o, hx => by simp only [ItIn] at hx ⊢; exact ⟨hx.1, (World.cell?_of_block (h b hx.1)).trans hx.2⟩
theorem ItsIn.kept {w w' : World} {B : Nat} (h : ∀ k, k < B → w'.heap[k]? = w.heap[k]?) : ∀ (l : List It) (a : Option Addr) (n : Nat), ItsIn w B l a n → ItsIn w' B l a n
  | [], a, n, hx => by simpa [ItsIn] using hx
  | x :: l, a, n, hx => by
    simp only [ItsIn] at hx ⊢
    obtain ⟨b, o, m, ha, hn, h1, h2⟩ := hx
    exact ⟨b, o, m, ha, hn, ItIn.kept h x b o h1, ItsIn.kept h l _ m h2⟩
end
theorem ItIn.code {w : World} {B : Nat} {x : It} {b o : Nat} (h : ItIn w B x b o) : b < B ∧ w.cell? ⟨b, o, none⟩ = some (.int .u8 x.code) := by
  cases x <;> simp only [ItIn] at h <;> first | exact h | exact ⟨h.1, h.2.1⟩

/-- Texts that a machine may hold. -/
inductive Fld.Fit : Fld → Prop where
  | mk {u : Nat} {i : Int} {f : Nat} {b : Bool} {t : List UInt8} {l : List (List Fld)} (ht : t.length ≤ 140737488351232) (hl : ∀ r ∈ l, ∀ x ∈ r, Fld.Fit x) : Fld.Fit (.mk u i f b t l)
theorem Fld.Fit.t {x : Fld} (h : x.Fit) : x.T.length ≤ 140737488351232 := by cases h; assumption
theorem Fld.Fit.l {x : Fld} (h : x.Fit) : ∀ r ∈ x.L, ∀ y ∈ r, y.Fit := by cases h; assumption
/-- Lists of at most 256 items. -/
inductive It.Sm : It → Prop where
  | u : It.Sm .u
  | i : It.Sm .i
  | f : It.Sm .f
  | b : It.Sm .b
  | t : It.Sm .t
  | l {its : List It} (h : its.length ≤ 256) (g : ∀ x ∈ its, It.Sm x) : It.Sm (.l its)
theorem letter_sm {c : UInt8} {it : It} (h : letter c = some it) : it.Sm := by
  unfold letter at h
  split at h
  · cases h; exact .u
  · split at h
    · cases h; exact .i
    · split at h
      · cases h; exact .f
      · split at h
        · cases h; exact .b
        · split at h
          · cases h; exact .t
          · cases h
theorem parse_sm : ∀ (n deep : Nat) (s : List UInt8) (l : List It) (q : List UInt8), parse n deep s = some (l, q) → s.length ≤ 256 → l.length + q.length ≤ s.length ∧ ∀ x ∈ l, x.Sm := by
  intro n
  induction n with
  | zero => intro deep s l q h; simp [parse] at h
  | succ n ih =>
    intro deep s l q h hs
    cases s with
    | nil => simp only [parse] at h; injection h with h; injection h with h1 h2; subst h1; subst h2; simp
    | cons c r =>
      simp only [List.length_cons] at hs
      simp only [parse] at h
      split at h
      · injection h with h; injection h with h1 h2; subst h1; subst h2; simp
      · split at h
        · rename_i it hit
          split at h
          · rename_i l' q' hp
            injection h with h; injection h with h1 h2; subst h1; subst h2
            obtain ⟨e1, e2⟩ := ih _ _ _ _ hp (by omega)
            refine ⟨by simp; omega, ?_⟩
            intro x hx
            rcases List.mem_cons.1 hx with rfl | hx
            · exact letter_sm hit
            · exact e2 x hx
          · cases h
        · split at h
          · split at h
            · rename_i inn c' q1 hp
              split at h
              · cases h
              · rename_i hno
                split at h
                · rename_i l' q' hp2
                  injection h with h; injection h with h1 h2; subst h1; subst h2
                  obtain ⟨e1, e2⟩ := ih _ _ _ _ hp (by omega)
                  simp only [List.length_cons] at e1
                  obtain ⟨e3, e4⟩ := ih _ _ _ _ hp2 (by omega)
                  refine ⟨by simp; omega, ?_⟩
                  intro x hx
                  rcases List.mem_cons.1 hx with rfl | hx
                  · exact .l (by omega) e2
                  · exact e4 x hx
                · cases h
            · cases h
          · cases h

/-! ### encoding, item by item -/
theorem encAll_append : ∀ (p : List It) (l : List Fld) (q : List It) (r : List Fld), p.length = l.length → encAll (p ++ q) (l ++ r) = match encAll p l, encAll q r with | some a, some b => some (a ++ b) | _, _ => none
  | [], [], q, r, _ => by simp [encAll]; cases encAll q r <;> rfl
  | [], _ :: _, q, r, h => by simp at h
  | _ :: _, [], q, r, h => by simp at h
  | it :: p, x :: l, q, r, h => by
    have ih := encAll_append p l q r (by simpa using h)
    simp only [List.cons_append, encAll, ih]
    cases encOne it x <;> cases encAll p l <;> cases encAll q r <;> simp
theorem encAll_len : ∀ {p : List It} {l : List Fld} {a : List UInt8}, encAll p l = some a → p.length = l.length
  | [], [], a, _ => rfl
  | [], _ :: _, a, h => by simp [encAll] at h
  | _ :: _, [], a, h => by simp [encAll] at h
  | it :: p, x :: l, a, h => by
    simp only [encAll] at h
    split at h
    · rename_i a1 a2 h1 h2
      simp [encAll_len h2]
    · cases h
/-- One item more. -/
theorem encAll_snoc {its : List It} {l : List Fld} {k : Nat} (hk : k < its.length) (hl : k < l.length) :
    encAll (its.take (k + 1)) (l.take (k + 1)) = match encAll (its.take k) (l.take k), encOne its[k] l[k] with | some a, some b => some (a ++ b) | _, _ => none := by
  rw [List.take_succ_eq_append_getElem hk, List.take_succ_eq_append_getElem hl, encAll_append _ _ _ _ (by simp; omega)]
  have : encAll [its[k]] [l[k]] = encOne its[k] l[k] := by simp only [encAll]; cases encOne its[k] l[k] <;> simp
  rw [this]
/-- Where one item is none all are none. -/
theorem encAll_bad {its : List It} {l : List Fld} {k : Nat} (hk : k < its.length) (hl : k < l.length) (h : encOne its[k] l[k] = none) : encAll its l = none := by
  have e := encAll_append (its.take (k + 1)) (l.take (k + 1)) (its.drop (k + 1)) (l.drop (k + 1)) (by simp; omega)
  rw [List.take_append_drop, List.take_append_drop, encAll_snoc hk hl, h] at e
  rw [e]
  cases encAll (its.take k) (l.take k) <;> rfl
theorem rows_append (g : List Fld → Option (List UInt8)) : ∀ (l r : List (List Fld)), rows g (l ++ r) = match rows g l, rows g r with | some a, some b => some (a ++ b) | _, _ => none
  | [], r => by simp [rows]; cases rows g r <;> rfl
  | x :: l, r => by
    have ih := rows_append g l r
    simp only [List.cons_append, rows, ih]
    cases g x <;> cases rows g l <;> cases rows g r <;> simp
theorem rows_snoc {g : List Fld → Option (List UInt8)} {l : List (List Fld)} {k : Nat} (hk : k < l.length) : rows g (l.take (k + 1)) = match rows g (l.take k), g l[k] with | some a, some b => some (a ++ b) | _, _ => none := by
  rw [List.take_succ_eq_append_getElem hk, rows_append]
  have : rows g [l[k]] = g l[k] := by simp only [rows]; cases g l[k] <;> simp
  rw [this]
theorem rows_bad {g : List Fld → Option (List UInt8)} {l : List (List Fld)} {k : Nat} (hk : k < l.length) (h : g l[k] = none) : rows g l = none := by
  have e := rows_append g (l.take (k + 1)) (l.drop (k + 1))
  rw [List.take_append_drop, rows_snoc hk, h] at e
  rw [e]
  cases rows g (l.take k) <;> rfl
end Go.Wq
end

section
/- Items that the call builds: where they lie; the parser, step by step. -/
namespace Go.Wq
set_option linter.unusedVariables false
open Go.RowKit Go.Lib

mutual
/-- An item at a place, in blocks that S lets by. -/
def ItS (w : World) (S : Nat → Prop) : It → Nat → Nat → Prop
  | .l its, b, o => S b ∧ w.cell? ⟨b, o, none⟩ = some (.int .u8 40) ∧ ∃ (a : Option Addr) (n c : Nat), w.cell? ⟨b, o + 1, none⟩ = some (.slice a n c) ∧ ItsS w S its a n
  | .u, b, o => S b ∧ w.cell? ⟨b, o, none⟩ = some (.int .u8 117)
  | .i, b, o => S b ∧ w.cell? ⟨b, o, none⟩ = some (.int .u8 105)
  | .f, b, o => S b ∧ w.cell? ⟨b, o, none⟩ = some (.int .u8 102)
  | .b, b, o => S b ∧ w.cell? ⟨b, o, none⟩ = some (.int .u8 98)
  | .t, b, o => S b ∧ w.cell? ⟨b, o, none⟩ = some (.int .u8 116)
def ItsS (w : World) (S : Nat → Prop) : List It → Option Addr → Nat → Prop
  | [], _, n => n = 0
  | x :: r, a, n => ∃ b o m, a = some ⟨b, o, none⟩ ∧ n = m + 1 ∧ ItS w S x b o ∧ ItsS w S r (some ⟨b, o + 2, none⟩) m
end
mutual
theorem ItS.kept {w w' : World} {S T : Nat → Prop} (h : ∀ k, S k → w'.heap[k]? = w.heap[k]?) (hT : ∀ k, S k → T k) : ∀ (x : It) (b o : Nat), ItS w S x b o → ItS w' T x b o
  | .l its, b, o, hx => by
    simp only [ItS] at hx ⊢
    obtain ⟨hb, c0, a, n, c, c1, h1⟩ := hx
    have e : ∀ k, w'.cell? ⟨b, k, none⟩ = w.cell? ⟨b, k, none⟩ := fun k => World.cell?_of_block (h b hb)
    exact ⟨hT b hb, (e _).trans c0, a, n, c, (e _).trans c1, ItsS.kept h hT its a n h1⟩
  | .u, b, o, hx => by simp only [ItS] at hx ⊢; exact ⟨hT b hx.1, (World.cell?_of_block (h b hx.1)).trans hx.2⟩
  | .i, b, o, hx => by simp only [ItS] at hx ⊢; exact ⟨hT b hx.1, (World.cell?_of_block (h b hx.1)).trans hx.2⟩
  | .f, b, o, hx => by simp only [ItS] at hx ⊢; exact ⟨hT b hx.1, (World.cell?_of_block (h b hx.1)).trans hx.2⟩
  | .b, b, o, hx => by simp only [ItS] at hx ⊢; exact ⟨hT b hx.1, (World.cell?_of_block (h b hx.1)).trans hx.2⟩
  | .t, b, o, hx => by simp only [ItS] at hx ⊢; exact ⟨hT b hx.1, (World.cell?_of_block (h b hx.1)).trans hx.2⟩
theorem ItsS.kept {w w' : World} {S T : Nat → Prop} (h : ∀ k, S k → w'.heap[k]? = w.heap[k]?) (hT : ∀ k, S k → T k) : ∀ (l : List It) (a : Option Addr) (n : Nat), ItsS w S l a n → ItsS w' T l a n
  | [], a, n, hx => by simpa [ItsS] using hx
  | x :: l, a, n, hx => by
    simp only [ItsS] at hx ⊢
    obtain ⟨b, o, m, ha, hn, h1, h2⟩ := hx
    exact ⟨b, o, m, ha, hn, ItS.kept h hT x b o h1, ItsS.kept h hT l _ m h2⟩
end
mutual
theorem ItS.toIn {w : World} {S : Nat → Prop} {B : Nat} (h : ∀ k, S k → k < B) : ∀ (x : It) (b o : Nat), ItS w S x b o → ItIn w B x b o
  | .l its, b, o, hx => by
    simp only [ItS] at hx; simp only [ItIn]
    obtain ⟨hb, c0, a, n, c, c1, h1⟩ := hx
    exact ⟨h b hb, c0, a, n, c, c1, ItsS.toIn h its a n h1⟩
  | .u, b, o, hx => by simp only [ItS] at hx; simp only [ItIn]; exact ⟨h b hx.1, hx.2⟩
  | .i, b, o, hx => by simp only [ItS] at hx; simp only [ItIn]; exact ⟨h b hx.1, hx.2⟩
  | .f, b, o, hx => by simp only [ItS] at hx; simp only [ItIn]; exact ⟨h b hx.1, hx.2⟩
  | .b, b, o, hx => by simp only [ItS] at hx; simp only [ItIn]; exact ⟨h b hx.1, hx.2⟩
  | .t, b, o, hx => by simp only [ItS] at hx; simp only [ItIn]; exact ⟨h b hx.1, hx.2⟩
theorem ItsS.toIn {w : World} {S : Nat → Prop} {B : Nat} (h : ∀ k, S k → k < B) : ∀ (l : List It) (a : Option Addr) (n : Nat), ItsS w S l a n → ItsIn w B l a n
  | [], a, n, hx => by simp only [ItsS] at hx; simpa only [ItsIn] using hx
  | x :: l, a, n, hx => by
    simp only [ItsS] at hx; simp only [ItsIn]
    obtain ⟨b, o, m, ha, hn, h1, h2⟩ := hx
    exact ⟨b, o, m, ha, hn, ItS.toIn h x b o h1, ItsS.toIn h l _ m h2⟩
end
theorem ItsS.len {w : World} {S : Nat → Prop} : ∀ {l : List It} {a : Option Addr} {n : Nat}, ItsS w S l a n → n = l.length
  | [], a, n, h => by simpa [ItsS] using h
  | x :: r, a, n, h => by
    simp only [ItsS] at h
    obtain ⟨b, o, m, rfl, rfl, h1, h2⟩ := h
    simp [ItsS.len h2]

/-- The cells of items in a row: a letter's code and a list; what the list holds lies in blocks that S lets by. -/
inductive Holds (w : World) (S : Nat → Prop) : List Value → List It → Prop where
  | nil : Holds w S [] []
  | cons {it : It} {v : Value} {xs : List Value} {m : List It} (hv : ∀ inner, it = .l inner → ∃ (a : Option Addr) (n c : Nat), v = .slice a n c ∧ ItsS w S inner a n) (h : Holds w S xs m) : Holds w S (.int .u8 it.code :: v :: xs) (it :: m)
theorem Holds.kept {w w' : World} {S T : Nat → Prop} (h : ∀ k, S k → w'.heap[k]? = w.heap[k]?) (hT : ∀ k, S k → T k) {xs : List Value} {m : List It} (hx : Holds w S xs m) : Holds w' T xs m := by
  induction hx with
  | nil => exact .nil
  | cons hv _ ih => exact .cons (fun inner e => by obtain ⟨a, n, c, h1, h2⟩ := hv inner e; exact ⟨a, n, c, h1, ItsS.kept h hT _ _ _ h2⟩) ih
theorem Holds.snoc {w : World} {S : Nat → Prop} {xs : List Value} {m : List It} (hx : Holds w S xs m) (it : It) (v : Value) (hv : ∀ inner, it = .l inner → ∃ (a : Option Addr) (n c : Nat), v = .slice a n c ∧ ItsS w S inner a n) : Holds w S (xs ++ [.int .u8 it.code, v]) (m ++ [it]) := by
  induction hx with
  | nil => exact .cons hv .nil
  | cons hv' _ ih => exact .cons hv' ih
theorem Holds.its {w : World} {S T : Nat → Prop} {xs : List Value} {m : List It} (hx : Holds w S xs m) : ∀ (g o : Nat), T g → (∀ k, S k → T k) → (∀ j u, xs[j]? = some u → w.cell? ⟨g, o + j, none⟩ = some u) → ItsS w T m (some ⟨g, o, none⟩) m.length := by
  induction hx with
  | nil => intro g o _ _ _; simp [ItsS]
  | @cons it v xs m hv h ih =>
    intro g o hg hST hc
    simp only [ItsS, List.length_cons]
    refine ⟨g, o, m.length, rfl, rfl, ?_, ih g (o + 2) hg hST (fun j u hj => by have := hc (j + 2) u (by simpa using hj); rwa [show o + (j + 2) = o + 2 + j by omega] at this)⟩
    have h0 := hc 0 _ rfl
    have h1 := hc 1 _ rfl
    simp only [Nat.add_zero] at h0
    cases it with
    | l inner =>
      obtain ⟨a, n, c, rfl, h2⟩ := hv inner rfl
      simp only [ItS]
      exact ⟨hg, h0, a, n, c, h1, ItsS.kept (fun _ _ => rfl) hST _ _ _ h2⟩
    | _ => simp only [ItS]; exact ⟨hg, h0⟩

/-! ### the parser, with fuel enough -/
def prs (deep : Nat) (s : List UInt8) : Option (List It × List UInt8) := parse (s.length + 1) deep s
theorem prs_nil (deep : Nat) : prs deep [] = some ([], []) := rfl
theorem prs_close (deep : Nat) (r : List UInt8) : prs deep (41 :: r) = some ([], 41 :: r) := by simp [prs, parse]
theorem prs_letter {c : UInt8} {it : It} (h : letter c = some it) (hc : c ≠ 41) (deep : Nat) (r : List UInt8) : prs deep (c :: r) = match prs deep r with | some (l, q) => some (it :: l, q) | none => none := by
  unfold prs
  rw [show (c :: r).length + 1 = (r.length + 1) + 1 from rfl, parse, if_neg hc, h]
  try rfl
theorem prs_bad {c : UInt8} (h : letter c = none) (hc : c ≠ 41) (h40 : c ≠ 40) (deep : Nat) (r : List UInt8) : prs deep (c :: r) = none := by
  unfold prs
  rw [show (c :: r).length + 1 = (r.length + 1) + 1 from rfl, parse, if_neg hc, h]
  simp [h40]
theorem prs_open (deep : Nat) (r : List UInt8) : prs deep (40 :: r) = match prs (deep + 1) r with
    | some (inn, _ :: q) => if inn = [] ∨ 8 < deep + 1 then none else (match prs deep q with | some (l, q') => some (.l inn :: l, q') | none => none)
    | _ => none := by
  unfold prs
  rw [show (40 :: r : List UInt8).length + 1 = (r.length + 1) + 1 from rfl, parse, if_neg (by decide), show letter 40 = none from rfl]
  simp only [if_true]
  cases hp : parse (r.length + 1) (deep + 1) r with
  | none => rfl
  | some x =>
    obtain ⟨inn, q⟩ := x
    cases q with
    | nil => rfl
    | cons c' q =>
      obtain ⟨p, hr, -⟩ := parse_left _ _ _ _ _ hp
      have hlen : q.length < r.length := by rw [hr]; simp; omega
      simp only []
      rw [parse_fuel (r.length + 1) (q.length + 1) deep q (by omega) (by omega)]
      try rfl
/-- Items that have been read, ahead of what is read from here on. -/
def aheadOf (m : List It) : Option (List It × List UInt8) → Option (List It × List UInt8)
  | some (l, q) => some (m ++ l, q)
  | none => none
theorem aheadOf_nil (x : Option (List It × List UInt8)) : aheadOf [] x = x := by cases x <;> rfl
theorem aheadOf_snoc (m : List It) (it : It) (x : Option (List It × List UInt8)) : aheadOf (m ++ [it]) x = aheadOf m (match x with | some (l, q) => some (it :: l, q) | none => none) := by
  cases x <;> simp [aheadOf]
theorem size_l (its : List It) : SizeOf.sizeOf (It.l its) = 1 + SizeOf.sizeOf its := by simp
theorem its_ind0 (Q : List It → Prop) (h : ∀ its, (∀ its', It.l its' ∈ its → Q its') → Q its) : ∀ (n : Nat) (its : List It), SizeOf.sizeOf its ≤ n → Q its := by
  intro n
  induction n with
  | zero => intro its hn; exact h its (fun its' hm => by have h1 := List.sizeOf_lt_of_mem hm; omega)
  | succ n ih => intro its hn; exact h its (fun its' hm => ih its' (by have h1 := List.sizeOf_lt_of_mem hm; have h2 := size_l its'; omega))
theorem its_ind (Q : List It → Prop) (h : ∀ its, (∀ its', It.l its' ∈ its → Q its') → Q its) (its : List It) : Q its := its_ind0 Q h _ its (Nat.le_refl _)
theorem prs_left {deep : Nat} {s : List UInt8} {l : List It} {q : List UInt8} (h : prs deep s = some (l, q)) : ∃ p, s = p ++ q ∧ (q = [] ∨ ∃ r, q = 41 :: r) := parse_left _ _ _ _ _ h
def Mine (base : Nat) (w : World) (v : Value) : Nat → Prop := fun k => base ≤ k ∧ k < w.heap.size ∧ v.ownBlock ≠ some k
theorem own_its {w : World} {base e : Nat} {v : Value} {m : List It} {xs : List Value} (ho : w.ownsRow base e 2 v m.length xs) (hh : Holds w (Mine base w v) xs m) :
    ∃ (a : Option Addr) (c : Nat), v = .slice a m.length c ∧ ItsS w (fun k => base ≤ k ∧ k < w.heap.size) m a m.length := by
  have hl := ho.lt
  have hc := @World.ownsRow.cells w base e 2 v m.length xs ho
  rcases ho.2 with ⟨rfl, hn⟩ | ⟨g, cap, cur, rfl, hb, hg, hr⟩
  · have : m = [] := List.eq_nil_of_length_eq_zero hn
    subst this
    exact ⟨none, 0, rfl, by simp [ItsS]⟩
  · refine ⟨some ⟨g, 0, none⟩, cap, rfl, hh.its g 0 ?_ (fun k hk => ⟨hk.1, hk.2.1⟩) ?_⟩
    · exact hl g rfl
    · intro j u hj
      have := hc (g := g) rfl j u hj
      have hadd : (⟨g, 0, none⟩ : Addr).add j = ⟨g, 0 + j, none⟩ := by unfold Addr.add; split <;> simp_all
      rwa [hadd] at this
theorem drop_cons (s : ByteArray) (p : Nat) (h : p < s.size) : s.data.toList.drop p = s[p] :: s.data.toList.drop (p + 1) := by
  rw [List.drop_eq_getElem_cons (by rw [Array.length_toList]; exact h)]
  rfl
theorem drop_end (s : ByteArray) (p : Nat) (h : ¬ p < s.size) : s.data.toList.drop p = [] := List.drop_eq_nil_of_le (by rw [Array.length_toList]; exact Nat.le_of_not_lt h)
theorem drop_len (s : ByteArray) (p : Nat) : (s.data.toList.drop p).length = s.size - p := by rw [List.length_drop, Array.length_toList]; rfl
theorem drop_back {s : ByteArray} {p : Nat} {x r : List UInt8} {c : UInt8} (h : s.data.toList.drop p = x ++ c :: r) : s.data.toList.drop (s.size - r.length) = r := by
  have hl := congrArg List.length h
  rw [drop_len, List.length_append, List.length_cons] at hl
  have e : s.size - r.length = p + (x.length + 1) := by omega
  rw [e, ← List.drop_drop, h, show x ++ c :: r = (x ++ [c]) ++ r by simp, List.drop_left' (by simp)]
theorem own_kept {w w' : World} {base e size : Nat} {v : Value} {n : Nat} {xs : List Value} (h : w.ownsRow base e size v n xs) (b : Below w.heap.size w w') : w'.ownsRow base e size v n xs :=
  h.kept (row := none) ⟨b.os, b.tape, b.output, b.size, fun k hk _ => b.block k hk⟩ (by cases v.ownBlock <;> simp)
/-- What Grew keeps of the items that the row holds. -/
theorem Holds.grew {w w' : World} {base : Nat} {v v' : Value} {xs : List Value} {m : List It} (h : Holds w (Mine base w v) xs m) (g : Grew w w' v v') : Holds w' (Mine base w' v') xs m :=
  h.kept (fun k hk => g.g.block k hk.2.1 (fun e => hk.2.2 e.symm)) (fun k hk => ⟨hk.1, Nat.lt_of_lt_of_le hk.2.1 g.g.size, g.other hk.2.1 hk.2.2⟩)
mutual
theorem FldIn.kept_up {w : World} {B C : Nat} (hc : B ≤ C) : ∀ (x : Fld) (b o : Nat), FldIn w B x b o → FldIn w C x b o
  | .mk u i f bb t l, b, o, hx => by
    simp only [FldIn] at hx ⊢
    obtain ⟨hb, c0, c1, c2, c3, c4, ra, rn, rc, c5, hr⟩ := hx
    exact ⟨Nat.lt_of_lt_of_le hb hc, c0, c1, c2, c3, c4, ra, rn, rc, c5, RowsIn.kept_up hc l ra rn hr⟩
theorem RowsIn.kept_up {w : World} {B C : Nat} (hc : B ≤ C) : ∀ (l : List (List Fld)) (a : Option Addr) (n : Nat), RowsIn w B l a n → RowsIn w C l a n
  | [], a, n, hx => by simpa [RowsIn] using hx
  | r :: l, a, n, hx => by
    simp only [RowsIn] at hx ⊢
    obtain ⟨b, o, m, ha, hn, hb, ⟨sa, sn, sc, c, h1⟩, h2⟩ := hx
    exact ⟨b, o, m, ha, hn, Nat.lt_of_lt_of_le hb hc, ⟨sa, sn, sc, c, FldsIn.kept_up0 hc r sa sn h1⟩, RowsIn.kept_up hc l _ m h2⟩
theorem FldsIn.kept_up0 {w : World} {B C : Nat} (hc : B ≤ C) : ∀ (l : List Fld) (a : Option Addr) (n : Nat), FldsIn w B l a n → FldsIn w C l a n
  | [], a, n, hx => by simpa [FldsIn] using hx
  | x :: l, a, n, hx => by
    simp only [FldsIn] at hx ⊢
    obtain ⟨b, o, m, ha, hn, h1, h2⟩ := hx
    exact ⟨b, o, m, ha, hn, FldIn.kept_up hc x b o h1, FldsIn.kept_up0 hc l _ m h2⟩
end
theorem FldsIn.kept_up {w : World} {B C : Nat} {l : List Fld} {a : Option Addr} {n : Nat} (h : FldsIn w B l a n) (hc : B ≤ C) : FldsIn w C l a n := FldsIn.kept_up0 hc l a n h
end Go.Wq
end

section
/- Rows as long as a machine may hold. -/
namespace Go.Wq
set_option linter.unusedVariables false
/-- Every row is shorter than 2 ^ 62. -/
inductive Fld.Len : Fld → Prop where
  | mk {u : Nat} {i : Int} {f : Nat} {b : Bool} {t : List UInt8} {l : List (List Fld)} (hn : l.length < 4611686018427387904) (hr : ∀ r ∈ l, r.length < 4611686018427387904) (hl : ∀ r ∈ l, ∀ x ∈ r, Fld.Len x) : Fld.Len (.mk u i f b t l)
theorem Fld.Len.n {x : Fld} (h : x.Len) : x.L.length < 4611686018427387904 := by cases h; assumption
theorem Fld.Len.r {x : Fld} (h : x.Len) : ∀ r ∈ x.L, r.length < 4611686018427387904 := by cases h; assumption
theorem Fld.Len.l {x : Fld} (h : x.Len) : ∀ r ∈ x.L, ∀ y ∈ r, y.Len := by cases h; assumption
theorem size_row {x : Fld} {r : List Fld} (h : r ∈ x.L) : SizeOf.sizeOf r < SizeOf.sizeOf x := by
  obtain ⟨u, i, f, b, t, l⟩ := x
  have h1 := List.sizeOf_lt_of_mem (show r ∈ l from h)
  simp only [Fld.mk.sizeOf_spec]
  omega
theorem flds_ind0 (Q : List Fld → Prop) (h : ∀ fs, (∀ x ∈ fs, ∀ r ∈ x.L, Q r) → Q fs) : ∀ (n : Nat) (fs : List Fld), SizeOf.sizeOf fs ≤ n → Q fs := by
  intro n
  induction n with
  | zero => intro fs hn; exact h fs (fun x hx r hr => by have h1 := List.sizeOf_lt_of_mem hx; omega)
  | succ n ih => intro fs hn; exact h fs (fun x hx r hr => ih r (by have h1 := List.sizeOf_lt_of_mem hx; have h2 := size_row hr; omega))
theorem flds_ind (Q : List Fld → Prop) (h : ∀ fs, (∀ x ∈ fs, ∀ r ∈ x.L, Q r) → Q fs) (fs : List Fld) : Q fs := flds_ind0 Q h _ fs (Nat.le_refl _)
theorem eq_of_take {α : Type} {a b : List α} (hl : a.length = b.length) : (∀ k (h1 : k < a.length) (h2 : k < b.length), a[k] = b[k]) → a = b := fun h => List.ext_getElem hl h
end Go.Wq
end

section
/- Fields that come in: what a call's arguments hold. -/
namespace Go.Wq
set_option linter.unusedVariables false
open Go.RowKit Go.Lib

theorem mapM_at {α β : Type} {f : α → Option β} : ∀ {l : List α} {r : List β}, l.mapM f = some r → r.length = l.length ∧ ∀ i (h : i < l.length) (h' : i < r.length), f l[i] = some r[i] := by
  intro l
  induction l with
  | nil =>
    intro r h
    have : r = [] := by simpa using h.symm
    subst this
    exact ⟨rfl, fun i h => by simp at h⟩
  | cons x l ih =>
    intro r h
    rw [List.mapM_cons] at h
    cases hx : f x with
    | none => simp [hx] at h
    | some y =>
      cases hl : l.mapM f with
      | none => simp [hx, hl] at h
      | some ys =>
        simp [hx, hl] at h
        subst h
        obtain ⟨h1, h2⟩ := ih hl
        refine ⟨by simp [h1], fun i hi hi' => ?_⟩
        cases i with
        | zero => simpa using hx
        | succ i => simpa using h2 i (by simpa using hi) (by simpa using hi')

theorem cells_at {w : World} {a : Addr} {k : Nat} {cs : List Value} (h : w.cells? 0 a k = some cs) : cs.length = k ∧ ∀ i (hi : i < cs.length), w.cell? (a.add i) = some cs[i] := by
  unfold World.cells? at h
  rw [if_pos (Nat.zero_le _)] at h
  obtain ⟨h1, h2⟩ := mapM_at h
  rw [List.length_range] at h1
  refine ⟨h1, fun i hi => ?_⟩
  have := h2 i (by simpa [h1] using hi) hi
  simpa using this
theorem add_none (b o i : Nat) : (⟨b, o, none⟩ : Addr).add i = ⟨b, o + i, none⟩ := by
  unfold Addr.add
  split
  · rename_i h; subst h; rfl
  · rfl
theorem add_zero (a : Addr) : a.add 0 = a := by unfold Addr.add; simp


theorem list_of {α : Type} {Q : Nat → α → Prop} : ∀ (n : Nat), (∀ i, i < n → ∃ x, Q i x) → ∃ l : List α, l.length = n ∧ ∀ i (h : i < l.length), Q i l[i] := by
  intro n
  induction n with
  | zero => exact fun _ => ⟨[], rfl, fun i h => by simp at h⟩
  | succ n ih =>
    intro h
    obtain ⟨l, h1, h2⟩ := ih (fun i hi => h i (by omega))
    obtain ⟨x, hx⟩ := h n (by omega)
    refine ⟨l ++ [x], by simp [h1], fun i hi => ?_⟩
    by_cases hl : i < l.length
    · rw [List.getElem_append_left hl]; exact h2 i hl
    · have : i = n := by simp at hi; omega
      subst this
      rw [List.getElem_append_right (by omega)]
      simpa using hx

theorem flds_of_at {w : World} {B : Nat} : ∀ (fs : List Fld) (b o : Nat), (∀ i (h : i < fs.length), FldIn w B fs[i] b (o + i * 6)) → FldsIn w B fs (some ⟨b, o, none⟩) fs.length
  | [], b, o, _ => by simp [FldsIn]
  | x :: r, b, o, h => by
    simp only [FldsIn]
    have h0 := h 0 (by simp)
    simp only [Nat.zero_mul, Nat.add_zero, List.getElem_cons_zero] at h0
    refine ⟨b, o, r.length, rfl, by simp, h0, flds_of_at r b (o + 6) (fun i hi => ?_)⟩
    have := h (i + 1) (by simpa using hi)
    rw [show o + (i + 1) * 6 = o + 6 + i * 6 by omega] at this
    simpa using this
theorem rows_of_at {w : World} {B : Nat} : ∀ (l : List (List Fld)) (b o : Nat), b < B → (∀ i (h : i < l.length), ∃ (sa : Option Addr) (sn sc : Nat), w.cell? ⟨b, o + i, none⟩ = some (.slice sa sn sc) ∧ FldsIn w B l[i] sa sn) → RowsIn w B l (some ⟨b, o, none⟩) l.length
  | [], b, o, _, _ => by simp [RowsIn]
  | x :: r, b, o, hb, h => by
    simp only [RowsIn]
    have h0 := h 0 (by simp)
    simp only [Nat.add_zero, List.getElem_cons_zero] at h0
    refine ⟨b, o, r.length, rfl, by simp, hb, h0, rows_of_at r b (o + 1) hb (fun i hi => ?_)⟩
    have := h (i + 1) (by simpa using hi)
    rw [show o + (i + 1) = o + 1 + i by omega] at this
    simpa using this

/-- The types of fields, as a program has them. -/
structure FldTypes (P : Program) (tS tE tR tU tI tF tB tT : TypeId) : Prop where
  s : P.underlying tS = some (.slice tE)
  r : P.underlying tR = some (.slice tS)
  u : P.underlying tU = some (.int .u64)
  i : P.underlying tI = some (.int .i64)
  f : P.underlying tF = some (.float .f64)
  b : P.underlying tB = some .bool
  t : P.underlying tT = some .string
  e : ∃ fs : Array Field, P.underlying tE = some (.struct fs) ∧ fs.size = 6 ∧ fs.toList.map (fun f => (f.type, f.offset)) = [(tU, 0), (tI, 1), (tF, 2), (tB, 3), (tT, 4), (tR, 5)]
  cE : P.cellsOf tE = 6
  cS : P.cellsOf tS = 1
  cR : P.cellsOf tR = 1
  cU : P.cellsOf tU = 1
  cI : P.cellsOf tI = 1
  cF : P.cellsOf tF = 1
  cB : P.cellsOf tB = 1
  cT : P.cellsOf tT = 1
  bE : P.bytesOf tE = 72
  bS : P.bytesOf tS = 24

theorem trod_float {H : Type} {enc : TypeId × Value → H} {P : Program} {w : World} {base : Nat} {spare : Nat → Bool} {held : Bool} {fuel t : Nat} {cs : List Value} {x : DataW H × List MemPlace} {k : FloatKind} (ht : P.underlying t = some (.float k))
    (h : DataW.trod enc P w base spare held fuel t cs = some x) : ∃ n, cs = [.float k n] ∧ x = (.lit (.float k n), []) ∧ (Lit.float k n).wf = true := by
  cases fuel with
  | zero => simp [DataW.trod] at h
  | succ n =>
    unfold DataW.trod at h
    rw [ht] at h
    split at h <;> simp_all

/-- What fields that come in are: whole, and as great as a machine may hold. -/
def Fine (y : Fld) : Prop := y.Ok ∧ y.Fit ∧ y.Len

theorem spot_of {w : World} {x : Addr} {v : Value} (h : w.cell? x = some v) : ∃ b o, x = ⟨b, o, none⟩ ∧ b < w.heap.size := by
  obtain ⟨b, o, sp⟩ := x
  have hsp : sp = none := World.cell?_spot h
  subst hsp
  refine ⟨b, o, rfl, ?_⟩
  rcases Nat.lt_or_ge b w.heap.size with g | g
  · exact g
  · have : w.heap[b]? = none := by simp [g]
    simp [World.cell?, this] at h

section
variable {H : Type} {enc : TypeId × Value → H} {P : Program} {w : World} {spare : Nat → Bool} {held : Bool} {tS tE tR tU tI tF tB tT : TypeId}
/-- The elements of a slice that is read. -/
theorem open_slice {fuel t e k : Nat} {a : Option Addr} {n c : Nat} {x : DataW H × List MemPlace} (ht : P.underlying t = some (.slice e)) (hk : P.cellsOf e = k) (hk0 : 0 < k) (h : DataW.trod enc P w 0 spare held fuel t [.slice a n c] = some x) :
    n = 0 ∨ ∃ m b o el sp, fuel = m + 1 ∧ a = some ⟨b, o, none⟩ ∧ b < w.heap.size ∧ x.1 = .slice el sp ∧ el.length = n ∧
      ∀ i (hi : i < el.length), ∃ cs ps', cs.length = k ∧ (∀ j (hj : j < cs.length), w.cell? ⟨b, o + i * k + j, none⟩ = some cs[j]) ∧ DataW.trod enc P w 0 spare held m e cs = some (el[i], ps') := by
  rcases DataW.trod_slice ht h with ⟨h1, h2⟩ | ⟨x0, len, cap, elems, rest, m, rfl, hcs, rfl, -, hlc, hcm, hel, hat, -, -⟩
  · left; simp at h1; exact h1.2.1
  · simp only [List.cons.injEq, Value.slice.injEq, and_true] at hcs
    obtain ⟨rfl, rfl, rfl⟩ := hcs
    by_cases hn : n = 0
    · exact Or.inl hn
    · right
      rw [hk] at hat
      have hgo : ∀ i (hi : i < elems.length), ∃ cs, w.cells? 0 (x0.add (i * k)) k = some cs ∧ DataW.trod enc P w 0 spare held m e cs = some elems[i] := fun i hi => by
        have := hat i (by omega)
        rw [List.getElem?_eq_getElem hi, Option.bind_eq_some_iff] at this
        exact this
      obtain ⟨cs0, hc0, -⟩ := hgo 0 (by omega)
      obtain ⟨g1, g2⟩ := cells_at hc0
      have g3 := g2 0 (by omega)
      rw [Nat.zero_mul, add_zero, add_zero] at g3
      obtain ⟨b, o, rfl, hb⟩ := spot_of g3
      refine ⟨m, b, o, elems.map (·.1), rest.map (·.1), rfl, rfl, hb, rfl, by simpa using hel, fun i hi => ?_⟩
      rw [List.length_map] at hi
      obtain ⟨cs, hc1, hc2⟩ := hgo i hi
      obtain ⟨g4, g5⟩ := cells_at hc1
      refine ⟨cs, (elems[i]).2, g4, fun j hj => ?_, by rw [hc2, List.getElem_map]⟩
      have := g5 j hj
      rw [add_none, add_none] at this
      exact this

theorem weights_all {e : TypeId} : ∀ {l : List (DataW H)} {i : Nat} (hi : i < l.length), ∀ n ∈ (l[i]).weights P e, n ∈ DataW.weightsAll P e l
  | d :: r, 0, hi, n, hn => by simp only [DataW.weightsAll, List.mem_append]; exact Or.inl hn
  | d :: r, i + 1, hi, n, hn => by simp only [DataW.weightsAll, List.mem_append]; exact Or.inr (weights_all (by simpa using hi) n (by simpa using hn))
theorem weights_elem {t e : TypeId} (ht : P.underlying t = some (.slice e)) {el sp : List (DataW H)} {Q : Nat → Prop} (h : ∀ n ∈ (DataW.slice el sp).weights P t, Q n) : Q ((el.length + sp.length) * P.bytesOf e) ∧ ∀ i (hi : i < el.length), ∀ n ∈ (el[i]).weights P e, Q n := by
  simp only [DataW.weights, ht, List.mem_cons, List.mem_append] at h
  exact ⟨h _ (Or.inl rfl), fun i hi n hn => h n (Or.inr (Or.inl (weights_all hi n hn)))⟩

theorem open_fld (T : FldTypes P tS tE tR tU tI tF tB tT) (fuel : Nat)
    (IH : ∀ m, m < fuel → ∀ (a : Option Addr) (n c : Nat) (d : DataW H) (ps : List MemPlace), DataW.trod enc P w 0 spare held m tS [.slice a n c] = some (d, ps) → (∀ x ∈ d.weights P tS, x ≤ reachBytes) →
      ∃ fs : List Fld, FldsIn w w.heap.size fs a fs.length ∧ n = fs.length ∧ (∀ y ∈ fs, Fine y) ∧ fs.length * 72 ≤ reachBytes)
    (b o : Nat) (cs : List Value) (d : DataW H) (ps : List MemPlace) (hb : b < w.heap.size) (hc : ∀ j (hj : j < cs.length), w.cell? ⟨b, o + j, none⟩ = some cs[j])
    (h : DataW.trod enc P w 0 spare held fuel tE cs = some (d, ps)) (hw : ∀ x ∈ d.weights P tE, x ≤ reachBytes) : ∃ x : Fld, FldIn w w.heap.size x b o ∧ Fine x := by
  obtain ⟨fs, hfs, hsz, hmap⟩ := T.e
  obtain ⟨xs, n, rfl, hx, hcl, hxl, hat⟩ := DataW.trod_struct hfs h
  rw [T.cE] at hcl
  rw [hsz] at hxl
  have hty : ∀ i (hi : i < 6), ∃ f, fs[i]? = some f ∧ (f.type, f.offset) = ([(tU, 0), (tI, 1), (tF, 2), (tB, 3), (tT, 4), (tR, 5)] : List (TypeId × Nat))[i] := fun i hi => by
    have h1 : i < fs.size := by omega
    refine ⟨fs[i], by simp [h1], ?_⟩
    have h2 : (fs.toList.map (fun f => (f.type, f.offset)))[i]? = some (fs[i].type, fs[i].offset) := by simp [h1]
    rw [hmap] at h2
    rw [List.getElem?_eq_getElem (by simpa using hi)] at h2
    exact (Option.some.inj h2).symm
  match cs, hcl, xs, hxl with
  | [v0, v1, v2, v3, v4, v5], _, [x0, x1, x2, x3, x4, x5], _ =>
    have g : ∀ i (hi : i < 6), ∀ t k, ([(tU, 0), (tI, 1), (tF, 2), (tB, 3), (tT, 4), (tR, 5)] : List (TypeId × Nat))[i]'(by simpa using hi) = (t, k) → P.cellsOf t = 1 → DataW.trod enc P w 0 spare held n t (([v0, v1, v2, v3, v4, v5].drop k).take 1) = [x0, x1, x2, x3, x4, x5][i]? := fun i hi t k e ht => by
      obtain ⟨f, hf, hp⟩ := hty i hi
      rw [e] at hp
      have h1 := hat i f hf
      have e1 : f.type = t := congrArg Prod.fst hp
      have e2 : f.offset = k := congrArg Prod.snd hp
      rw [e1, e2, ht] at h1
      exact h1
    have e0 := g 0 (by omega) _ _ rfl T.cU
    have e1 := g 1 (by omega) _ _ rfl T.cI
    have e2 := g 2 (by omega) _ _ rfl T.cF
    have e3 := g 3 (by omega) _ _ rfl T.cB
    have e4 := g 4 (by omega) _ _ rfl T.cT
    have e5 := g 5 (by omega) _ _ rfl T.cR
    simp at e0 e1 e2 e3 e4 e5
    obtain ⟨u, hu, -, wu⟩ := DataW.trod_int T.u e0
    obtain ⟨iv, hi, -, wi⟩ := DataW.trod_int T.i e1
    obtain ⟨fv, hf, -, wf⟩ := trod_float T.f e2
    obtain ⟨bv, hbv, -⟩ := DataW.trod_bool T.b e3
    obtain ⟨sv, hs, hsx, ws⟩ := DataW.trod_string T.t e4
    simp only [List.cons.injEq, and_true] at hu hi hf hbv hs
    subst hu; subst hi; subst hf; subst hbv; subst hs
    have bu := bounds_u64 wu
    have bi := bounds_i64 wi
    have bf : fv < 2 ^ 64 := of_decide_eq_true wf
    have hd : d = .agg ([x0, x1, x2, x3, x4, x5].map (·.1)) := congrArg Prod.fst hx
    subst hd
    have hW : ∀ (j : Nat) (t : TypeId) (dj : DataW H), (fs.toList.map (·.type))[j]? = some t → ([x0, x1, x2, x3, x4, x5].map (·.1))[j]? = some dj → ∀ m ∈ dj.weights P t, m ≤ reachBytes := fun j t dj h1 h2 m hm =>
      hw m (by simp only [DataW.weights, hfs]; exact DataW.weights_mem_each h1 h2 m hm)
    have hts : fs.toList.map (·.type) = [tU, tI, tF, tB, tT, tR] := by
      have := congrArg (List.map Prod.fst) hmap
      simpa [List.map_map, Function.comp_def] using this
    rw [hts] at hW
    have hst : sv.size ≤ reachBytes := by
      have := hW 4 tT x4.1 rfl rfl sv.data.toList.length (by rw [hsx]; simp [DataW.weights])
      rw [Array.length_toList] at this
      exact this
    have hwr := hW 5 tR x5.1 rfl rfl
    obtain ⟨un, rfl⟩ : ∃ un : Nat, u = (un : Int) := ⟨u.toNat, by omega⟩
    have c0 := hc 0 (by simp)
    have c1 := hc 1 (by simp)
    have c2 := hc 2 (by simp)
    have c3 := hc 3 (by simp)
    have c4 := hc 4 (by simp)
    have c5 := hc 5 (by simp)
    simp at c0 c1 c2 c3 c4 c5
    have hsl : ∃ ra rn rc, v5 = .slice ra rn rc := by
      rcases DataW.trod_slice T.r e5 with ⟨h1, -⟩ | ⟨x0', len, cap, elems, rest, m', -, h1, -⟩
      · simp at h1; exact ⟨_, _, _, h1⟩
      · simp at h1; exact ⟨_, _, _, h1⟩
    obtain ⟨ra, rn, rc, rfl⟩ := hsl
    have hrow : ∃ l : List (List Fld), RowsIn w w.heap.size l ra l.length ∧ rn = l.length ∧ (∀ r ∈ l, (∀ y ∈ r, Fine y) ∧ r.length * 72 ≤ reachBytes) ∧ l.length * 24 ≤ reachBytes := by
      rcases open_slice (k := 1) T.r T.cS (by omega) e5 with h0 | ⟨m, b', o', el, sp, rfl, rfl, hb', he, hel, hel2⟩
      · exact ⟨[], by simp [RowsIn], h0, by simp, by simp⟩
      · rw [he] at hwr
        obtain ⟨hq, hq2⟩ := weights_elem T.r hwr
        rw [T.bS] at hq
        obtain ⟨l, hl, hl2⟩ := list_of (Q := fun i (r : List Fld) => (∃ (sa : Option Addr) (sn sc : Nat), w.cell? ⟨b', o' + i, none⟩ = some (.slice sa sn sc) ∧ FldsIn w w.heap.size r sa sn) ∧ (∀ y ∈ r, Fine y) ∧ r.length * 72 ≤ reachBytes) el.length (fun i hi => by
          obtain ⟨cs, ps', hcl, hcc, htr⟩ := hel2 i hi
          match cs, hcl with
          | [v], _ =>
            have hv : ∃ sa sn sc, v = .slice sa sn sc := by
              rcases DataW.trod_slice T.s htr with ⟨h1, -⟩ | ⟨x0', len, cap, elems, rest, m', -, h1, -⟩
              · simp at h1; exact ⟨_, _, _, h1⟩
              · simp at h1; exact ⟨_, _, _, h1⟩
            obtain ⟨sa, sn, sc, rfl⟩ := hv
            obtain ⟨r, h1, h2, h3, h4⟩ := IH m (by omega) sa sn sc _ _ htr (hq2 i hi)
            subst h2
            have h5 := hcc 0 (by simp)
            simp at h5
            exact ⟨r, ⟨sa, _, sc, h5, h1⟩, h3, h4⟩)
        refine ⟨l, rows_of_at l b' o' hb' (fun i hi => (hl2 i hi).1), by omega, fun r hr => ?_, by have := Nat.mul_le_mul_right 24 (Nat.le_add_right el.length sp.length); omega⟩
        obtain ⟨i, hi, rfl⟩ := List.getElem_of_mem hr
        exact (hl2 i hi).2
    obtain ⟨l, hrow, rfl, hfine, hl24⟩ := hrow
    have hR : reachBytes = 140737488351232 := rfl
    refine ⟨.mk un iv fv bv sv.data.toList l, ?_, ?_, ?_, ?_⟩
    · simp only [FldIn]
      exact ⟨hb, c0, c1, c2, c3, ⟨sv, rfl, c4⟩, ra, _, rc, c5, hrow⟩
    · exact .mk (by omega) (by omega) (by omega) bf (by rw [Array.length_toList]; have : sv.data.size = sv.size := rfl; omega) (by omega) (fun r hr y hy => ((hfine r hr).1 y hy).1)
    · exact .mk (by rw [Array.length_toList]; have : sv.data.size = sv.size := rfl; omega) (fun r hr y hy => ((hfine r hr).1 y hy).2.1)
    · exact .mk (by omega) (fun r hr => by have := (hfine r hr).2; omega) (fun r hr y hy => ((hfine r hr).1 y hy).2.2)

theorem open_flds (T : FldTypes P tS tE tR tU tI tF tB tT) : ∀ (fuel : Nat) (a : Option Addr) (n c : Nat) (d : DataW H) (ps : List MemPlace), DataW.trod enc P w 0 spare held fuel tS [.slice a n c] = some (d, ps) → (∀ x ∈ d.weights P tS, x ≤ reachBytes) →
      ∃ fs : List Fld, FldsIn w w.heap.size fs a fs.length ∧ n = fs.length ∧ (∀ y ∈ fs, Fine y) ∧ fs.length * 72 ≤ reachBytes := by
  intro fuel
  induction fuel using Nat.strongRecOn with
  | _ fuel ih =>
    intro a n c d ps h hw
    rcases open_slice (k := 6) T.s T.cE (by omega) h with h0 | ⟨m, b, o, el, sp, rfl, rfl, hb, he, hel, hel2⟩
    · exact ⟨[], by simp [FldsIn], h0, by simp, by simp⟩
    · simp only [] at he
      rw [he] at hw
      obtain ⟨hq, hq2⟩ := weights_elem T.s hw
      rw [T.bE] at hq
      obtain ⟨l, hl, hl2⟩ := list_of (Q := fun i (x : Fld) => FldIn w w.heap.size x b (o + i * 6) ∧ Fine x) el.length (fun i hi => by
        obtain ⟨cs, ps', hcl, hcc, htr⟩ := hel2 i hi
        exact open_fld T m (fun m' hm' => ih m' (by omega)) b (o + i * 6) cs _ _ hb hcc htr (hq2 i hi))
      refine ⟨l, flds_of_at l b o (fun i hi => (hl2 i hi).1), by omega, fun y hy => ?_, by have := Nat.mul_le_mul_right 72 (Nat.le_add_right el.length sp.length); omega⟩
      obtain ⟨i, hi, rfl⟩ := List.getElem_of_mem hy
      exact (hl2 i hi).2
end
end Go.Wq
end

section
/- How great the items of a text may be. -/
namespace Go.Wq
set_option linter.unusedVariables false

theorem letter_size {c : UInt8} {it : It} (h : letter c = some it) : SizeOf.sizeOf it = 1 := by
  unfold letter at h
  split at h
  · cases h; rfl
  · split at h
    · cases h; rfl
    · split at h
      · cases h; rfl
      · split at h
        · cases h; rfl
        · split at h
          · cases h; rfl
          · cases h
theorem parse_size : ∀ (n deep : Nat) (s : List UInt8) (l : List It) (q : List UInt8), parse n deep s = some (l, q) → SizeOf.sizeOf l + 4 * q.length ≤ 4 * s.length + 1 := by
  intro n
  induction n with
  | zero => intro deep s l q h; simp [parse] at h
  | succ n ih =>
    intro deep s l q h
    cases s with
    | nil => simp only [parse] at h; injection h with h; injection h with h1 h2; subst h1; subst h2; simp
    | cons c r =>
      simp only [List.length_cons]
      simp only [parse] at h
      split at h
      · injection h with h; injection h with h1 h2; subst h1; subst h2; simp; omega
      · split at h
        · rename_i it hit
          split at h
          · rename_i l' q' hp
            injection h with h; injection h with h1 h2; subst h1; subst h2
            have e1 := ih _ _ _ _ hp
            have e2 := letter_size hit
            simp only [List.cons.sizeOf_spec]
            omega
          · cases h
        · split at h
          · split at h
            · rename_i inn c' q1 hp
              split at h
              · cases h
              · rename_i hno
                split at h
                · rename_i l' q' hp2
                  injection h with h; injection h with h1 h2; subst h1; subst h2
                  have e1 := ih _ _ _ _ hp
                  simp only [List.length_cons] at e1
                  have e2 := ih _ _ _ _ hp2
                  simp only [List.cons.sizeOf_spec, It.l.sizeOf_spec]
                  omega
                · cases h
            · cases h
          · cases h
theorem shape_size {s : List UInt8} {l : List It} (h : Go.Wq.shape s = some l) : SizeOf.sizeOf l ≤ 1025 := by
  unfold Go.Wq.shape at h
  split at h
  · cases h
  · split at h
    · rename_i l' hp
      injection h with h; subst h
      have h1 := parse_size _ _ _ _ _ hp
      simp at h1; omega
    · cases h
theorem size_mem {its inner : List It} (h : It.l inner ∈ its) : SizeOf.sizeOf inner < SizeOf.sizeOf its := by
  have h1 := List.sizeOf_lt_of_mem h
  have h2 := size_l inner
  omega
theorem or8a : ∀ m : Fin 256, bits BinOp.or IntKind.u8 ((m.val : Nat) : Int) 128 = ((m.val % 128 + 128 : Nat) : Int) := by decide +kernel
theorem or8 (n : Nat) : bits BinOp.or IntKind.u8 ((n : Int) % 256) 128 = ((UInt8.ofNat (n % 128 + 128)).toNat : Int) := by
  have h := or8a ⟨n % 256, Nat.mod_lt _ (by omega)⟩
  have e : (n : Int) % 256 = ((n % 256 : Nat) : Int) := by omega
  rw [e, toNat_ofNat (by omega)]
  rw [h]
  have : n % 256 % 128 = n % 128 := by omega
  simp [this]
end Go.Wq
end

section
/- Items in memory, both cells of each. -/
namespace Go.Wq
set_option linter.unusedVariables false
open Go.RowKit Go.Lib

def It.inner : It → List It
  | .l its => its
  | _ => []
mutual
/-- An item at a place, in blocks that S lets by: its letter and what stands within. -/
def ItZ (w : World) (S : Nat → Prop) : It → Nat → Nat → Prop
  | .l its, b, o => S b ∧ w.cell? ⟨b, o, none⟩ = some (.int .u8 40) ∧ ∃ (a : Option Addr) (n c : Nat), w.cell? ⟨b, o + 1, none⟩ = some (.slice a n c) ∧ ItsZ w S its a n
  | .u, b, o => S b ∧ w.cell? ⟨b, o, none⟩ = some (.int .u8 117) ∧ ∃ (a : Option Addr) (c : Nat), w.cell? ⟨b, o + 1, none⟩ = some (.slice a 0 c)
  | .i, b, o => S b ∧ w.cell? ⟨b, o, none⟩ = some (.int .u8 105) ∧ ∃ (a : Option Addr) (c : Nat), w.cell? ⟨b, o + 1, none⟩ = some (.slice a 0 c)
  | .f, b, o => S b ∧ w.cell? ⟨b, o, none⟩ = some (.int .u8 102) ∧ ∃ (a : Option Addr) (c : Nat), w.cell? ⟨b, o + 1, none⟩ = some (.slice a 0 c)
  | .b, b, o => S b ∧ w.cell? ⟨b, o, none⟩ = some (.int .u8 98) ∧ ∃ (a : Option Addr) (c : Nat), w.cell? ⟨b, o + 1, none⟩ = some (.slice a 0 c)
  | .t, b, o => S b ∧ w.cell? ⟨b, o, none⟩ = some (.int .u8 116) ∧ ∃ (a : Option Addr) (c : Nat), w.cell? ⟨b, o + 1, none⟩ = some (.slice a 0 c)
def ItsZ (w : World) (S : Nat → Prop) : List It → Option Addr → Nat → Prop
  | [], _, n => n = 0
  | x :: r, a, n => ∃ b o m, a = some ⟨b, o, none⟩ ∧ n = m + 1 ∧ ItZ w S x b o ∧ ItsZ w S r (some ⟨b, o + 2, none⟩) m
end
theorem ItZ.all {w : World} {S : Nat → Prop} {x : It} {b o : Nat} (h : ItZ w S x b o) : S b ∧ w.cell? ⟨b, o, none⟩ = some (.int .u8 x.code) ∧ ∃ (a : Option Addr) (n c : Nat), w.cell? ⟨b, o + 1, none⟩ = some (.slice a n c) ∧ ItsZ w S x.inner a n := by
  cases x with
  | l its => simpa only [ItZ, It.inner, It.code] using h
  | _ =>
    simp only [ItZ] at h
    obtain ⟨h1, h2, a, c, h3⟩ := h
    exact ⟨h1, h2, a, 0, c, h3, by simp [It.inner, ItsZ]⟩
theorem ItZ.of {w : World} {S : Nat → Prop} {x : It} {b o : Nat} (h : S b ∧ w.cell? ⟨b, o, none⟩ = some (.int .u8 x.code) ∧ ∃ (a : Option Addr) (n c : Nat), w.cell? ⟨b, o + 1, none⟩ = some (.slice a n c) ∧ ItsZ w S x.inner a n) : ItZ w S x b o := by
  cases x with
  | l its => simpa only [ItZ, It.inner, It.code] using h
  | _ =>
    simp only [It.inner, ItsZ] at h
    obtain ⟨h1, h2, a, n, c, h3, rfl⟩ := h
    simp only [ItZ]
    exact ⟨h1, h2, a, c, h3⟩
mutual
theorem ItZ.kept {w w' : World} {S T : Nat → Prop} (h : ∀ k, S k → w'.heap[k]? = w.heap[k]?) (hT : ∀ k, S k → T k) : ∀ (x : It) (b o : Nat), ItZ w S x b o → ItZ w' T x b o
  | .l its, b, o, hx => by
    simp only [ItZ] at hx ⊢
    obtain ⟨hb, c0, a, n, c, c1, h1⟩ := hx
    have e : ∀ k, w'.cell? ⟨b, k, none⟩ = w.cell? ⟨b, k, none⟩ := fun k => World.cell?_of_block (h b hb)
    exact ⟨hT b hb, (e _).trans c0, a, n, c, (e _).trans c1, ItsZ.kept h hT its a n h1⟩
  | .u, b, o, hx => by simp only [ItZ] at hx ⊢; obtain ⟨h1, h2, a, c, h3⟩ := hx; exact ⟨hT b h1, (World.cell?_of_block (h b h1)).trans h2, a, c, (World.cell?_of_block (h b h1)).trans h3⟩
  | .i, b, o, hx => by simp only [ItZ] at hx ⊢; obtain ⟨h1, h2, a, c, h3⟩ := hx; exact ⟨hT b h1, (World.cell?_of_block (h b h1)).trans h2, a, c, (World.cell?_of_block (h b h1)).trans h3⟩
  | .f, b, o, hx => by simp only [ItZ] at hx ⊢; obtain ⟨h1, h2, a, c, h3⟩ := hx; exact ⟨hT b h1, (World.cell?_of_block (h b h1)).trans h2, a, c, (World.cell?_of_block (h b h1)).trans h3⟩
  | .b, b, o, hx => by simp only [ItZ] at hx ⊢; obtain ⟨h1, h2, a, c, h3⟩ := hx; exact ⟨hT b h1, (World.cell?_of_block (h b h1)).trans h2, a, c, (World.cell?_of_block (h b h1)).trans h3⟩
  | .t, b, o, hx => by simp only [ItZ] at hx ⊢; obtain ⟨h1, h2, a, c, h3⟩ := hx; exact ⟨hT b h1, (World.cell?_of_block (h b h1)).trans h2, a, c, (World.cell?_of_block (h b h1)).trans h3⟩
theorem ItsZ.kept {w w' : World} {S T : Nat → Prop} (h : ∀ k, S k → w'.heap[k]? = w.heap[k]?) (hT : ∀ k, S k → T k) : ∀ (l : List It) (a : Option Addr) (n : Nat), ItsZ w S l a n → ItsZ w' T l a n
  | [], a, n, hx => by simpa [ItsZ] using hx
  | x :: l, a, n, hx => by
    simp only [ItsZ] at hx ⊢
    obtain ⟨b, o, m, ha, hn, h1, h2⟩ := hx
    exact ⟨b, o, m, ha, hn, ItZ.kept h hT x b o h1, ItsZ.kept h hT l _ m h2⟩
end
theorem ItsZ.len {w : World} {S : Nat → Prop} : ∀ {l : List It} {a : Option Addr} {n : Nat}, ItsZ w S l a n → n = l.length
  | [], a, n, h => by simpa [ItsZ] using h
  | x :: r, a, n, h => by
    simp only [ItsZ] at h
    obtain ⟨b, o, m, rfl, rfl, h1, h2⟩ := h
    simp [ItsZ.len h2]
theorem ItsZ.at {w : World} {S : Nat → Prop} : ∀ {l : List It} {a : Option Addr} {n : Nat}, ItsZ w S l a n → ∀ (k : Nat) (hk : k < l.length), ∃ b o, a = some ⟨b, o, none⟩ ∧ ItZ w S l[k] b (o + k * 2)
  | [], a, n, h, k, hk => by simp at hk
  | x :: r, a, n, h, k, hk => by
    simp only [ItsZ] at h
    obtain ⟨b, o, m, rfl, rfl, h1, h2⟩ := h
    cases k with
    | zero => exact ⟨b, o, rfl, by simpa using h1⟩
    | succ k =>
      obtain ⟨b', o', e, h3⟩ := ItsZ.at h2 k (by simpa using hk)
      injection e with e
      injection e with e1 e2 _
      subst e1; subst e2
      refine ⟨b, o, rfl, ?_⟩
      rw [show o + (k + 1) * 2 = o + 2 + k * 2 by omega]
      exact h3

/-- The cells of items in a row: a letter's code and a list; what the list holds lies in blocks that S lets by. -/
inductive HoldsZ (w : World) (S : Nat → Prop) : List Value → List It → Prop where
  | nil : HoldsZ w S [] []
  | cons {it : It} {a : Option Addr} {n c : Nat} {xs : List Value} {m : List It} (hv : ItsZ w S it.inner a n) (h : HoldsZ w S xs m) : HoldsZ w S (.int .u8 it.code :: .slice a n c :: xs) (it :: m)
theorem HoldsZ.kept {w w' : World} {S T : Nat → Prop} (h : ∀ k, S k → w'.heap[k]? = w.heap[k]?) (hT : ∀ k, S k → T k) {xs : List Value} {m : List It} (hx : HoldsZ w S xs m) : HoldsZ w' T xs m := by
  induction hx with
  | nil => exact .nil
  | cons hv _ ih => exact .cons (ItsZ.kept h hT _ _ _ hv) ih
theorem HoldsZ.snoc {w : World} {S : Nat → Prop} {xs : List Value} {m : List It} (hx : HoldsZ w S xs m) (it : It) (a : Option Addr) (n c : Nat) (hv : ItsZ w S it.inner a n) : HoldsZ w S (xs ++ [.int .u8 it.code, .slice a n c]) (m ++ [it]) := by
  induction hx with
  | nil => exact .cons hv .nil
  | cons hv' _ ih => exact .cons hv' ih
theorem HoldsZ.its {w : World} {S T : Nat → Prop} {xs : List Value} {m : List It} (hx : HoldsZ w S xs m) : ∀ (g o : Nat), T g → (∀ k, S k → T k) → (∀ j u, xs[j]? = some u → w.cell? ⟨g, o + j, none⟩ = some u) → ItsZ w T m (some ⟨g, o, none⟩) m.length := by
  induction hx with
  | nil => intro g o _ _ _; simp [ItsZ]
  | @cons it a n c xs m hv h ih =>
    intro g o hg hST hc
    simp only [ItsZ, List.length_cons]
    refine ⟨g, o, m.length, rfl, rfl, ?_, ih g (o + 2) hg hST (fun j u hj => by have := hc (j + 2) u (by simpa using hj); rwa [show o + (j + 2) = o + 2 + j by omega] at this)⟩
    have h0 := hc 0 _ rfl
    have h1 := hc 1 _ rfl
    simp only [Nat.add_zero] at h0
    exact ItZ.of ⟨hg, h0, a, n, c, h1, ItsZ.kept (fun _ _ => rfl) hST _ _ _ hv⟩
theorem own_itsZ {w : World} {base e : Nat} {v : Value} {m : List It} {xs : List Value} (ho : w.ownsRow base e 2 v m.length xs) (hh : HoldsZ w (Mine base w v) xs m) :
    ∃ (a : Option Addr) (c : Nat), v = .slice a m.length c ∧ ItsZ w (fun k => base ≤ k ∧ k < w.heap.size) m a m.length := by
  have hl := ho.lt
  have hc := @World.ownsRow.cells w base e 2 v m.length xs ho
  rcases ho.2 with ⟨rfl, hn⟩ | ⟨g, cap, cur, rfl, hb, hg, hr⟩
  · have : m = [] := List.eq_nil_of_length_eq_zero hn
    subst this
    exact ⟨none, 0, rfl, by simp [ItsZ]⟩
  · refine ⟨some ⟨g, 0, none⟩, cap, rfl, hh.its g 0 ?_ (fun k hk => ⟨hk.1, hk.2.1⟩) ?_⟩
    · exact hl g rfl
    · intro j u hj
      have := hc (g := g) rfl j u hj
      rwa [add_none] at this
/-- What Grew keeps of the items that the row holds. -/
theorem HoldsZ.grew {w w' : World} {base : Nat} {v v' : Value} {xs : List Value} {m : List It} (h : HoldsZ w (Mine base w v) xs m) (g : Grew w w' v v') : HoldsZ w' (Mine base w' v') xs m :=
  h.kept (fun k hk => g.g.block k hk.2.1 (fun e => hk.2.2 e.symm)) (fun k hk => ⟨hk.1, Nat.lt_of_lt_of_le hk.2.1 g.g.size, g.other hk.2.1 hk.2.2⟩)

mutual
theorem ItZ.toIn {w : World} {S : Nat → Prop} {B : Nat} (h : ∀ k, S k → k < B) : ∀ (x : It) (b o : Nat), ItZ w S x b o → ItIn w B x b o
  | .l its, b, o, hx => by
    simp only [ItZ] at hx
    simp only [ItIn]
    obtain ⟨hb, c0, a, n, c, c1, h1⟩ := hx
    exact ⟨h b hb, c0, a, n, c, c1, ItsZ.toIn h its a n h1⟩
  | .u, b, o, hx => by simp only [ItZ] at hx; simp only [ItIn]; exact ⟨h b hx.1, hx.2.1⟩
  | .i, b, o, hx => by simp only [ItZ] at hx; simp only [ItIn]; exact ⟨h b hx.1, hx.2.1⟩
  | .f, b, o, hx => by simp only [ItZ] at hx; simp only [ItIn]; exact ⟨h b hx.1, hx.2.1⟩
  | .b, b, o, hx => by simp only [ItZ] at hx; simp only [ItIn]; exact ⟨h b hx.1, hx.2.1⟩
  | .t, b, o, hx => by simp only [ItZ] at hx; simp only [ItIn]; exact ⟨h b hx.1, hx.2.1⟩
theorem ItsZ.toIn {w : World} {S : Nat → Prop} {B : Nat} (h : ∀ k, S k → k < B) : ∀ (l : List It) (a : Option Addr) (n : Nat), ItsZ w S l a n → ItsIn w B l a n
  | [], a, n, hx => by simpa [ItsZ, ItsIn] using hx
  | x :: l, a, n, hx => by
    simp only [ItsZ] at hx
    simp only [ItsIn]
    obtain ⟨b, o, m, ha, hn, h1, h2⟩ := hx
    exact ⟨b, o, m, ha, hn, ItZ.toIn h x b o h1, ItsZ.toIn h l _ m h2⟩
end
/-! ### encoding, whatever the item -/
theorem encOne_isSome (it : It) (x : Fld) : (encOne it x).isSome = (zeroBut it.letter x && (rows (fun r => encAll it.inner r) x.L).isSome) := by
  have hl : ∀ c : Char, c ≠ 'l' → zeroBut c x = true → x.L = [] := fun c hc h => by
    unfold zeroBut at h
    simp only [Bool.and_eq_true, Bool.or_eq_true, beq_iff_eq, hc, false_or, List.isEmpty_iff] at h
    exact h.2
  cases it with
  | l its =>
    simp only [encOne, It.letter, It.inner]
    cases hz : zeroBut 'l' x with
    | false => simp
    | true => cases rows (fun r => encAll its r) x.L <;> simp
  | u => simp only [encOne, It.letter]; cases hz : zeroBut 'u' x with
    | false => simp
    | true => rw [hl 'u' (by decide) hz]; simp [rows]
  | i => simp only [encOne, It.letter]; cases hz : zeroBut 'i' x with
    | false => simp
    | true => rw [hl 'i' (by decide) hz]; simp [rows]
  | f => simp only [encOne, It.letter]; cases hz : zeroBut 'f' x with
    | false => simp
    | true => rw [hl 'f' (by decide) hz]; simp [rows]
  | b => simp only [encOne, It.letter]; cases hz : zeroBut 'b' x with
    | false => simp
    | true => rw [hl 'b' (by decide) hz]; simp [rows]
  | t => simp only [encOne, It.letter]; cases hz : zeroBut 't' x with
    | false => simp
    | true => rw [hl 't' (by decide) hz]; simp [rows]
theorem none_of {α : Type} {x : Option α} (h : x.isSome = false) : x = none := by cases x <;> simp_all
theorem some_of {α : Type} {x : Option α} (h : x.isSome = true) : ∃ a, x = some a := by cases x <;> simp_all
theorem encAll_snocS {its : List It} {l : List Fld} {k : Nat} (hk : k < its.length) (hl : k < l.length) (h1 : (encAll (its.take k) (l.take k)).isSome = true) (h2 : (encOne its[k] l[k]).isSome = true) :
    (encAll (its.take (k + 1)) (l.take (k + 1))).isSome = true := by
  rw [encAll_snoc hk hl]
  obtain ⟨a, ha⟩ := some_of h1
  obtain ⟨b, hb⟩ := some_of h2
  rw [ha, hb]; rfl
theorem rows_snocS {g : List Fld → Option (List UInt8)} {l : List (List Fld)} {k : Nat} (hk : k < l.length) (h1 : (rows g (l.take k)).isSome = true) (h2 : (g l[k]).isSome = true) : (rows g (l.take (k + 1))).isSome = true := by
  rw [rows_snoc hk]
  obtain ⟨a, ha⟩ := some_of h1
  obtain ⟨b, hb⟩ := some_of h2
  rw [ha, hb]; rfl
end Go.Wq
end

section
/- Encoding: what the first items, the first rows come to. -/
namespace Go.Wq
theorem encAll_pre {its : List It} {l : List Fld} {a : List UInt8} (h : encAll its l = some a) (k : Nat) (hk : k ≤ its.length) : ∃ p q, encAll (its.take k) (l.take k) = some p ∧ a = p ++ q := by
  have hl := encAll_len h
  have e := encAll_append (its.take k) (l.take k) (its.drop k) (l.drop k) (by simp; omega)
  rw [List.take_append_drop, List.take_append_drop, h] at e
  cases h1 : encAll (its.take k) (l.take k) with
  | none => rw [h1] at e; simp at e
  | some p =>
    cases h2 : encAll (its.drop k) (l.drop k) with
    | none => rw [h1, h2] at e; simp at e
    | some q => rw [h1, h2] at e; simp at e; exact ⟨p, q, rfl, e⟩
theorem rows_pre {g : List Fld → Option (List UInt8)} {l : List (List Fld)} {a : List UInt8} (h : rows g l = some a) (k : Nat) : ∃ p q, rows g (l.take k) = some p ∧ a = p ++ q := by
  have e := rows_append g (l.take k) (l.drop k)
  rw [List.take_append_drop, h] at e
  cases h1 : rows g (l.take k) with
  | none => rw [h1] at e; simp at e
  | some p =>
    cases h2 : rows g (l.drop k) with
    | none => rw [h1, h2] at e; simp at e
    | some q => rw [h1, h2] at e; simp at e; exact ⟨p, q, rfl, e⟩
theorem encAll_one {its : List It} {l : List Fld} {a : List UInt8} (h : encAll its l = some a) (k : Nat) (hk : k < its.length) (hl : k < l.length) : ∃ c, encOne its[k] l[k] = some c := by
  cases h1 : encOne its[k] l[k] with
  | none => rw [encAll_bad hk hl h1] at h; cases h
  | some c => exact ⟨c, rfl⟩
theorem rows_one {g : List Fld → Option (List UInt8)} {l : List (List Fld)} {a : List UInt8} (h : rows g l = some a) (k : Nat) (hk : k < l.length) : ∃ c, g l[k] = some c := by
  cases h1 : g l[k] with
  | none => rw [rows_bad hk h1] at h; cases h
  | some c => exact ⟨c, rfl⟩
theorem encAll_nil {l : List Fld} {a : List UInt8} (h : encAll [] l = some a) : a = [] := by
  cases l with
  | nil => simpa [encAll] using h.symm
  | cons x r => simp [encAll] at h
end Go.Wq
end

section
/- Reading a varint, byte by byte: the sums that the loops make. -/
namespace Go.Wq
open Go.RowKit

theorem pow128 (i : Nat) : (128 : Nat) ^ i = 2 ^ (7 * i) := by rw [show (128 : Nat) = 2 ^ 7 from rfl, ← Nat.pow_mul]
/-- A group of seven, laid ahead. -/
theorem group_or (n c i : Nat) (hi : i ≤ 9) (hn : n < 128 ^ i) (hc : c < 128) (h9 : i = 9 → c ≤ 1) : bits .or .u64 (n : Int) ((c * 128 ^ i : Nat) : Int) = ((n + c * 128 ^ i : Nat) : Int) ∧ c * 128 ^ i < 2 ^ 64 ∧ n + c * 128 ^ i < 2 ^ 64 := by
  have hp : 0 < 128 ^ i := Nat.pow_pos (by omega)
  have hb : c * 128 ^ i + 128 ^ i ≤ 2 ^ 64 := by
    rw [← Nat.succ_mul]
    by_cases h : i = 9
    · subst h
      calc (c + 1) * 128 ^ 9 ≤ 2 * 128 ^ 9 := Nat.mul_le_mul_right _ (by have := h9 rfl; omega)
        _ ≤ 2 ^ 64 := by decide
    · calc (c + 1) * 128 ^ i ≤ 128 * 128 ^ 8 := Nat.mul_le_mul (by omega) (Nat.pow_le_pow_right (by omega) (by omega))
        _ ≤ 2 ^ 64 := by decide
  refine ⟨?_, by omega, by omega⟩
  rw [u64_or_nat _ _ (by omega) (by omega), Nat.or_comm]
  congr 1
  rw [nat_join (7 * i) _ _ (by rw [pow128, Nat.mul_mod_left]) (by rw [← pow128]; exact hn), Nat.add_comm]
theorem group_next (n c i : Nat) (hn : n < 128 ^ i) (hc : c < 128) : n + c * 128 ^ i < 128 ^ (i + 1) := by
  have : c * 128 ^ i + 128 ^ i ≤ 128 * 128 ^ i := by rw [← Nat.succ_mul]; exact Nat.mul_le_mul_right _ (by omega)
  rw [Nat.pow_succ]; omega
/-- The shifted group. -/
theorem group_shl (c i : Nat) (h : c * 128 ^ i < 2 ^ 64) : IntKind.u64.wrap ((c : Int) * 2 ^ (7 * i)) = ((c * 128 ^ i : Nat) : Int) := by
  rw [pow128] at h ⊢
  have e : (c : Int) * 2 ^ (7 * i) = ((c * 2 ^ (7 * i) : Nat) : Int) := by push_cast; rfl
  rw [e]
  have hw : IntKind.u64.wrap ((c * 2 ^ (7 * i) : Nat) : Int) = ((c * 2 ^ (7 * i) : Nat) : Int) % 18446744073709551616 := by simp [IntKind.wrap, IntKind.bits, IntKind.signed]
  rw [hw]; omega
/-- One byte more of a number of eight. -/
theorem byte_or (n c : Nat) (hn : n < 2 ^ 56) (hc : c < 256) : bits .or .u64 ((n * 256 : Nat) : Int) (c : Int) = ((n * 256 + c : Nat) : Int) := by
  rw [u64_or_nat _ _ (by omega) (by omega)]
  congr 1
  exact nat_join 8 _ _ (by omega) hc

/-- Reading on, by the byte that stands there. -/
theorem varGo_none (s : List UInt8) (fr f i p n : Nat) (h : s[p]? = none) : varGo s fr (f + 1) i p n = .bad eShort fr := by simp [varGo, h]
theorem varGo_some (s : List UInt8) (fr f i p n : Nat) (c : UInt8) (h : s[p]? = some c) : varGo s fr (f + 1) i p n =
    if i = 9 ∧ 1 < c.toNat then .bad eOver fr
      else if c.toNat < 128 then (if c.toNat = 0 ∧ 0 < i then .bad eOver fr else .ok (n + c.toNat % 128 * 128 ^ i) (p + 1))
      else varGo s fr f (i + 1) (p + 1) (n + c.toNat % 128 * 128 ^ i) := by simp [varGo, h]
theorem and127n (c : Nat) (h : c < 256) : bits BinOp.and IntKind.u8 (c : Int) 127 = ((c % 128 : Nat) : Int) := by
  have : ∀ m : Fin 256, bits BinOp.and IntKind.u8 ((m.val : Nat) : Int) 127 = ((m.val % 128 : Nat) : Int) := by decide +kernel
  exact this ⟨c, h⟩
theorem andNot128n (c : Nat) (h : c < 256) : bits BinOp.andNot IntKind.u8 (c : Int) 128 = ((c % 128 : Nat) : Int) := by
  have : ∀ m : Fin 256, bits BinOp.andNot IntKind.u8 ((m.val : Nat) : Int) 128 = ((m.val % 128 : Nat) : Int) := by decide +kernel
  exact this ⟨c, h⟩
end Go.Wq
namespace Go.Wq
theorem numOf_snoc : ∀ (l : List UInt8) (c : UInt8) (m : Nat), numOf (l ++ [c]) m = numOf l m * 256 + c.toNat := by
  intro l
  induction l with
  | nil => intro c m; rfl
  | cons x r ih => intro c m; simp only [List.cons_append, numOf]; exact ih c _
theorem numOf_lt : ∀ (l : List UInt8) (m : Nat), numOf l m < (m + 1) * 256 ^ l.length := by
  intro l
  induction l with
  | nil => intro m; simp [numOf]
  | cons c r ih =>
    intro m
    have := ih (m * 256 + c.toNat)
    have hc := c.toNat_lt
    simp only [numOf, List.length_cons]
    refine Nat.lt_of_lt_of_le this ?_
    rw [Nat.pow_succ, Nat.mul_comm (256 ^ r.length) 256, ← Nat.mul_assoc]
    exact Nat.mul_le_mul_right _ (by omega)
theorem drop_take_snoc (s : List UInt8) (p j : Nat) (h : p + j < s.length) : (s.drop p).take (j + 1) = (s.drop p).take j ++ [s[p + j]] := by
  have h2 : j < (s.drop p).length := by simp; omega
  rw [List.take_succ_eq_append_getElem h2, List.getElem_drop]
theorem num_next (s : List UInt8) (p j : Nat) (h : p + j < s.length) (hj : j < 8) : numOf ((s.drop p).take (j + 1)) 0 = numOf ((s.drop p).take j) 0 * 256 + (s[p + j]).toNat ∧ numOf ((s.drop p).take j) 0 < 2 ^ 56 := by
  refine ⟨by rw [drop_take_snoc s p j h, numOf_snoc], ?_⟩
  have h1 := numOf_lt ((s.drop p).take j) 0
  have hl : ((s.drop p).take j).length ≤ 7 := by simp; omega
  rw [Nat.zero_add, Nat.one_mul] at h1
  have : 256 ^ ((s.drop p).take j).length ≤ 256 ^ 7 := Nat.pow_le_pow_right (by omega) hl
  have e : (256 : Nat) ^ 7 = 2 ^ 56 := by decide
  omega
theorem num_lt8 (s : List UInt8) (p : Nat) : numOf ((s.drop p).take 8) 0 < 2 ^ 64 := by
  have h1 := numOf_lt ((s.drop p).take 8) 0
  have hl : ((s.drop p).take 8).length ≤ 8 := by simp; omega
  rw [Nat.zero_add, Nat.one_mul] at h1
  have : 256 ^ ((s.drop p).take 8).length ≤ 256 ^ 8 := Nat.pow_le_pow_right (by omega) hl
  have e : (256 : Nat) ^ 8 = 2 ^ 64 := by decide
  omega
theorem shl8 (n : Nat) (h : n < 2 ^ 56) : IntKind.u64.wrap ((n : Int) * 256) = ((n * 256 : Nat) : Int) := by
  have hw : IntKind.u64.wrap ((n : Int) * 256) = (n : Int) * 256 % 18446744073709551616 := by simp [IntKind.wrap, IntKind.bits, IntKind.signed]
  rw [hw]; omega
end Go.Wq
namespace Go.Wq
/-- ^H of a whole number that is not below 0. -/
theorem xor_m1 (H : Nat) (h : H < 9223372036854775808) : bits .xor .i64 (-1) (H : Int) = -(H : Int) - 1 := by
  have h1 : (BitVec.ofInt 64 (-1)).toNat = 18446744073709551615 := by decide
  have h2 : (BitVec.ofInt 64 (H : Int)).toNat = H := by
    rw [BitVec.ofInt_natCast, BitVec.toNat_ofNat]; exact Nat.mod_eq_of_lt (by omega)
  show IntKind.i64.wrap ((BitVec.ofInt 64 (-1) ^^^ BitVec.ofInt 64 (H : Int)).toNat : Int) = _
  rw [BitVec.toNat_xor, h1, h2, xor_max H (by omega), IntKind.wrap_i64]
  omega
theorem xor_m1' (H : Nat) (h : H < 9223372036854775808) : bits .xor .i64 (H : Int) (-1) = -(H : Int) - 1 := by
  have h1 : (BitVec.ofInt 64 (-1)).toNat = 18446744073709551615 := by decide
  have h2 : (BitVec.ofInt 64 (H : Int)).toNat = H := by
    rw [BitVec.ofInt_natCast, BitVec.toNat_ofNat]; exact Nat.mod_eq_of_lt (by omega)
  show IntKind.i64.wrap ((BitVec.ofInt 64 (H : Int) ^^^ BitVec.ofInt 64 (-1)).toNat : Int) = _
  rw [BitVec.toNat_xor, h1, h2, Nat.xor_comm, xor_max H (by omega), IntKind.wrap_i64]
  omega
theorem xor_0' (H : Nat) (h : H < 9223372036854775808) : bits .xor .i64 (H : Int) 0 = (H : Int) := by
  have h1 : (BitVec.ofInt 64 0).toNat = 0 := by decide
  have h2 : (BitVec.ofInt 64 (H : Int)).toNat = H := by
    rw [BitVec.ofInt_natCast, BitVec.toNat_ofNat]; exact Nat.mod_eq_of_lt (by omega)
  show IntKind.i64.wrap ((BitVec.ofInt 64 (H : Int) ^^^ BitVec.ofInt 64 0).toNat : Int) = _
  rw [BitVec.toNat_xor, h1, h2, Nat.xor_zero, IntKind.wrap_i64]
  omega
end Go.Wq
end

section
/- A text's bytes as a list, by either road. -/
namespace Go.Wq
theorem loop_eq (bs : ByteArray) : ∀ (k i : Nat) (r : List UInt8), bs.size - i = k → ByteArray.toList.loop bs i r = r.reverse ++ bs.data.toList.drop i := by
  intro k
  induction k with
  | zero =>
    intro i r h
    rw [ByteArray.toList.loop, if_neg (by omega)]
    rw [List.drop_eq_nil_of_le (by rw [Array.length_toList]; show bs.size ≤ i; omega), List.append_nil]
  | succ k ih =>
    intro i r h
    have hi : i < bs.size := by omega
    rw [ByteArray.toList.loop, if_pos hi, ih (i + 1) _ (by omega)]
    have hd : bs.data.toList.drop i = bs.data.toList[i]'(by rw [Array.length_toList]; exact hi) :: bs.data.toList.drop (i + 1) := List.drop_eq_getElem_cons (by rw [Array.length_toList]; exact hi)
    have hg : bs.get! i = bs.data.toList[i]'(by rw [Array.length_toList]; exact hi) := by
      have h2 : i < bs.data.size := hi
      show bs.data[i]! = _
      rw [getElem!_pos bs.data i h2]
      simp
    rw [hd, List.reverse_cons, hg]
    simp
theorem toList_data (bs : ByteArray) : bs.toList = bs.data.toList := by
  have := loop_eq bs bs.size 0 [] (by omega)
  show ByteArray.toList.loop bs 0 [] = _
  rw [this]; simp
theorem toList_ne {s t : ByteArray} (h : s ≠ t) : (s.toList == t.toList) = false := by
  apply beq_eq_false_iff_ne.2
  intro e
  rw [toList_data, toList_data] at e
  exact h (ByteArray.ext (Array.toList_inj.1 e))
end Go.Wq
end

section
/- Fields behind fields in memory; arrays of two texts that come in. -/
namespace Go.Wq
set_option linter.unusedVariables false
open Go.RowKit Go.Lib

/-- The cells of fields in a row; what lists hold lies in blocks below B. -/
inductive FCells (w : World) (B : Nat) : List Value → List Fld → Prop where
  | nil : FCells w B [] []
  | cons {u : Nat} {i : Int} {f : Nat} {bb : Bool} {s : ByteArray} {l : List (List Fld)} {ra : Option Addr} {rn rc : Nat} {xs : List Value} {fs : List Fld} (hr : Go.Wq.RowsIn w B l ra rn) (h : FCells w B xs fs) :
      FCells w B (.int .u64 (u : Int) :: .int .i64 i :: .float .f64 f :: .bool bb :: .string s :: .slice ra rn rc :: xs) (.mk u i f bb s.data.toList l :: fs)
theorem FCells.len {w : World} {B : Nat} {xs : List Value} {fs : List Fld} (h : FCells w B xs fs) : xs.length = fs.length * 6 := by
  induction h with
  | nil => rfl
  | cons _ _ ih => simp only [List.length_cons, ih]; omega
theorem FCells.one {w : World} {B : Nat} {xs : List Value} {fs : List Fld} (h : FCells w B xs fs) : ∀ u ∈ xs, u.oneCell' = true := by
  induction h with
  | nil => intro u hu; cases hu
  | cons _ _ ih =>
    intro u hu
    simp only [List.mem_cons] at hu
    rcases hu with rfl | rfl | rfl | rfl | rfl | rfl | hu
    · rfl
    · rfl
    · rfl
    · rfl
    · rfl
    · rfl
    · exact ih u hu
theorem FCells.append {w : World} {B : Nat} {xs ys : List Value} {fs gs : List Fld} (h : FCells w B xs fs) (g : FCells w B ys gs) : FCells w B (xs ++ ys) (fs ++ gs) := by
  induction h with
  | nil => exact g
  | cons hr _ ih => exact .cons hr ih
theorem FCells.kept {w w' : World} {B : Nat} (hk : ∀ k, k < B → w'.heap[k]? = w.heap[k]?) {xs : List Value} {fs : List Fld} (h : FCells w B xs fs) : FCells w' B xs fs := by
  induction h with
  | nil => exact .nil
  | cons hr _ ih => exact .cons (RowsIn.kept hk _ _ _ hr) ih
theorem FCells.flds {w : World} {B C : Nat} (hBC : B ≤ C) {xs : List Value} {fs : List Fld} (h : FCells w B xs fs) : ∀ (g o : Nat), g < C → (∀ j u, xs[j]? = some u → w.cell? ⟨g, o + j, none⟩ = some u) → FldsIn w C fs (some ⟨g, o, none⟩) fs.length := by
  induction h with
  | nil => intro g o _ _; simp [FldsIn]
  | @cons u i f bb s l ra rn rc xs fs hr h ih =>
    intro g o hg hc
    simp only [FldsIn, List.length_cons]
    refine ⟨g, o, fs.length, rfl, rfl, ?_, ih g (o + 6) hg (fun j u hj => by have := hc (j + 6) u (by simpa using hj); rwa [show o + (j + 6) = o + 6 + j by omega] at this)⟩
    simp only [FldIn]
    have h0 := hc 0 _ rfl
    simp only [Nat.add_zero] at h0
    exact ⟨hg, h0, hc 1 _ rfl, hc 2 _ rfl, hc 3 _ rfl, ⟨s, rfl, hc 4 _ rfl⟩, ra, rn, rc, hc 5 _ rfl, RowsIn.kept_up hBC _ _ _ hr⟩
theorem flds_cells {w : World} {B : Nat} : ∀ {fs : List Fld} {a : Option Addr} {n : Nat}, FldsIn w B fs a n → ∃ xs, FCells w B xs fs ∧ (0 < n → ∃ b o, a = some ⟨b, o, none⟩ ∧ ∀ j u, xs[j]? = some u → w.cell? ⟨b, o + j, none⟩ = some u)
  | [], a, n, h => ⟨[], .nil, fun hn => by simp [FldsIn] at h; omega⟩
  | .mk u i f bb t l :: fs, a, n, h => by
    simp only [FldsIn, FldIn] at h
    obtain ⟨b, o, m, rfl, rfl, ⟨hb, c0, c1, c2, c3, ⟨s, rfl, c4⟩, ra, rn, rc, c5, hr⟩, h2⟩ := h
    obtain ⟨xs, hx, hat⟩ := flds_cells h2
    refine ⟨_, .cons (rc := rc) hr hx, fun _ => ⟨b, o, rfl, fun j v hj => ?_⟩⟩
    match j with
    | 0 => simp at hj; subst hj; exact c0
    | 1 => simp at hj; subst hj; exact c1
    | 2 => simp at hj; subst hj; exact c2
    | 3 => simp at hj; subst hj; exact c3
    | 4 => simp at hj; subst hj; exact c4
    | 5 => simp at hj; subst hj; exact c5
    | j + 6 =>
      simp at hj
      have hm : 0 < m := by
        rcases Nat.eq_zero_or_pos m with h0 | h0
        · have hl := h2.len; rw [h0] at hl
          have : fs = [] := List.eq_nil_of_length_eq_zero hl.symm
          subst this
          cases hx
          simp at hj
        · exact h0
      obtain ⟨b', o', he, hc⟩ := hat hm
      injection he with he
      injection he with h1 h2' _
      subst h1; subst h2'
      have := hc j v hj
      rwa [show o + 6 + j = o + (j + 6) by omega] at this

/-- append(all, fields...), whatever slice the fields are: nil, empty or not. -/
theorem wpList_append_flds {P : Program} (w : World) {ops : Array Oper} {rest : List Oper} {o : Oper} {act : Act} {Q : Exit → Act → World → Prop} (hgd : o.guard = none) (s x : Operand) (t : TypeId)
    (ho : o.op = .call { callee := .builtin .append, args := #[s, x], argTypes := #[t, t] })
    (base : Nat) (e : TypeId) (i : TypeInfo) (z : Value) (ht : P.underlying t = some (.slice e)) (hi : P.info? e = some i) (hz : i.zero = some z) (hsize : i.size = 6) (hby : i.bytes = 72) (hzs : z.cells.size = 6)
    (v : Value) (n : Nat) (xs : List Value) (hs : act.eval s = v) (hown : w.ownsRow base e 6 v n xs)
    (a : Option Addr) (len cap : Nat) (ys : List Value) (hx : act.eval x = .slice a len cap) (hl : ys.length = len * 6) (h1 : ∀ u ∈ ys, u.oneCell' = true) (hat : 0 < len → ∃ b off, a = some ⟨b, off, none⟩ ∧ ∀ j u, ys[j]? = some u → w.cell? ⟨b, off + j, none⟩ = some u) (hn : a = none → cap = 0)
    (h63 : n + len ≤ maxLen) (h47 : (n + len) * 72 ≤ 140737488355328) (hbase : base ≤ w.heap.size)
    (h : ∀ v' w', w'.ownsRow base e 6 v' (n + len) (xs ++ ys) → w.grownBy w' v.ownBlock → wpList P ops Q rest (act.put o.dst v') w') : wpList P ops Q (o :: rest) act w := by
  cases a with
  | none =>
    have h0 : len = 0 := by
      rcases Nat.eq_zero_or_pos len with h | h
      · exact h
      · obtain ⟨b, off, h1, _⟩ := hat h; cases h1
    obtain rfl := hn rfl
    subst h0
    have hzn : ys = [] := List.eq_nil_of_length_eq_zero (by simpa using hl)
    subst hzn
    refine wpList_append_own_none hgd s x t ho base e i 6 ht hi v n _ hs hown hx ?_
    exact h v w (by simpa using hown) ⟨rfl, rfl, rfl, Nat.le_refl _, fun _ _ _ => rfl⟩
  | some ad =>
    refine wpList_append_own w hgd s x t ho base e i z 6 72 ht hi hz hsize hby hzs (by decide) v n _ hs hown ad len cap ys hx hl (fun j u hj => ?_) h1 h63 h47 hbase ?_
    · have hpos : 0 < len := by
        rcases Nat.eq_zero_or_pos len with h0 | h0
        · subst h0
          have : ys = [] := List.eq_nil_of_length_eq_zero (by simpa using hl)
          subst this; simp at hj
        · exact h0
      obtain ⟨b, off, he, hc⟩ := hat hpos
      cases he
      rw [add_none]
      exact hc j u hj
    · intro v' w' h1 h2 _
      exact h v' w' h1 h2

/-- An array of two texts that comes in. -/
theorem open_str2 {H : Type} {enc : TypeId × Value → H} {P : Program} {w W : World} {r : Reach} {b0 : Nat} {spare : Nat → Bool} {held : Bool} {t e : TypeId} {v : Value} {d : DataW H} {ps : List MemPlace}
    (ht : P.underlying t = some (.array 2 e)) (he : P.underlying e = some .string) (hct : P.cellsOf t = 2) (hce : P.cellsOf e = 1) (hv : Value.okWide P W r b0 t v) (h : DataW.Trod enc P w 0 spare held t v d ps) (hw : ∀ x ∈ d.weights P t, x ≤ reachBytes) :
    ∃ s0 s1 : ByteArray, v = .agg #[.string s0, .string s1] ∧ s0.size ≤ reachBytes ∧ s1.size ≤ reachBytes ∧ s0.size ≤ maxLen ∧ s1.size ≤ maxLen := by
  unfold Value.okWide at hv
  rw [ht] at hv
  obtain ⟨cs, rfl, hcs, -⟩ := hv
  obtain ⟨fuel, hf⟩ := h
  obtain ⟨xs, m, rfl, hx, hcl, hxl, hat⟩ := DataW.trod_array ht hf
  have hcl2 : cs.size = 2 := by omega
  have hsz : (Value.agg cs).cells = cs := rfl
  rw [hsz] at hat
  obtain ⟨v0, v1, rfl⟩ : ∃ v0 v1, cs = #[v0, v1] := by
    obtain ⟨l⟩ := cs
    match l, hcl2 with
    | [v0, v1], _ => exact ⟨v0, v1, rfl⟩
  match xs, hxl with
  | [x0, x1], _ =>
    have h0 := hat 0 (by omega)
    have h1 := hat 1 (by omega)
    simp [hce] at h0 h1
    obtain ⟨s0, e0, d0, m0⟩ := DataW.trod_string he h0
    obtain ⟨s1, e1, d1, m1⟩ := DataW.trod_string he h1
    simp only [List.cons.injEq, and_true] at e0 e1
    subst e0; subst e1
    have hd : d = .agg [x0.1, x1.1] := congrArg Prod.fst hx
    subst hd
    simp only [DataW.weights, ht, DataW.weightsAll, d0, d1, List.append_nil] at hw
    have w0 := hw s0.data.toList.length (by simp)
    have w1 := hw s1.data.toList.length (by simp)
    rw [Array.length_toList] at w0 w1
    exact ⟨s0, s1, rfl, w0, w1, m0, m1⟩
theorem none_cap {H : Type} {enc : TypeId × Value → H} {P : Program} {w : World} {spare : Nat → Bool} {held : Bool} {t e : TypeId} {a : Option Addr} {n c : Nat} {d : DataW H} {ps : List MemPlace} (ht : P.underlying t = some (.slice e))
    (h : DataW.Trod enc P w 0 spare held t (.slice a n c) d ps) : a = none → c = 0 := by
  rintro rfl
  obtain ⟨fuel, hf⟩ := h
  rcases DataW.trod_slice ht hf with ⟨h1, -⟩ | ⟨x0, len, cap, elems, rest, m, -, hcs, -⟩
  · simp [Value.cells] at h1; exact h1.2
  · simp [Value.cells] at hcs
end Go.Wq
end

section
/- Fields in memory, in blocks that a predicate lets by. -/
namespace Go.Wq
set_option linter.unusedVariables false
open Go.RowKit Go.Lib

mutual
/-- A field at a place in blocks that S lets by. -/
def FldS (w : World) (S : Nat → Prop) : Fld → Nat → Nat → Prop
  | .mk u i f bb t l, b, o => S b ∧ w.cell? ⟨b, o, none⟩ = some (.int .u64 (u : Int)) ∧ w.cell? ⟨b, o + 1, none⟩ = some (.int .i64 i) ∧ w.cell? ⟨b, o + 2, none⟩ = some (.float .f64 f) ∧ w.cell? ⟨b, o + 3, none⟩ = some (.bool bb) ∧
      (∃ s : ByteArray, s.data.toList = t ∧ w.cell? ⟨b, o + 4, none⟩ = some (.string s)) ∧ ∃ (ra : Option Addr) (rn rc : Nat), w.cell? ⟨b, o + 5, none⟩ = some (.slice ra rn rc) ∧ RowsS w S l ra rn
def RowsS (w : World) (S : Nat → Prop) : List (List Fld) → Option Addr → Nat → Prop
  | [], _, n => n = 0
  | r :: l, a, n => ∃ b o m, a = some ⟨b, o, none⟩ ∧ n = m + 1 ∧ S b ∧ (∃ (sa : Option Addr) (sn sc : Nat), w.cell? ⟨b, o, none⟩ = some (.slice sa sn sc) ∧ FldsS w S r sa sn) ∧ RowsS w S l (some ⟨b, o + 1, none⟩) m
def FldsS (w : World) (S : Nat → Prop) : List Fld → Option Addr → Nat → Prop
  | [], _, n => n = 0
  | x :: r, a, n => ∃ b o m, a = some ⟨b, o, none⟩ ∧ n = m + 1 ∧ FldS w S x b o ∧ FldsS w S r (some ⟨b, o + 6, none⟩) m
end

theorem FldsS.len {w : World} {S : Nat → Prop} : ∀ {l : List Fld} {a : Option Addr} {n : Nat}, FldsS w S l a n → n = l.length
  | [], a, n, h => by simpa [FldsS] using h
  | x :: r, a, n, h => by
    simp only [FldsS] at h
    obtain ⟨b, o, m, rfl, rfl, h1, h2⟩ := h
    simp [FldsS.len h2]
theorem RowsS.len {w : World} {S : Nat → Prop} : ∀ {l : List (List Fld)} {a : Option Addr} {n : Nat}, RowsS w S l a n → n = l.length
  | [], a, n, h => by simpa [RowsS] using h
  | x :: r, a, n, h => by
    simp only [RowsS] at h
    obtain ⟨b, o, m, rfl, rfl, h0, h1, h2⟩ := h
    simp [RowsS.len h2]
theorem FldsS.at {w : World} {S : Nat → Prop} : ∀ {l : List Fld} {a : Option Addr} {n : Nat}, FldsS w S l a n → ∀ (k : Nat) (hk : k < l.length), ∃ b o, a = some ⟨b, o, none⟩ ∧ FldS w S l[k] b (o + k * 6)
  | [], a, n, h, k, hk => by simp at hk
  | x :: r, a, n, h, k, hk => by
    simp only [FldsS] at h
    obtain ⟨b, o, m, rfl, rfl, h1, h2⟩ := h
    cases k with
    | zero => exact ⟨b, o, rfl, by simpa using h1⟩
    | succ k =>
      obtain ⟨b', o', e, h3⟩ := FldsS.at h2 k (by simpa using hk)
      injection e with e
      injection e with e1 e2 _
      subst e1; subst e2
      refine ⟨b, o, rfl, ?_⟩
      rw [show o + (k + 1) * 6 = o + 6 + k * 6 by omega]
      exact h3
theorem RowsS.at {w : World} {S : Nat → Prop} : ∀ {l : List (List Fld)} {a : Option Addr} {n : Nat}, RowsS w S l a n → ∀ (k : Nat) (hk : k < l.length), ∃ b o, a = some ⟨b, o, none⟩ ∧ S b ∧ ∃ (sa : Option Addr) (sn sc : Nat), w.cell? ⟨b, o + k, none⟩ = some (.slice sa sn sc) ∧ FldsS w S l[k] sa sn
  | [], a, n, h, k, hk => by simp at hk
  | x :: r, a, n, h, k, hk => by
    simp only [RowsS] at h
    obtain ⟨b, o, m, rfl, rfl, hb, h1, h2⟩ := h
    cases k with
    | zero => exact ⟨b, o, rfl, hb, h1⟩
    | succ k =>
      obtain ⟨b', o', e, hb', h3⟩ := RowsS.at h2 k (by simpa using hk)
      injection e with e
      injection e with e1 e2 _
      subst e1; subst e2
      refine ⟨b, o, rfl, hb, ?_⟩
      rw [show o + (k + 1) = o + 1 + k by omega]
      exact h3

mutual
theorem FldS.kept {w w' : World} {S T : Nat → Prop} (h : ∀ k, S k → w'.heap[k]? = w.heap[k]?) (hT : ∀ k, S k → T k) : ∀ (x : Fld) (b o : Nat), FldS w S x b o → FldS w' T x b o
  | .mk u i f bb t l, b, o, hx => by
    simp only [FldS] at hx ⊢
    obtain ⟨hb, c0, c1, c2, c3, ⟨s, hs, c4⟩, ra, rn, rc, c5, hr⟩ := hx
    have e : ∀ k, w'.cell? ⟨b, k, none⟩ = w.cell? ⟨b, k, none⟩ := fun k => World.cell?_of_block (h b hb)
    exact ⟨hT b hb, (e _).trans c0, (e _).trans c1, (e _).trans c2, (e _).trans c3, ⟨s, hs, (e _).trans c4⟩, ra, rn, rc, (e _).trans c5, RowsS.kept h hT l ra rn hr⟩
theorem RowsS.kept {w w' : World} {S T : Nat → Prop} (h : ∀ k, S k → w'.heap[k]? = w.heap[k]?) (hT : ∀ k, S k → T k) : ∀ (l : List (List Fld)) (a : Option Addr) (n : Nat), RowsS w S l a n → RowsS w' T l a n
  | [], a, n, hx => by simpa [RowsS] using hx
  | r :: l, a, n, hx => by
    simp only [RowsS] at hx ⊢
    obtain ⟨b, o, m, ha, hn, hb, ⟨sa, sn, sc, c, h1⟩, h2⟩ := hx
    have e : ∀ k, w'.cell? ⟨b, k, none⟩ = w.cell? ⟨b, k, none⟩ := fun k => World.cell?_of_block (h b hb)
    exact ⟨b, o, m, ha, hn, hT b hb, ⟨sa, sn, sc, (e _).trans c, FldsS.kept h hT r sa sn h1⟩, RowsS.kept h hT l _ m h2⟩
theorem FldsS.kept {w w' : World} {S T : Nat → Prop} (h : ∀ k, S k → w'.heap[k]? = w.heap[k]?) (hT : ∀ k, S k → T k) : ∀ (l : List Fld) (a : Option Addr) (n : Nat), FldsS w S l a n → FldsS w' T l a n
  | [], a, n, hx => by simpa [FldsS] using hx
  | x :: l, a, n, hx => by
    simp only [FldsS] at hx ⊢
    obtain ⟨b, o, m, ha, hn, h1, h2⟩ := hx
    exact ⟨b, o, m, ha, hn, FldS.kept h hT x b o h1, FldsS.kept h hT l _ m h2⟩
end


mutual
theorem FldS.toIn {w : World} {S : Nat → Prop} {B : Nat} (h : ∀ k, S k → k < B) : ∀ (x : Fld) (b o : Nat), FldS w S x b o → FldIn w B x b o
  | .mk u i f bb t l, b, o, hx => by
    simp only [FldS] at hx
    simp only [FldIn]
    obtain ⟨hb, c0, c1, c2, c3, c4, ra, rn, rc, c5, hr⟩ := hx
    exact ⟨h b hb, c0, c1, c2, c3, c4, ra, rn, rc, c5, RowsS.toIn h l ra rn hr⟩
theorem RowsS.toIn {w : World} {S : Nat → Prop} {B : Nat} (h : ∀ k, S k → k < B) : ∀ (l : List (List Fld)) (a : Option Addr) (n : Nat), RowsS w S l a n → RowsIn w B l a n
  | [], a, n, hx => by simpa [RowsS, RowsIn] using hx
  | r :: l, a, n, hx => by
    simp only [RowsS] at hx
    simp only [RowsIn]
    obtain ⟨b, o, m, ha, hn, hb, ⟨sa, sn, sc, c, h1⟩, h2⟩ := hx
    exact ⟨b, o, m, ha, hn, h b hb, ⟨sa, sn, sc, c, FldsS.toIn h r sa sn h1⟩, RowsS.toIn h l _ m h2⟩
theorem FldsS.toIn {w : World} {S : Nat → Prop} {B : Nat} (h : ∀ k, S k → k < B) : ∀ (l : List Fld) (a : Option Addr) (n : Nat), FldsS w S l a n → FldsIn w B l a n
  | [], a, n, hx => by simpa [FldsS, FldsIn] using hx
  | x :: l, a, n, hx => by
    simp only [FldsS] at hx
    simp only [FldsIn]
    obtain ⟨b, o, m, ha, hn, h1, h2⟩ := hx
    exact ⟨b, o, m, ha, hn, FldS.toIn h x b o h1, FldsS.toIn h l _ m h2⟩
end

/-- The cells of fields in a row; what lists hold lies in blocks that S lets by. -/
inductive FCellsS (w : World) (S : Nat → Prop) : List Value → List Fld → Prop where
  | nil : FCellsS w S [] []
  | cons {u : Nat} {i : Int} {f : Nat} {bb : Bool} {s : ByteArray} {l : List (List Fld)} {ra : Option Addr} {rn rc : Nat} {xs : List Value} {fs : List Fld} (hr : RowsS w S l ra rn) (h : FCellsS w S xs fs) :
      FCellsS w S (.int .u64 (u : Int) :: .int .i64 i :: .float .f64 f :: .bool bb :: .string s :: .slice ra rn rc :: xs) (.mk u i f bb s.data.toList l :: fs)
theorem FCellsS.len {w : World} {S : Nat → Prop} {xs : List Value} {fs : List Fld} (h : FCellsS w S xs fs) : xs.length = fs.length * 6 := by
  induction h with
  | nil => rfl
  | cons _ _ ih => simp only [List.length_cons, ih]; omega
theorem FCellsS.append {w : World} {S : Nat → Prop} {xs ys : List Value} {fs gs : List Fld} (h : FCellsS w S xs fs) (g : FCellsS w S ys gs) : FCellsS w S (xs ++ ys) (fs ++ gs) := by
  induction h with
  | nil => exact g
  | cons hr _ ih => exact .cons hr ih
theorem FCellsS.kept {w w' : World} {S T : Nat → Prop} (hk : ∀ k, S k → w'.heap[k]? = w.heap[k]?) (hT : ∀ k, S k → T k) {xs : List Value} {fs : List Fld} (h : FCellsS w S xs fs) : FCellsS w' T xs fs := by
  induction h with
  | nil => exact .nil
  | cons hr _ ih => exact .cons (RowsS.kept hk hT _ _ _ hr) ih
theorem FCellsS.flds {w : World} {S T : Nat → Prop} (hST : ∀ k, S k → T k) {xs : List Value} {fs : List Fld} (h : FCellsS w S xs fs) : ∀ (g o : Nat), T g → (∀ j u, xs[j]? = some u → w.cell? ⟨g, o + j, none⟩ = some u) → FldsS w T fs (some ⟨g, o, none⟩) fs.length := by
  induction h with
  | nil => intro g o _ _; simp [FldsS]
  | @cons u i f bb s l ra rn rc xs fs hr h ih =>
    intro g o hg hc
    simp only [FldsS, List.length_cons]
    refine ⟨g, o, fs.length, rfl, rfl, ?_, ih g (o + 6) hg (fun j u hj => by have := hc (j + 6) u (by simpa using hj); rwa [show o + (j + 6) = o + 6 + j by omega] at this)⟩
    simp only [FldS]
    have h0 := hc 0 _ rfl
    simp only [Nat.add_zero] at h0
    exact ⟨hg, h0, hc 1 _ rfl, hc 2 _ rfl, hc 3 _ rfl, ⟨s, rfl, hc 4 _ rfl⟩, ra, rn, rc, hc 5 _ rfl, RowsS.kept (fun _ _ => rfl) hST _ _ _ hr⟩

/-- The cells of rows of fields; what they hold lies in blocks that S lets by. -/
inductive RCellsS (w : World) (S : Nat → Prop) : List Value → List (List Fld) → Prop where
  | nil : RCellsS w S [] []
  | cons {r : List Fld} {sa : Option Addr} {sn sc : Nat} {xs : List Value} {l : List (List Fld)} (hr : FldsS w S r sa sn) (h : RCellsS w S xs l) : RCellsS w S (.slice sa sn sc :: xs) (r :: l)
theorem RCellsS.len {w : World} {S : Nat → Prop} {xs : List Value} {l : List (List Fld)} (h : RCellsS w S xs l) : xs.length = l.length := by
  induction h with
  | nil => rfl
  | cons _ _ ih => simp only [List.length_cons, ih]
theorem RCellsS.snoc {w : World} {S : Nat → Prop} {xs : List Value} {l : List (List Fld)} (h : RCellsS w S xs l) {r : List Fld} {sa : Option Addr} {sn : Nat} (sc : Nat) (hr : FldsS w S r sa sn) : RCellsS w S (xs ++ [.slice sa sn sc]) (l ++ [r]) := by
  induction h with
  | nil => exact .cons hr .nil
  | cons hr' _ ih => exact .cons hr' ih
theorem RCellsS.kept {w w' : World} {S T : Nat → Prop} (hk : ∀ k, S k → w'.heap[k]? = w.heap[k]?) (hT : ∀ k, S k → T k) {xs : List Value} {l : List (List Fld)} (h : RCellsS w S xs l) : RCellsS w' T xs l := by
  induction h with
  | nil => exact .nil
  | cons hr _ ih => exact .cons (FldsS.kept hk hT _ _ _ hr) ih
theorem RCellsS.rows {w : World} {S T : Nat → Prop} (hST : ∀ k, S k → T k) {xs : List Value} {l : List (List Fld)} (h : RCellsS w S xs l) : ∀ (g o : Nat), T g → (∀ j u, xs[j]? = some u → w.cell? ⟨g, o + j, none⟩ = some u) → RowsS w T l (some ⟨g, o, none⟩) l.length := by
  induction h with
  | nil => intro g o _ _; simp [RowsS]
  | @cons r sa sn sc xs l hr h ih =>
    intro g o hg hc
    simp only [RowsS, List.length_cons]
    have h0 := hc 0 _ rfl
    simp only [Nat.add_zero] at h0
    exact ⟨g, o, l.length, rfl, rfl, hg, ⟨sa, sn, sc, h0, FldsS.kept (fun _ _ => rfl) hST _ _ _ hr⟩, ih g (o + 1) hg (fun j u hj => by have := hc (j + 1) u (by simpa using hj); rwa [show o + (j + 1) = o + 1 + j by omega] at this)⟩
end Go.Wq
end

section
/- Readings in a row, told so far; rows of fields that a call owns. -/
namespace Go.Wq
set_option linter.unusedVariables false
open Go.RowKit Go.Lib

/-- What is read ahead of it. -/
def R.pre {α : Type} (xs : List α) : R (List α) → R (List α)
  | .ok r q => .ok (xs ++ r) q
  | .bad e q => .bad e q
theorem R.pre_nil {α : Type} (x : R (List α)) : R.pre [] x = x := by cases x <;> rfl
theorem R.pre_snoc {α : Type} (xs : List α) (y : α) (x : R (List α)) : R.pre (xs ++ [y]) x = R.pre xs (match x with | .bad e q => .bad e q | .ok r q => .ok (y :: r) q) := by cases x <;> simp [R.pre]
theorem rdRows_end (g : Nat → R (List Fld)) (xs : List (List Fld)) (Q : Nat) : R.pre xs (rdRows g 0 Q) = .ok xs Q := by simp [rdRows, R.pre]
theorem rdRows_next {g : Nat → R (List Fld)} {Q Q' : Nat} {x : List Fld} (h : g Q = .ok x Q') (m : Nat) (xs : List (List Fld)) : R.pre xs (rdRows g (m + 1) Q) = R.pre (xs ++ [x]) (rdRows g m Q') := by
  rw [R.pre_snoc]; simp only [rdRows, h]
  cases rdRows g m Q' <;> rfl
theorem rdRows_fall {g : Nat → R (List Fld)} {Q e fr : Nat} (h : g Q = .bad e fr) (m : Nat) (xs : List (List Fld)) : R.pre xs (rdRows g (m + 1) Q) = .bad e fr := by
  simp only [rdRows, h, R.pre]
theorem rdAll_end (s : List UInt8) (xs : List Fld) (Q : Nat) : R.pre xs (rdAll s [] Q) = .ok xs Q := by simp [rdAll, R.pre]
theorem rdAll_next {s : List UInt8} {it : It} {Q Q' : Nat} {x : Fld} (h : rdOne s it Q = .ok x Q') (its : List It) (xs : List Fld) : R.pre xs (rdAll s (it :: its) Q) = R.pre (xs ++ [x]) (rdAll s its Q') := by
  rw [R.pre_snoc]; simp only [rdAll, h]
  cases rdAll s its Q' <;> rfl
theorem rdAll_fall {s : List UInt8} {it : It} {Q e fr : Nat} (h : rdOne s it Q = .bad e fr) (its : List It) (xs : List Fld) : R.pre xs (rdAll s (it :: its) Q) = .bad e fr := by
  simp only [rdAll, h, R.pre]

theorem At.le {s : List UInt8} {p : Nat} {a : List UInt8} (h : At s p a) (ha : 0 < a.length) : p + a.length ≤ s.length := by
  have h1 := h (a.length - 1) (by omega)
  rw [List.getElem?_eq_getElem (show a.length - 1 < a.length by omega)] at h1
  have := (List.getElem?_eq_some_iff.1 h1).1
  omega
/-- Reading one field goes on. -/
theorem one_on {s : List UInt8} (hs : s.length < 2 ^ 63) {it : It} (hok : it.Ok) {x : Fld} {p q : Nat} (h : rdOne s it p = .ok x q) : p < q ∧ q ≤ s.length := by
  have h1 : rdAll s [it] p = .ok [x] q := by simp only [rdAll, h]
  obtain ⟨a, ha, _, hat, rfl⟩ := only_all s hs [it] (by simpa using hok) [x] p q h1
  simp only [encAll] at ha
  split at ha
  · rename_i a1 a2 e1 e2
    injection ha with ha
    have := enc_pos e1
    have hp : 0 < a.length := by rw [← ha]; simp; omega
    exact ⟨by omega, hat.le hp⟩
  · cases ha
/-- Reading fields of some items goes on. -/
theorem all_on {s : List UInt8} (hs : s.length < 2 ^ 63) {its : List It} (hne : its ≠ []) (hok : ∀ y ∈ its, y.Ok) {x : List Fld} {p q : Nat} (h : rdAll s its p = .ok x q) : p < q ∧ q ≤ s.length := by
  cases its with
  | nil => exact absurd rfl hne
  | cons it its =>
    obtain ⟨a, ha, _, hat, rfl⟩ := only_all s hs (it :: its) hok x p q h
    cases x with
    | nil => simp [encAll] at ha
    | cons y ys =>
      simp only [encAll] at ha
      split at ha
      · rename_i a1 a2 e1 e2
        injection ha with ha
        have := enc_pos e1
        have hp : 0 < a.length := by rw [← ha]; simp; omega
        exact ⟨by omega, hat.le hp⟩
      · cases ha
/-- How an error of readings in a row comes: by one of them. -/
theorem varGo_bad {s : List UInt8} {fr0 er fr : Nat} : ∀ (f i p n : Nat), varGo s fr0 f i p n = .bad er fr → er = 42 ∨ er = 43 := by
  intro f
  induction f with
  | zero => intro i p n h; simp only [varGo, R.bad.injEq] at h; exact Or.inr h.1.symm
  | succ f ih =>
    intro i p n h
    simp only [varGo] at h
    cases hc : s[p]? with
    | none => rw [hc] at h; simp only [R.bad.injEq] at h; exact Or.inl h.1.symm
    | some c =>
      rw [hc] at h
      simp only [] at h
      split at h
      · simp only [R.bad.injEq] at h; exact Or.inr h.1.symm
      · split at h
        · split at h
          · simp only [R.bad.injEq] at h; exact Or.inr h.1.symm
          · simp at h
        · exact ih _ _ _ h
theorem rdVar_bad {s : List UInt8} {p er fr : Nat} (h : rdVar s p = .bad er fr) : er = 42 ∨ er = 43 := varGo_bad _ _ _ _ h
theorem rdRows_bad {g : Nat → R (List Fld)} (hg : ∀ p er fr, g p = .bad er fr → er = 42 ∨ er = 43) : ∀ (n p er fr : Nat), rdRows g n p = .bad er fr → er = 42 ∨ er = 43
  | 0, p, er, fr, h => by simp [rdRows] at h
  | n + 1, p, er, fr, h => by
    simp only [rdRows] at h
    cases hx : g p with
    | bad e q => rw [hx] at h; simp only [R.bad.injEq] at h; exact hg _ _ _ (by rw [hx, h.1, h.2])
    | ok x q =>
      rw [hx] at h
      simp only [] at h
      cases hr : rdRows g n q with
      | bad e q' => rw [hr] at h; simp only [R.bad.injEq] at h; exact rdRows_bad hg n q er fr (by rw [hr, h.1, h.2])
      | ok r q' => rw [hr] at h; simp at h
mutual
theorem rdOne_bad {s : List UInt8} : ∀ (it : It) (p er fr : Nat), rdOne s it p = .bad er fr → er = 42 ∨ er = 43
  | .u, p, er, fr, h => by
    simp only [rdOne] at h
    split at h
    · simp at h
    · rename_i hr; simp only [R.bad.injEq] at h; rw [h.1, h.2] at hr; exact rdVar_bad hr
  | .i, p, er, fr, h => by
    simp only [rdOne] at h
    split at h
    · simp at h
    · rename_i hr; simp only [R.bad.injEq] at h; rw [h.1, h.2] at hr; exact rdVar_bad hr
  | .f, p, er, fr, h => by
    simp only [rdOne] at h
    split at h
    · simp only [R.bad.injEq] at h; exact Or.inl h.1.symm
    · simp at h
  | .b, p, er, fr, h => by
    simp only [rdOne] at h
    split at h
    · simp only [R.bad.injEq] at h; exact Or.inl h.1.symm
    · split at h
      · simp only [R.bad.injEq] at h; exact Or.inr h.1.symm
      · simp at h
  | .t, p, er, fr, h => by
    simp only [rdOne] at h
    split at h
    · split at h
      · simp only [R.bad.injEq] at h; exact Or.inl h.1.symm
      · simp at h
    · rename_i hr; simp only [R.bad.injEq] at h; rw [h.1, h.2] at hr; exact rdVar_bad hr
  | .l its, p, er, fr, h => by
    simp only [rdOne] at h
    split at h
    · split at h
      · simp at h
      · rename_i hr; simp only [R.bad.injEq] at h; rw [h.1, h.2] at hr; exact rdRows_bad (fun p er fr h => rdAll_bad its p er fr h) _ _ _ _ hr
    · rename_i hr; simp only [R.bad.injEq] at h; rw [h.1, h.2] at hr; exact rdVar_bad hr
theorem rdAll_bad {s : List UInt8} : ∀ (its : List It) (p er fr : Nat), rdAll s its p = .bad er fr → er = 42 ∨ er = 43
  | [], p, er, fr, h => by simp [rdAll] at h
  | it :: its, p, er, fr, h => by
    simp only [rdAll] at h
    split at h
    · rename_i hr; simp only [R.bad.injEq] at h; rw [h.1, h.2] at hr; exact rdOne_bad it _ _ _ hr
    · split at h
      · rename_i hr; simp only [R.bad.injEq] at h; rw [h.1, h.2] at hr; exact rdAll_bad its _ _ _ hr
      · simp at h
end

/-- A row that the call owns, and what it holds. -/
theorem own_flds {w : World} {base e : Nat} {v : Value} {m : List Fld} {xs : List Value} (ho : w.ownsRow base e 6 v m.length xs) (hh : FCellsS w (Mine base w v) xs m) :
    ∃ (a : Option Addr) (c : Nat), v = .slice a m.length c ∧ FldsS w (fun k => base ≤ k ∧ k < w.heap.size) m a m.length := by
  have hl := ho.lt
  have hc := @World.ownsRow.cells w base e 6 v m.length xs ho
  rcases ho.2 with ⟨rfl, hn⟩ | ⟨g, cap, cur, rfl, hb, hg, hr⟩
  · have : m = [] := List.eq_nil_of_length_eq_zero hn
    subst this
    exact ⟨none, 0, rfl, by simp [FldsS]⟩
  · refine ⟨some ⟨g, 0, none⟩, cap, rfl, hh.flds (fun k hk => ⟨hk.1, hk.2.1⟩) g 0 ?_ ?_⟩
    · exact hl g rfl
    · intro j u hj
      have := hc (g := g) rfl j u hj
      rwa [add_none] at this
theorem own_rows {w : World} {base e : Nat} {v : Value} {m : List (List Fld)} {xs : List Value} (ho : w.ownsRow base e 1 v m.length xs) (hh : RCellsS w (Mine base w v) xs m) :
    ∃ (a : Option Addr) (c : Nat), v = .slice a m.length c ∧ RowsS w (fun k => base ≤ k ∧ k < w.heap.size) m a m.length := by
  have hl := ho.lt
  have hc := @World.ownsRow.cells w base e 1 v m.length xs ho
  rcases ho.2 with ⟨rfl, hn⟩ | ⟨g, cap, cur, rfl, hb, hg, hr⟩
  · have : m = [] := List.eq_nil_of_length_eq_zero hn
    subst this
    exact ⟨none, 0, rfl, by simp [RowsS]⟩
  · refine ⟨some ⟨g, 0, none⟩, cap, rfl, hh.rows (fun k hk => ⟨hk.1, hk.2.1⟩) g 0 ?_ ?_⟩
    · exact hl g rfl
    · intro j u hj
      have := hc (g := g) rfl j u hj
      rwa [add_none] at this
theorem FCellsS.grew {w w' : World} {base : Nat} {v v' : Value} {xs : List Value} {m : List Fld} (h : FCellsS w (Mine base w v) xs m) (g : Grew w w' v v') : FCellsS w' (Mine base w' v') xs m :=
  h.kept (fun k hk => g.g.block k hk.2.1 (fun e => hk.2.2 e.symm)) (fun k hk => ⟨hk.1, Nat.lt_of_lt_of_le hk.2.1 g.g.size, g.other hk.2.1 hk.2.2⟩)
theorem RCellsS.grew {w w' : World} {base : Nat} {v v' : Value} {xs : List Value} {m : List (List Fld)} (h : RCellsS w (Mine base w v) xs m) (g : Grew w w' v v') : RCellsS w' (Mine base w' v') xs m :=
  h.kept (fun k hk => g.g.block k hk.2.1 (fun e => hk.2.2 e.symm)) (fun k hk => ⟨hk.1, Nat.lt_of_lt_of_le hk.2.1 g.g.size, g.other hk.2.1 hk.2.2⟩)
end Go.Wq
end

section
/- What Head and Decode tell: there and back, and only so. -/
namespace Go.Wq
set_option linter.unusedVariables false

/-- What Head tells: fields, where, and an error. -/
def headSays (sh s : List UInt8) : List Fld × Nat × Nat :=
  match shape sh with
  | none => ([], 0, 40)
  | some its => if 65536 < s.length then ([], 0, 3) else
    match rdAll s its 0 with
    | .ok l q => (l, q, 0)
    | .bad e q => ([], q, e)
/-- What Decode tells. -/
def decSays (sh s : List UInt8) : List Fld × Nat × Nat :=
  if (headSays sh s).2.2 ≠ 0 then ([], (headSays sh s).2.1, (headSays sh s).2.2)
  else if (headSays sh s).2.1 < s.length then ([], (headSays sh s).2.1, 44)
  else ((headSays sh s).1, 0, 0)
theorem headSays_zero {sh s : List UInt8} (h : (headSays sh s).2.2 ≠ 0) : (headSays sh s).1 = [] := by
  unfold headSays at h ⊢
  cases h1 : shape sh with
  | none => rfl
  | some its =>
    rw [h1] at h
    simp only [] at h ⊢
    by_cases h2 : 65536 < s.length
    · rw [if_pos h2]
    · rw [if_neg h2] at h ⊢
      cases h3 : rdAll s its 0 with
      | ok l q => rw [h3] at h; exact absurd rfl h
      | bad e q => rfl
theorem decSays_zero {sh s : List UInt8} (h : (decSays sh s).2.2 ≠ 0) : (decSays sh s).1 = [] := by
  unfold decSays at h ⊢
  split
  · rfl
  · split
    · rfl
    · rename_i h1 h2
      simp only [if_neg h1, if_neg h2] at h
      exact absurd rfl h
theorem headSays_ok {sh s : List UInt8} (h : (headSays sh s).2.2 = 0) : ∃ its, shape sh = some its ∧ s.length ≤ 65536 ∧ rdAll s its 0 = .ok (headSays sh s).1 (headSays sh s).2.1 := by
  unfold headSays at h ⊢
  cases h1 : shape sh with
  | none => rw [h1] at h; simp at h
  | some its =>
    rw [h1] at h
    simp only [] at h ⊢
    by_cases h2 : 65536 < s.length
    · rw [if_pos h2] at h; simp at h
    · rw [if_neg h2] at h ⊢
      cases h3 : rdAll s its 0 with
      | ok l q => exact ⟨its, rfl, by omega, h3⟩
      | bad e q =>
        rw [h3] at h
        simp only [] at h
        rcases rdAll_bad _ _ _ _ h3 with h4 | h4 <;> omega
/-- What Head tells lies in the bytes. -/
theorem headSays_at {sh s : List UInt8} (h : (headSays sh s).2.2 = 0) : (headSays sh s).2.1 ≤ s.length := by
  obtain ⟨its, h1, h2, h3⟩ := headSays_ok h
  obtain ⟨a, ha, -, hat, hq⟩ := only_all s (by omega) its (shape_ok h1) _ _ _ h3
  rw [hq]
  by_cases hn : a = []
  · subst hn; simp
  · have := hat.fits hn; omega
theorem At.whole (a r : List UInt8) : At (a ++ r) 0 a := fun k hk => by rw [Nat.zero_add, List.getElem?_append_left hk]
/-- With any bytes behind them fields are read as they are. -/
theorem head_back {sh a r : List UInt8} {its : List It} {l : List Fld} (h1 : shape sh = some its) (h2 : encAll its l = some a) (hok : ∀ x ∈ l, x.Ok) (hl : a.length + r.length ≤ 65536) : headSays sh (a ++ r) = (l, a.length, 0) := by
  have h3 := back_all (a ++ r) its l a 0 h2 hok (At.whole a r)
  unfold headSays
  rw [h1]
  simp only []
  rw [if_neg (by rw [List.length_append]; omega), h3]
  simp
theorem dec_back {sh a : List UInt8} {its : List It} {l : List Fld} (h1 : shape sh = some its) (h2 : encAll its l = some a) (hok : ∀ x ∈ l, x.Ok) (hl : a.length ≤ 65536) : decSays sh a = (l, 0, 0) := by
  have h := head_back (r := []) h1 h2 hok (by simpa using hl)
  rw [List.append_nil] at h
  unfold decSays
  rw [h]
  simp
/-- What Decode tells is written just so. -/
theorem dec_only {sh s : List UInt8} (h : (decSays sh s).2.2 = 0) : ∃ its, shape sh = some its ∧ s.length ≤ 65536 ∧ encAll its (decSays sh s).1 = some s ∧ ∀ x ∈ (decSays sh s).1, x.Ok := by
  unfold decSays at h ⊢
  by_cases h1 : (headSays sh s).2.2 = 0
  · rw [if_neg (by simpa using h1)] at h ⊢
    by_cases h2 : (headSays sh s).2.1 < s.length
    · rw [if_pos h2] at h; simp at h
    · rw [if_neg h2] at h ⊢
      obtain ⟨its, h3, h4, h5⟩ := headSays_ok h1
      obtain ⟨a, ha, hok, hat, hq⟩ := only_all s (by omega) its (shape_ok h3) _ _ _ h5
      refine ⟨its, h3, h4, ?_, hok⟩
      have := headSays_at h1
      have hs : a = s := by
        have h6 := hat.take
        rw [List.drop_zero, show a.length = s.length by omega, List.take_length] at h6
        exact h6.symm
      rw [ha, hs]
  · rw [if_pos h1] at h; exact absurd h h1
end Go.Wq
end

section
/- A row of fields that is filled one by one. -/
namespace Go.Wq
set_option linter.unusedVariables false
open Go.RowKit Go.Lib

theorem set6 (xs ys : List Value) (k : Nat) (hk : xs.length = k * 6) (hy : 6 ≤ ys.length) (u0 u1 u2 u3 u4 u5 : Value) :
    ((((((xs ++ ys).set (k * 6) u0).set (k * 6 + 1) u1).set (k * 6 + 2) u2).set (k * 6 + 3) u3).set (k * 6 + 4) u4).set (k * 6 + 5) u5 = (xs ++ [u0, u1, u2, u3, u4, u5]) ++ ys.drop 6 := by
  match ys, hy with
  | y0 :: y1 :: y2 :: y3 :: y4 :: y5 :: ys, _ =>
    rw [← hk]
    simp [List.set_append_right]
/-- What a loop that fills fields has so far. -/
def FillF (w : World) (base : Nat) (t : TypeId) (g n cap : Nat) (fs : List Fld) : Prop :=
  ∃ xs ys, w.ownsRow base t 6 (.slice (some ⟨g, 0, none⟩) n cap) n (xs ++ ys) ∧ FCellsS w (Mine base w (.slice (some ⟨g, 0, none⟩) n cap)) xs fs
theorem FillF.kept {w w' : World} {base : Nat} {t : TypeId} {g n cap : Nat} {fs : List Fld} (h : FillF w base t g n cap fs) {row : Option Nat} (hb : w.grownBy w' row) (hr : ∀ k, row = some k → k < base) : FillF w' base t g n cap fs := by
  obtain ⟨xs, ys, ho, hc⟩ := h
  have hg := ho.lt g rfl
  refine ⟨xs, ys, ho.kept hb ?_, hc.kept (fun k hk => hb.block k hk.2.1 (fun e => by have := hr k e.symm; have := hk.1; omega)) (fun k hk => ⟨hk.1, Nat.lt_of_lt_of_le hk.2.1 hb.size, hk.2.2⟩)⟩
  cases row with
  | none => exact Or.inr (by simp [Value.ownBlock])
  | some k => exact Or.inr (fun e => by have h1 := hr k rfl; simp [Value.ownBlock] at e; omega)
theorem FillF.next {w : World} {base : Nat} {t : TypeId} {g n cap : Nat} {fs : List Fld} (h : FillF w base t g n cap fs) (hk : fs.length < n) (u : Nat) (i : Int) (f : Nat) (bb : Bool) (s : ByteArray) (l : List (List Fld)) (ra : Option Addr) (rn rc : Nat)
    (hr : RowsS w (Mine base w (.slice (some ⟨g, 0, none⟩) n cap)) l ra rn) :
    FillF ((((((w.setCell ⟨g, fs.length * 6, none⟩ (.int .u64 (u : Int))).setCell ⟨g, fs.length * 6 + 1, none⟩ (.int .i64 i)).setCell ⟨g, fs.length * 6 + 2, none⟩ (.float .f64 f)).setCell ⟨g, fs.length * 6 + 3, none⟩ (.bool bb)).setCell ⟨g, fs.length * 6 + 4, none⟩ (.string s)).setCell ⟨g, fs.length * 6 + 5, none⟩ (.slice ra rn rc))
      base t g n cap (fs ++ [.mk u i f bb s.data.toList l]) := by
  obtain ⟨xs, ys, ho, hc⟩ := h
  have hl := ho.1
  have hx := hc.len
  rw [List.length_append, hx] at hl
  have e0 := (ho.stored (fs.length * 6) (.int .u64 (u : Int))).1
  have e1 := (e0.stored (fs.length * 6 + 1) (.int .i64 i)).1
  have e2 := (e1.stored (fs.length * 6 + 2) (.float .f64 f)).1
  have e3 := (e2.stored (fs.length * 6 + 3) (.bool bb)).1
  have e4 := (e3.stored (fs.length * 6 + 4) (.string s)).1
  have e5 := (e4.stored (fs.length * 6 + 5) (.slice ra rn rc)).1
  rw [set6 xs ys fs.length hx (by omega)] at e5
  refine ⟨_, _, e5, ?_⟩
  have hkp : ∀ k, Mine base w (.slice (some ⟨g, 0, none⟩) n cap) k → ((((((w.setCell ⟨g, fs.length * 6, none⟩ (.int .u64 (u : Int))).setCell ⟨g, fs.length * 6 + 1, none⟩ (.int .i64 i)).setCell ⟨g, fs.length * 6 + 2, none⟩ (.float .f64 f)).setCell ⟨g, fs.length * 6 + 3, none⟩ (.bool bb)).setCell ⟨g, fs.length * 6 + 4, none⟩ (.string s)).setCell ⟨g, fs.length * 6 + 5, none⟩ (.slice ra rn rc)).heap[k]? = w.heap[k]? := fun k hk => by
    have hne : k ≠ g := fun e => hk.2.2 (by simp [Value.ownBlock, e])
    rw [Below.heap_setCell _ _ _ _ hne, Below.heap_setCell _ _ _ _ hne, Below.heap_setCell _ _ _ _ hne, Below.heap_setCell _ _ _ _ hne, Below.heap_setCell _ _ _ _ hne, Below.heap_setCell _ _ _ _ hne]
  have hT : ∀ k, Mine base w (.slice (some ⟨g, 0, none⟩) n cap) k → Mine base ((((((w.setCell ⟨g, fs.length * 6, none⟩ (.int .u64 (u : Int))).setCell ⟨g, fs.length * 6 + 1, none⟩ (.int .i64 i)).setCell ⟨g, fs.length * 6 + 2, none⟩ (.float .f64 f)).setCell ⟨g, fs.length * 6 + 3, none⟩ (.bool bb)).setCell ⟨g, fs.length * 6 + 4, none⟩ (.string s)).setCell ⟨g, fs.length * 6 + 5, none⟩ (.slice ra rn rc)) (.slice (some ⟨g, 0, none⟩) n cap) k := fun k hk => ⟨hk.1, by simpa [World.setCell] using hk.2.1, hk.2.2⟩
  exact (hc.append (.cons (ra := ra) (rn := rn) (rc := rc) hr .nil)).kept hkp hT
/-- All is filled. -/
theorem FillF.all {w : World} {base : Nat} {t : TypeId} {g n cap : Nat} {fs : List Fld} (h : FillF w base t g n cap fs) (hn : fs.length = n) : FldsS w (fun k => base ≤ k ∧ k < w.heap.size) fs (some ⟨g, 0, none⟩) fs.length := by
  obtain ⟨xs, ys, ho, hc⟩ := h
  have hl := ho.1
  rw [List.length_append, hc.len, hn] at hl
  have : ys = [] := List.eq_nil_of_length_eq_zero (by omega)
  subst this
  rw [List.append_nil] at ho
  subst hn
  obtain ⟨a, c, e, hf⟩ := own_flds ho hc
  injection e with e1 _ _
  rw [e1]; exact hf
end Go.Wq
end

section
/- Fields that have few bytes are as Go's memory can hold them. -/
namespace Go.Wq
set_option linter.unusedVariables false

theorem enc_pos_all {its : List It} {l : List Fld} {a : List UInt8} (hne : its ≠ []) (h : encAll its l = some a) : 0 < a.length := by
  cases its with
  | nil => exact absurd rfl hne
  | cons it its =>
    cases l with
    | nil => simp [encAll] at h
    | cons y ys =>
      simp only [encAll] at h
      split at h
      · rename_i a1 a2 e1 e2
        injection h with h
        have := enc_pos e1
        rw [← h]; simp; omega
      · cases h
theorem rows_fine {enc : List Fld → Option (List UInt8)} (hp : ∀ x a, enc x = some a → 0 < a.length) : ∀ {l : List (List Fld)} {a : List UInt8}, rows enc l = some a → l.length ≤ a.length ∧ ∀ r ∈ l, ∃ b, enc r = some b ∧ b.length ≤ a.length
  | [], a, h => by simp [rows] at h; subst h; simp
  | x :: r, a, h => by
    simp only [rows] at h
    split at h
    · rename_i a1 a2 h1 h2
      injection h with h
      subst h
      obtain ⟨g1, g2⟩ := rows_fine hp h2
      have := hp _ _ h1
      refine ⟨by simp; omega, ?_⟩
      intro y hy
      rcases List.mem_cons.1 hy with rfl | hy
      · exact ⟨a1, h1, by simp⟩
      · obtain ⟨b, hb, hl⟩ := g2 y hy
        exact ⟨b, hb, by simp; omega⟩
    · cases h
theorem zero_TL (c : Char) (x : Fld) (h : zeroBut c x = true) (hc : c ≠ 't' ∧ c ≠ 'l') : x.T = [] ∧ x.L = [] := by
  unfold zeroBut at h
  simp only [Bool.and_eq_true, Bool.or_eq_true, beq_iff_eq, hc.1, hc.2, false_or, List.isEmpty_iff] at h
  exact ⟨h.1.2, h.2⟩
theorem Fld.fine_of {x : Fld} (ht : x.T.length ≤ 65536) (hn : x.L.length ≤ 65536) (hr : ∀ r ∈ x.L, r.length ≤ 256) (hl : ∀ r ∈ x.L, ∀ y ∈ r, y.Fit ∧ y.Len) : x.Fit ∧ x.Len := by
  obtain ⟨u, i, f, b, t, l⟩ := x
  simp only [Fld.T, Fld.L] at ht hn hr hl
  exact ⟨.mk (by omega) (fun r hr y hy => (hl r hr y hy).1), .mk (by omega) (fun r h => by have := hr r h; omega) (fun r hr y hy => (hl r hr y hy).2)⟩

mutual
theorem one_fine : ∀ (it : It) (x : Fld) (a : List UInt8), it.Ok → it.Sm → encOne it x = some a → a.length ≤ 65536 → x.Fit ∧ x.Len
  | .u, x, a, _, _, h, ha => by
    simp only [encOne] at h; split at h
    · rename_i hz; obtain ⟨h1, h2⟩ := zero_TL 'u' x hz (by decide); exact Fld.fine_of (by simp [h1]) (by simp [h2]) (by simp [h2]) (by simp [h2])
    · cases h
  | .i, x, a, _, _, h, ha => by
    simp only [encOne] at h; split at h
    · rename_i hz; obtain ⟨h1, h2⟩ := zero_TL 'i' x hz (by decide); exact Fld.fine_of (by simp [h1]) (by simp [h2]) (by simp [h2]) (by simp [h2])
    · cases h
  | .f, x, a, _, _, h, ha => by
    simp only [encOne] at h; split at h
    · rename_i hz; obtain ⟨h1, h2⟩ := zero_TL 'f' x hz (by decide); exact Fld.fine_of (by simp [h1]) (by simp [h2]) (by simp [h2]) (by simp [h2])
    · cases h
  | .b, x, a, _, _, h, ha => by
    simp only [encOne] at h; split at h
    · rename_i hz; obtain ⟨h1, h2⟩ := zero_TL 'b' x hz (by decide); exact Fld.fine_of (by simp [h1]) (by simp [h2]) (by simp [h2]) (by simp [h2])
    · cases h
  | .t, x, a, _, _, h, ha => by
    simp only [encOne] at h; split at h
    · rename_i hz
      have h2 := only_t hz
      have hL : x.L = [] := by rw [h2]; rfl
      injection h with h
      have hle := congrArg List.length h
      rw [List.length_append] at hle
      exact Fld.fine_of (by omega) (by simp [hL]) (by simp [hL]) (by simp [hL])
    · cases h
  | .l its, x, a, hok, hsm, h, ha => by
    cases hok with
    | l hne hok =>
    cases hsm with
    | l h256 hsm =>
    simp only [encOne] at h; split at h
    · rename_i hz
      have h2 := only_l hz
      have hT : x.T = [] := by rw [h2]; rfl
      split at h
      · rename_i a2 hr
        injection h with h
        have hle := congrArg List.length h
        rw [List.length_append] at hle
        obtain ⟨g1, g2⟩ := rows_fine (fun x a h => enc_pos_all hne h) hr
        refine Fld.fine_of (by simp [hT]) (by omega) (fun r hm => ?_) (fun r hm y hy => ?_)
        · obtain ⟨b, hb, _⟩ := g2 r hm
          have := encAll_len hb
          omega
        · obtain ⟨b, hb, hbl⟩ := g2 r hm
          exact all_fine its r b hok hsm hb (by omega) y hy
      · cases h
    · cases h
theorem all_fine : ∀ (its : List It) (l : List Fld) (a : List UInt8), (∀ y ∈ its, y.Ok) → (∀ y ∈ its, y.Sm) → encAll its l = some a → a.length ≤ 65536 → ∀ x ∈ l, x.Fit ∧ x.Len
  | [], [], a, _, _, _, _ => by simp
  | [], _ :: _, a, _, _, h, _ => by simp [encAll] at h
  | _ :: _, [], a, _, _, h, _ => by simp
  | it :: its, x :: r, a, hok, hsm, h, ha => by
    simp only [encAll] at h
    split at h
    · rename_i a1 a2 h1 h2
      injection h with h
      have hle := congrArg List.length h
      rw [List.length_append] at hle
      intro y hy
      rcases List.mem_cons.1 hy with rfl | hy
      · exact one_fine it y a1 (hok _ (List.mem_cons_self ..)) (hsm _ (List.mem_cons_self ..)) h1 (by omega)
      · exact all_fine its r a2 (fun z hz => hok z (List.mem_cons_of_mem _ hz)) (fun z hz => hsm z (List.mem_cons_of_mem _ hz)) h2 (by omega) y hy
    · cases h
end
end Go.Wq
end
