/- Fields as bytes, by shapes: what they are; there and back, and only so; unlike fields, unlike bytes. -/
import Derived.Test.YtbepipnnhkaemaaDoorWqA
namespace Go.Wq

/-- An item of a shape: a letter (u i f b t), or a list of items. -/
inductive It where
  | u | i | f | b | t
  | l (its : List It)

/-- A field: its parts. -/
inductive Fld where
  | mk (u : Nat) (i : Int) (f : Nat) (b : Bool) (t : List UInt8) (l : List (List Fld))
namespace Fld
def U : Fld → Nat | mk u _ _ _ _ _ => u
def I : Fld → Int | mk _ i _ _ _ _ => i
def F : Fld → Nat | mk _ _ f _ _ _ => f
def B : Fld → Bool | mk _ _ _ b _ _ => b
def T : Fld → List UInt8 | mk _ _ _ _ t _ => t
def L : Fld → List (List Fld) | mk _ _ _ _ _ l => l
end Fld

def zeroBut (c : Char) (x : Fld) : Bool :=
  (c == 'u' || x.U == 0) && (c == 'i' || x.I == 0) && (c == 'f' || x.F == 0) && (c == 'b' || !x.B) && (c == 't' || x.T.isEmpty) && (c == 'l' || x.L.isEmpty)
def It.letter : It → Char
  | .u => 'u' | .i => 'i' | .f => 'f' | .b => 'b' | .t => 't' | .l _ => 'l'

/-- A whole number's number: 2 I, or, below 0, -2 I - 1. -/
def zig (i : Int) : Nat := if i < 0 then (-2 * i - 1).toNat else (2 * i).toNat
def zag (n : Nat) : Int := if n % 2 = 1 then -((n / 2 : Nat) : Int) - 1 else ((n / 2 : Nat) : Int)
theorem zag_zig (i : Int) : zag (zig i) = i := by
  unfold zig zag
  split <;> split <;> omega
theorem zig_zag (n : Nat) : zig (zag n) = n := by
  unfold zig zag
  split <;> split <;> omega
theorem zig_lt {i : Int} (h0 : -9223372036854775808 ≤ i) (h1 : i ≤ 9223372036854775807) : zig i < 2 ^ 64 := by unfold zig; split <;> omega
theorem zag_range {n : Nat} (h : n < 2 ^ 64) : -9223372036854775808 ≤ zag n ∧ zag n ≤ 9223372036854775807 := by unfold zag; split <;> omega

/-- The low k bytes of a number, the highest first. -/
def bytesOf : Nat → Nat → List UInt8
  | 0, _ => []
  | k + 1, n => UInt8.ofNat (n / 256 ^ k % 256) :: bytesOf k n
def numOf : List UInt8 → Nat → Nat
  | [], n => n
  | c :: r, n => numOf r (n * 256 + c.toNat)
theorem bytesOf_length (k n : Nat) : (bytesOf k n).length = k := by induction k with
  | zero => rfl
  | succ k ih => simp [bytesOf, ih]
theorem numOf_bytesOf : ∀ (k n m : Nat), numOf (bytesOf k n) m = m * 256 ^ k + n % 256 ^ k := by
  intro k
  induction k with
  | zero => intro n m; simp [bytesOf, numOf, Nat.mod_one]
  | succ k ih =>
    intro n m
    rw [bytesOf, numOf, ih, toNat_ofNat (Nat.mod_lt _ (by omega)), Nat.pow_succ]
    have h1 : n % (256 ^ k * 256) = n % 256 ^ k + 256 ^ k * (n / 256 ^ k % 256) := Nat.mod_mul
    rw [h1, Nat.add_mul, Nat.mul_assoc m, Nat.mul_comm 256, Nat.mul_comm (256 ^ k) (n / 256 ^ k % 256)]
    omega
theorem bytesOf_numOf : ∀ (l : List UInt8) (m : Nat), bytesOf l.length (numOf l m) = l ∧ numOf l m = m * 256 ^ l.length + numOf l m % 256 ^ l.length := by
  intro l
  induction l with
  | nil => intro m; simp [bytesOf, numOf, Nat.mod_one]
  | cons c r ih =>
    intro m
    obtain ⟨h1, h2⟩ := ih (m * 256 + c.toNat)
    have hc := c.toNat_lt
    simp only [numOf, List.length_cons, bytesOf]
    generalize hN : numOf r (m * 256 + c.toNat) = N at *
    have hq : N / 256 ^ r.length = m * 256 + c.toNat := by
      rw [h2, Nat.mul_comm, Nat.mul_add_div (Nat.pow_pos (by omega)), Nat.div_eq_of_lt (Nat.mod_lt _ (Nat.pow_pos (by omega)))]
      omega
    refine ⟨?_, ?_⟩
    · rw [hq, h1]
      have : (m * 256 + c.toNat) % 256 = c.toNat := by omega
      rw [this]; simp
    · have hm : N % 256 ^ (r.length + 1) = N % 256 ^ r.length + 256 ^ r.length * (N / 256 ^ r.length % 256) := by rw [Nat.pow_succ]; exact Nat.mod_mul
      have hm2 : (m * 256 + c.toNat) % 256 = c.toNat := by omega
      rw [hm, hq, hm2, Nat.pow_succ]
      have e : m * (256 ^ r.length * 256) + 256 ^ r.length * c.toNat = (m * 256 + c.toNat) * 256 ^ r.length := by
        rw [Nat.add_mul, Nat.mul_comm (256 ^ r.length) 256, ← Nat.mul_assoc, Nat.mul_comm (256 ^ r.length)]
      omega

/-- Many encodings, one behind the other; none where one is none. -/
def rows (g : List Fld → Option (List UInt8)) : List (List Fld) → Option (List UInt8)
  | [] => some []
  | x :: r => match g x, rows g r with | some a, some b => some (a ++ b) | _, _ => none

mutual
/-- An item's bytes: none, if a part that counts not is not zero, or a list's fields are not as they must be. -/
def encOne : It → Fld → Option (List UInt8)
  | .u, x => if zeroBut 'u' x then some (vint x.U) else none
  | .i, x => if zeroBut 'i' x then some (vint (zig x.I)) else none
  | .f, x => if zeroBut 'f' x then some (bytesOf 8 x.F) else none
  | .b, x => if zeroBut 'b' x then some [if x.B then 1 else 0] else none
  | .t, x => if zeroBut 't' x then some (vint x.T.length ++ x.T) else none
  | .l its, x => if zeroBut 'l' x then (match rows (fun r => encAll its r) x.L with | some a => some (vint x.L.length ++ a) | none => none) else none
def encAll : List It → List Fld → Option (List UInt8)
  | [], [] => some []
  | it :: its, x :: r => match encOne it x, encAll its r with | some a, some b => some (a ++ b) | _, _ => none
  | _, _ => none
end

/-- So many readings, one behind the other. -/
def rdRows (g : Nat → R (List Fld)) : Nat → Nat → R (List (List Fld))
  | 0, p => .ok [] p
  | n + 1, p => match g p with
    | .bad e q => .bad e q
    | .ok x q => match rdRows g n q with
      | .bad e q' => .bad e q'
      | .ok r q' => .ok (x :: r) q'

mutual
def rdOne (s : List UInt8) : It → Nat → R Fld
  | .u, p => match rdVar s p with | .ok n q => .ok (.mk n 0 0 false [] []) q | .bad e q => .bad e q
  | .i, p => match rdVar s p with | .ok n q => .ok (.mk 0 (zag n) 0 false [] []) q | .bad e q => .bad e q
  | .f, p => if s.length < p + 8 then .bad eShort p else .ok (.mk 0 0 (numOf ((s.drop p).take 8) 0) false [] []) (p + 8)
  | .b, p => match s[p]? with | none => .bad eShort p | some c => if 1 < c.toNat then .bad eOver p else .ok (.mk 0 0 0 (c.toNat == 1) [] []) (p + 1)
  | .t, p => match rdVar s p with
    | .ok n q => if s.length < q + n then .bad eShort p else .ok (.mk 0 0 0 false ((s.drop q).take n) []) (q + n)
    | .bad e q => .bad e q
  | .l its, p => match rdVar s p with
    | .ok n q => (match rdRows (fun p => rdAll s its p) n q with | .ok rs q' => .ok (.mk 0 0 0 false [] rs) q' | .bad e q' => .bad e q')
    | .bad e q => .bad e q
def rdAll (s : List UInt8) : List It → Nat → R (List Fld)
  | [], p => .ok [] p
  | it :: its, p => match rdOne s it p with
    | .bad e q => .bad e q
    | .ok x q => match rdAll s its q with
      | .bad e q' => .bad e q'
      | .ok r q' => .ok (x :: r) q'
end

/-- What a field's parts may be: as Go's types have them. -/
inductive Fld.Ok : Fld → Prop where
  | mk {u : Nat} {i : Int} {f : Nat} {b : Bool} {t : List UInt8} {l : List (List Fld)} (hu : u < 2 ^ 64) (h0 : -9223372036854775808 ≤ i) (h1 : i ≤ 9223372036854775807) (hf : f < 2 ^ 64) (ht : t.length < 2 ^ 63) (hn : l.length < 2 ^ 63)
      (hl : ∀ r ∈ l, ∀ x ∈ r, Fld.Ok x) : Fld.Ok (.mk u i f b t l)

/-- These bytes stand at a place. -/
def At (s : List UInt8) (p : Nat) (a : List UInt8) : Prop := ∀ k, k < a.length → s[p + k]? = a[k]?
theorem At.left {s : List UInt8} {p : Nat} {a b : List UInt8} (h : At s p (a ++ b)) : At s p a := fun k hk => by
  rw [h k (by simp; omega), List.getElem?_append_left hk]
theorem At.right {s : List UInt8} {p : Nat} {a b : List UInt8} (h : At s p (a ++ b)) : At s (p + a.length) b := fun k hk => by
  have := h (a.length + k) (by simp; omega)
  rw [List.getElem?_append_right (by omega)] at this
  simpa [Nat.add_assoc] using this
theorem At.join {s : List UInt8} {p : Nat} {a b : List UInt8} (h : At s p a) (g : At s (p + a.length) b) : At s p (a ++ b) := fun k hk => by
  by_cases hk' : k < a.length
  · rw [List.getElem?_append_left hk']; exact h k hk'
  · rw [List.getElem?_append_right (by omega)]
    have := g (k - a.length) (by simp at hk; omega)
    rw [← this]
    congr 1
    omega
theorem At.nil (s : List UInt8) (p : Nat) : At s p [] := fun k hk => by simp at hk
theorem At.fits {s : List UInt8} {p : Nat} {a : List UInt8} (h : At s p a) (ha : a ≠ []) : p + a.length ≤ s.length := by
  have hpos : 0 < a.length := List.length_pos_iff.2 ha
  have := h (a.length - 1) (by omega)
  rw [List.getElem?_eq_getElem (l := a) (by omega)] at this
  rcases Nat.lt_or_ge (p + (a.length - 1)) s.length with h' | h'
  · omega
  · rw [List.getElem?_eq_none h'] at this; cases this
theorem At.take {s : List UInt8} {p : Nat} {a : List UInt8} (h : At s p a) : (s.drop p).take a.length = a := by
  apply List.ext_getElem?
  intro k
  by_cases hk : k < a.length
  · rw [List.getElem?_take, if_pos hk, List.getElem?_drop]; exact h k hk
  · rw [List.getElem?_take, if_neg hk, List.getElem?_eq_none (by omega)]
theorem At.of_take {s : List UInt8} {p n : Nat} : At s p ((s.drop p).take n) := fun k hk => by
  have hk' : k < n := by simp at hk; omega
  rw [List.getElem?_take, if_pos hk', List.getElem?_drop]
end Go.Wq
