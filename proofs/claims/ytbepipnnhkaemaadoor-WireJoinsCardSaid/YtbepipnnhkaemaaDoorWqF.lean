/- Encoding: what the first items, the first rows come to. -/
import Derived.Test.YtbepipnnhkaemaaDoorWqZ
namespace Go.Wq
theorem encAll_pre {its : List It} {l : List Fld} {a : List UInt8} (h : encAll its l = some a) (k : Nat) (hk : k ≤ its.length) : ∃ p q, encAll (its.take k) (l.take k) = some p ∧ a = p ++ q := by
  have hl := encAll_len h
  have e := encAll_append (its.take k) (l.take k) (its.drop k) (l.drop k) (by simp; omega)
  rw [List.take_append_drop, List.take_append_drop, h] at e
  cases h1 : encAll (its.take k) (l.take k) with
  | none => rw [h1] at e; simp at e
  | some p =>
    cases h2 : encAll (its.drop k) (l.drop k) with
    | none => rw [h1, h2] at e; simp at e
    | some q => rw [h1, h2] at e; simp at e; exact ⟨p, q, rfl, e⟩
theorem rows_pre {g : List Fld → Option (List UInt8)} {l : List (List Fld)} {a : List UInt8} (h : rows g l = some a) (k : Nat) : ∃ p q, rows g (l.take k) = some p ∧ a = p ++ q := by
  have e := rows_append g (l.take k) (l.drop k)
  rw [List.take_append_drop, h] at e
  cases h1 : rows g (l.take k) with
  | none => rw [h1] at e; simp at e
  | some p =>
    cases h2 : rows g (l.drop k) with
    | none => rw [h1, h2] at e; simp at e
    | some q => rw [h1, h2] at e; simp at e; exact ⟨p, q, rfl, e⟩
theorem encAll_one {its : List It} {l : List Fld} {a : List UInt8} (h : encAll its l = some a) (k : Nat) (hk : k < its.length) (hl : k < l.length) : ∃ c, encOne its[k] l[k] = some c := by
  cases h1 : encOne its[k] l[k] with
  | none => rw [encAll_bad hk hl h1] at h; cases h
  | some c => exact ⟨c, rfl⟩
theorem rows_one {g : List Fld → Option (List UInt8)} {l : List (List Fld)} {a : List UInt8} (h : rows g l = some a) (k : Nat) (hk : k < l.length) : ∃ c, g l[k] = some c := by
  cases h1 : g l[k] with
  | none => rw [rows_bad hk h1] at h; cases h
  | some c => exact ⟨c, rfl⟩
theorem encAll_nil {l : List Fld} {a : List UInt8} (h : encAll [] l = some a) : a = [] := by
  cases l with
  | nil => simpa [encAll] using h.symm
  | cons x r => simp [encAll] at h
end Go.Wq
