/- Rows as long as a machine may hold. -/
import Derived.Test.YtbepipnnhkaemaaDoorWqQ
namespace Go.Wq
set_option linter.unusedVariables false
/-- Every row is shorter than 2 ^ 62. -/
inductive Fld.Len : Fld → Prop where
  | mk {u : Nat} {i : Int} {f : Nat} {b : Bool} {t : List UInt8} {l : List (List Fld)} (hn : l.length < 4611686018427387904) (hr : ∀ r ∈ l, r.length < 4611686018427387904) (hl : ∀ r ∈ l, ∀ x ∈ r, Fld.Len x) : Fld.Len (.mk u i f b t l)
theorem Fld.Len.n {x : Fld} (h : x.Len) : x.L.length < 4611686018427387904 := by cases h; assumption
theorem Fld.Len.r {x : Fld} (h : x.Len) : ∀ r ∈ x.L, r.length < 4611686018427387904 := by cases h; assumption
theorem Fld.Len.l {x : Fld} (h : x.Len) : ∀ r ∈ x.L, ∀ y ∈ r, y.Len := by cases h; assumption
theorem size_row {x : Fld} {r : List Fld} (h : r ∈ x.L) : SizeOf.sizeOf r < SizeOf.sizeOf x := by
  obtain ⟨u, i, f, b, t, l⟩ := x
  have h1 := List.sizeOf_lt_of_mem (show r ∈ l from h)
  simp only [Fld.mk.sizeOf_spec]
  omega
theorem flds_ind0 (Q : List Fld → Prop) (h : ∀ fs, (∀ x ∈ fs, ∀ r ∈ x.L, Q r) → Q fs) : ∀ (n : Nat) (fs : List Fld), SizeOf.sizeOf fs ≤ n → Q fs := by
  intro n
  induction n with
  | zero => intro fs hn; exact h fs (fun x hx r hr => by have h1 := List.sizeOf_lt_of_mem hx; omega)
  | succ n ih => intro fs hn; exact h fs (fun x hx r hr => ih r (by have h1 := List.sizeOf_lt_of_mem hx; have h2 := size_row hr; omega))
theorem flds_ind (Q : List Fld → Prop) (h : ∀ fs, (∀ x ∈ fs, ∀ r ∈ x.L, Q r) → Q fs) (fs : List Fld) : Q fs := flds_ind0 Q h _ fs (Nat.le_refl _)
theorem eq_of_take {α : Type} {a b : List α} (hl : a.length = b.length) : (∀ k (h1 : k < a.length) (h2 : k < b.length), a[k] = b[k]) → a = b := fun h => List.ext_getElem hl h
end Go.Wq
