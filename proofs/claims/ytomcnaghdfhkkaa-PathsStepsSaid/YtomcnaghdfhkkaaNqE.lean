/- Graphs, plainly: what the document's Place and link tell. -/
import Derived.Test.YtomcnaghdfhkkaaNqD
namespace Go.Nq
open Go.Fq Go.Iq
set_option linter.unusedVariables false
set_option linter.unusedSimpArgs false

def placeV (l : List Nd) (x : Int) : Int := if has l x then (ahead l x : Int) else -1
def linkV (l : List Lk) (a b : Int) : Int := if hasL l a b then (aheadL l ⟨min a b, max a b, 0, false⟩ : Int) else -1
theorem placeV_hit {l : List Nd} (h : NodesP l) {x : Int} {k : Nat} (hk : k < l.length) (e : l[k].id = x) : placeV l x = k := by
  have hh : has l x = true := by unfold has; rw [List.any_eq_true]; exact ⟨_, List.getElem_mem hk, by simpa using e⟩
  obtain ⟨ha, he⟩ := (has_at h x).1 hh
  unfold placeV
  rw [hh, if_pos rfl]
  rcases Nat.lt_trichotomy (ahead l x) k with q | q | q
  · have := nodes_rise h k _ q hk; omega
  · rw [q]
  · have := nodes_rise h _ k q ha; omega
theorem placeV_miss {l : List Nd} {x : Int} (h : ∀ i (hi : i < l.length), l[i].id ≠ x) : placeV l x = -1 := by
  have hh : has l x = false := by
    cases hh : has l x with
    | false => rfl
    | true =>
      unfold has at hh; rw [List.any_eq_true] at hh
      obtain ⟨n, hn, e⟩ := hh
      obtain ⟨k, hk, rfl⟩ := List.getElem_of_mem hn
      exact absurd (by simpa using e) (h k hk)
  unfold placeV; rw [hh]; rfl
theorem placeV_neg (l : List Nd) (x : Int) : (placeV l x < 0 ↔ has l x = false) ∧ (0 ≤ placeV l x ↔ has l x = true) := by
  unfold placeV
  cases has l x <;> simp <;> omega
theorem linkV_hit {l : List Lk} (h : ∀ k (h : k + 1 < l.length), before (l[k]'(by omega)) l[k + 1] = true) {a b : Int} {k : Nat} (hk : k < l.length) (e : l[k].a = min a b ∧ l[k].b = max a b) : linkV l a b = k := by
  have hh : hasL l a b = true := by unfold hasL; rw [List.any_eq_true]; exact ⟨_, List.getElem_mem hk, by simp [e.1, e.2]⟩
  obtain ⟨ha, e1, e2⟩ := hasL_place h (t := ⟨min a b, max a b, 0, false⟩) rfl rfl hh
  have eqv : ∀ z, before (l[k]) z = before (l[aheadL l ⟨min a b, max a b, 0, false⟩]'ha) z := fun z => by unfold before; rw [e.1, e.2, e1, e2]
  unfold linkV
  rw [hh, if_pos rfl]
  rcases Nat.lt_trichotomy (aheadL l ⟨min a b, max a b, 0, false⟩) k with q | q | q
  · have := links_rise h k _ q hk; rw [← eqv, before_irr] at this; cases this
  · rw [q]
  · have := links_rise h _ k q ha; rw [eqv, before_irr] at this; cases this
theorem linkV_miss {l : List Lk} {a b : Int} (h : ∀ i (hi : i < l.length), ¬ (l[i].a = min a b ∧ l[i].b = max a b)) : linkV l a b = -1 := by
  have hh : hasL l a b = false := by
    cases hh : hasL l a b with
    | false => rfl
    | true =>
      unfold hasL at hh; rw [List.any_eq_true] at hh
      obtain ⟨n, hn, e⟩ := hh
      obtain ⟨k, hk, rfl⟩ := List.getElem_of_mem hn
      exact absurd (by simpa using e) (h k hk)
  unfold linkV; rw [hh]; rfl
theorem linkV_neg (l : List Lk) (a b : Int) : (linkV l a b < 0 ↔ hasL l a b = false) ∧ (0 ≤ linkV l a b ↔ hasL l a b = true) := by
  unfold linkV
  cases hasL l a b <;> simp <;> omega
theorem before_cases {x y : Lk} : (before x y = true ↔ x.a < y.a ∨ (x.a = y.a ∧ x.b < y.b)) := by
  unfold before; simp
end Go.Nq
