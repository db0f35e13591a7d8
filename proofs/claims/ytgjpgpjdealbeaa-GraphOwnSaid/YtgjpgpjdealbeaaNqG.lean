/- Graphs, plainly: what Apply tells. Graphs, plainly: one put in, element by element. Graphs, plainly: what Apply tells, kind by kind. -/
import Derived.Test.YtgjpgpjdealbeaaNqF
section
namespace Go.Nq
open Go.Fq Go.Iq
set_option linter.unusedVariables false
set_option linter.unusedSimpArgs false

def applyE (g : Gr) (c : Ch) : Int := if checkG g = 0 then changeE g c else checkG g
def applyG (g : Gr) (c : Ch) : Gr := if applyE g c = 0 then changeG g c else gr0
theorem applyE_ok {g : Gr} (h : checkG g = 0) (c : Ch) : applyE g c = changeE g c := by unfold applyE; rw [if_pos h]
theorem applyE_no {g : Gr} (h : checkG g ≠ 0) (c : Ch) : applyE g c = checkG g := by unfold applyE; rw [if_neg h]
theorem applyG_ok {g : Gr} {c : Ch} (h : applyE g c = 0) : applyG g c = changeG g c := by unfold applyG; rw [if_pos h]
theorem applyG_no {g : Gr} {c : Ch} (h : applyE g c ≠ 0) : applyG g c = gr0 := by unfold applyG; rw [if_neg h]
theorem apply_check {g : Gr} {c : Ch} (h : applyE g c = 0) : checkG g = 0 := by
  unfold applyE at h
  split at h
  · assumption
  · exact absurd h (by assumption)
theorem apply_yes {g : Gr} {c : Ch} (h : checkG g = 0) (hz : changeE g c = 0) : applyE g c = 0 ∧ applyG g c = changeG g c := by
  have e : applyE g c = 0 := by rw [applyE_ok h]; exact hz
  exact ⟨e, applyG_ok e⟩
/-- What a change leaves may be. -/
theorem apply_keeps (g : Gr) (c : Ch) : checkG (applyG g c) = 0 := by
  by_cases h : applyE g c = 0
  · rw [applyG_ok h]
    have hc := apply_check h
    exact change_keeps hc (by rw [applyE_ok hc] at h; exact h)
  · rw [applyG_no h]; exact check_gr0
theorem apply_len (g : Gr) (c : Ch) : (applyG g c).nodes.length ≤ 256 ∧ (applyG g c).links.length ≤ 4096 := by
  obtain ⟨h1, h2, -, -⟩ := check_zero.1 (apply_keeps g c)
  exact ⟨h1, h2⟩
end Go.Nq
end

section
namespace Go.Nq
open Go.Fq Go.Iq
set_option linter.unusedVariables false
set_option linter.unusedSimpArgs false

/-- What stands in the new list when k have been gone over. -/
def putK {α : Type} (l : List α) (a : Nat) (n : α) (k : Nat) : List α := if a < k then l.take a ++ n :: (l.take k).drop a else l.take k
theorem part_0 {α : Type} (l : List α) (a : Nat) (n : α) : putK l a n 0 = [] := by unfold putK; rw [if_neg (by omega)]; rfl
theorem part_at {α : Type} (l : List α) (a : Nat) (n : α) (k : Nat) (hk : k < l.length) (e : a = k) : putK l a n (k + 1) = putK l a n k ++ [n] ++ [l[k]] := by
  subst e
  unfold putK
  rw [if_pos (by omega), if_neg (by omega), List.take_add_one, List.getElem?_eq_getElem hk, List.drop_append, List.length_take, List.drop_of_length_le (by rw [List.length_take]; omega)]
  simp [Nat.min_eq_left (Nat.le_of_lt hk)]
theorem part_go {α : Type} (l : List α) (a : Nat) (n : α) (k : Nat) (hk : k < l.length) (e : a ≠ k) : putK l a n (k + 1) = putK l a n k ++ [l[k]] := by
  unfold putK
  by_cases h : a < k
  · rw [if_pos (by omega), if_pos h, List.take_add_one, List.getElem?_eq_getElem hk, List.drop_append, List.length_take]
    simp [show a - min k l.length = 0 by omega]
  · rw [if_neg (by omega), if_neg h, List.take_add_one, List.getElem?_eq_getElem hk]
    rfl
theorem part_end {α : Type} (l : List α) (a : Nat) (n : α) (h : a < l.length) : putK l a n l.length = l.take a ++ n :: l.drop a := by
  unfold putK; rw [if_pos h, List.take_length]
theorem part_last {α : Type} (l : List α) (a : Nat) (n : α) (h : a = l.length) : putK l a n l.length ++ [n] = l.take a ++ n :: l.drop a := by
  subst h; unfold putK; rw [if_neg (by omega), List.take_length, List.drop_length]
theorem part_len {α : Type} (l : List α) (a : Nat) (n : α) (k : Nat) (hk : k ≤ l.length) : (putK l a n k).length ≤ k + 1 := by
  unfold putK
  split
  · simp only [List.length_append, List.length_cons, List.length_drop, List.length_take]; omega
  · rw [List.length_take]; omega
/-- What adding a router, a link tells. -/
def addG (g : Gr) (x : Int) : Gr := if addE g x = 0 then { g with nodes := putNode g.nodes ⟨x, true, false⟩ } else gr0
def linkG (g : Gr) (a b : Int) (w : Nat) : Gr := if linkE g a b w = 0 then { g with links := putLink g.links ⟨min a b, max a b, w, true⟩ } else gr0
theorem addG_ok {g : Gr} {x : Int} (h : addE g x = 0) : addG g x = { g with nodes := putNode g.nodes ⟨x, true, false⟩ } := by unfold addG; rw [if_pos h]
theorem addG_no {g : Gr} {x : Int} (h : addE g x ≠ 0) : addG g x = gr0 := by unfold addG; rw [if_neg h]
theorem linkG_ok {g : Gr} {a b : Int} {w : Nat} (h : linkE g a b w = 0) : linkG g a b w = { g with links := putLink g.links ⟨min a b, max a b, w, true⟩ } := by unfold linkG; rw [if_pos h]
theorem linkG_no {g : Gr} {a b : Int} {w : Nat} (h : linkE g a b w ≠ 0) : linkG g a b w = gr0 := by unfold linkG; rw [if_neg h]
/-- Ids behind the place are greater, those ahead of it less. -/
theorem ahead_gt {l : List Nd} (h : NodesP l) {x : Int} (hno : has l x = false) : ahead l x ≤ l.length ∧ ∀ k (hk : k < l.length), (l[k].id > x ↔ ahead l x ≤ k) := by
  obtain ⟨h1, h2⟩ := ahead_spec h x
  refine ⟨h1, fun k hk => ?_⟩
  have hne : l[k].id ≠ x := fun e => by
    have : has l x = true := by unfold has; rw [List.any_eq_true]; exact ⟨l[k], List.getElem_mem hk, by simpa using e⟩
    rw [hno] at this; cases this
  have := h2 k hk
  omega
theorem aheadL_gt {l : List Lk} (h : ∀ k (h : k + 1 < l.length), before (l[k]'(by omega)) l[k + 1] = true) {x : Lk} (hno : ∀ y ∈ l, ¬ (y.a = x.a ∧ y.b = x.b)) : aheadL l x ≤ l.length ∧ ∀ k (hk : k < l.length), ((l[k].a > x.a ∨ (l[k].a = x.a ∧ l[k].b > x.b)) ↔ aheadL l x ≤ k) := by
  obtain ⟨h1, h2⟩ := aheadL_spec h x
  refine ⟨h1, fun k hk => ?_⟩
  have hne := hno _ (List.getElem_mem hk)
  have := h2 k hk
  rw [before_cases] at this
  omega
end Go.Nq
end

section
namespace Go.Nq
open Go.Fq Go.Iq
set_option linter.unusedVariables false
set_option linter.unusedSimpArgs false

theorem apply_of {g : Gr} {c : Ch} (h : checkG g = 0) {E : Int} {G2 : Gr} (hx : changeE g c = E ∧ changeG g c = G2) : applyE g c = E ∧ applyG g c = if E = 0 then G2 else gr0 := by
  obtain ⟨h1, h2⟩ := hx
  have e := applyE_ok h c
  rw [h1] at e
  refine ⟨e, ?_⟩
  unfold applyG
  rw [e, h2]
theorem apply_bad {g : Gr} {c : Ch} (h : checkG g = 0) (hb : bareB c = false) : applyE g c = 1 ∧ applyG g c = gr0 := by
  have e := (applyE_ok h c).trans (changeE_bad hb)
  exact ⟨e, applyG_no (by rw [e]; decide)⟩
theorem apply_add {g : Gr} {a b : Int} {q : Nat} (h : checkG g = 0) (hb : bareB ⟨1, a, b, q⟩ = true) : applyE g ⟨1, a, b, q⟩ = addE g a ∧ applyG g ⟨1, a, b, q⟩ = addG g a := apply_of h (changeE_1 hb rfl)
theorem apply_link {g : Gr} {a b : Int} {q : Nat} (h : checkG g = 0) (hb : bareB ⟨2, a, b, q⟩ = true) : applyE g ⟨2, a, b, q⟩ = linkE g a b q ∧ applyG g ⟨2, a, b, q⟩ = linkG g a b q := apply_of h (changeE_2 hb rfl)
theorem apply_no {g : Gr} {c : Ch} (h : checkG g = 0) {E : Int} {G2 : Gr} (hx : changeE g c = E ∧ changeG g c = G2) (hE : E ≠ 0) : applyE g c = E ∧ applyG g c = gr0 := by
  have := apply_of h hx
  rw [if_neg hE] at this; exact this
theorem apply_did {g : Gr} {c : Ch} (h : checkG g = 0) {E : Int} {G2 : Gr} (hx : changeE g c = E ∧ changeG g c = G2) (hE : E = 0) : applyE g c = 0 ∧ applyG g c = G2 := by
  have := apply_of h hx
  rw [if_pos hE] at this
  rw [hE] at this; exact this
end Go.Nq
end
