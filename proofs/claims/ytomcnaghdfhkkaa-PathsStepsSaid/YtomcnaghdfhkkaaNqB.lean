/- Graphs, plainly: the checks, step by step. -/
import Derived.Test.YtomcnaghdfhkkaaNqA
namespace Go.Nq
open Go.Fq Go.Iq
set_option linter.unusedVariables false
set_option linter.unusedSimpArgs false

theorem idE_cases (x : Int) : (idE x = 0 ∧ idB x = true) ∨ (idE x = 20 ∧ idB x = false) := by
  unfold idE
  cases h : idB x <;> simp
/-- One router, and the one ahead of it. -/
def NdOk (l : List Nd) (k : Nat) : Prop := ∃ h : k < l.length, idB l[k].id = true ∧ (0 < k → (l[k - 1]'(by omega)).id < l[k].id)
theorem nodesP_iff (l : List Nd) : NodesP l ↔ ∀ k, k < l.length → NdOk l k :=
  ⟨fun h k hk => ⟨hk, h k hk⟩, fun h k hk => (h k hk).2⟩
theorem check_full {g : Gr} (h : 256 < g.nodes.length ∨ 4096 < g.links.length) : checkG g = 2 := by unfold checkG; rw [if_pos h]
theorem check_node {g : Gr} (h1 : ¬ 256 < g.nodes.length) (h2 : ¬ 4096 < g.links.length) {k : Nat} (hk : k < g.nodes.length) (h : ¬ NdOk g.nodes k) : checkG g = 70 := by
  unfold checkG
  rw [if_neg (by omega), if_pos (fun hp => h ((nodesP_iff _).1 hp k hk))]
theorem check_links {g : Gr} (h1 : ¬ 256 < g.nodes.length) (h2 : ¬ 4096 < g.links.length) (h : ∀ k, k < g.nodes.length → NdOk g.nodes k) : checkG g = linksE g.nodes none g.links := by
  unfold checkG
  rw [if_neg (by omega), if_neg (fun hp => hp ((nodesP_iff _).2 h))]
/-- The link ahead of a place. -/
def prv (l : List Lk) : Nat → Option Lk
  | 0 => none
  | k + 1 => l[k]?
theorem links_end {ns : List Nd} {l : List Lk} {k : Nat} (hk : l.length ≤ k) (p : Option Lk) : linksE ns p (l.drop k) = 0 := by rw [List.drop_of_length_le hk]; unfold linksE; rfl
theorem links_ends {ns : List Nd} {l : List Lk} {k : Nat} (hk : k < l.length) (p : Option Lk) (h : (decide (l[k].a < l[k].b) && has ns l[k].a && has ns l[k].b) = false) : linksE ns p (l.drop k) = 71 := by
  rw [List.drop_eq_getElem_cons hk]; unfold linksE; rw [h]; rfl
theorem links_order {ns : List Nd} {l : List Lk} {k : Nat} (hk : k + 1 < l.length) (h : before (l[k]'(by omega)) l[k + 1] = false) : linksE ns (prv l (k + 1)) (l.drop (k + 1)) = 71 := by
  have ep : prv l (k + 1) = some (l[k]'(by omega)) := List.getElem?_eq_getElem (by omega)
  rw [ep, List.drop_eq_getElem_cons hk]; unfold linksE
  simp only [h, Bool.not_false, if_true]
  split <;> rfl
theorem links_go {ns : List Nd} {l : List Lk} {k : Nat} (hk : k < l.length) (h : (decide (l[k].a < l[k].b) && has ns l[k].a && has ns l[k].b) = true) (ho : ∀ m (e : k = m + 1), before (l[m]'(by omega)) l[k] = true) : linksE ns (prv l k) (l.drop k) = if weightF l[k].w ≠ 0 then weightF l[k].w else linksE ns (prv l (k + 1)) (l.drop (k + 1)) := by
  have e : prv l (k + 1) = some l[k] := List.getElem?_eq_getElem hk
  rw [e]
  rw [List.drop_eq_getElem_cons hk]
  conv => lhs; unfold linksE
  rw [h]
  simp only [Bool.not_true, Bool.false_eq_true, if_false]
  cases k with
  | zero => rfl
  | succ m =>
    have hm := ho m rfl
    have ep : prv l (m + 1) = some (l[m]'(by omega)) := List.getElem?_eq_getElem (by omega)
    rw [ep]
    simp only [hm, Bool.not_true, Bool.false_eq_true, if_false]
end Go.Nq
