/- Graphs, plainly: what is up, step by step. -/
import Derived.Test.YtomcnaghdfhkkaaNqE
namespace Go.Nq
open Go.Fq Go.Iq
set_option linter.unusedVariables false
set_option linter.unusedSimpArgs false

theorem upB_at {l : List Nd} (h : NodesP l) (x : Int) : upB l x = if hk : has l x = true then (l[Nq.ahead l x]'((has_at h x).1 hk).1).up else false := by
  by_cases hk : has l x = true
  · rw [dif_pos hk]
    obtain ⟨ha, he⟩ := (has_at h x).1 hk
    cases hu : (l[Nq.ahead l x]'ha).up with
    | true =>
      unfold upB; rw [List.any_eq_true]
      exact ⟨_, List.getElem_mem ha, by simp [he, hu]⟩
    | false =>
      cases hq : upB l x with
      | false => rfl
      | true =>
        unfold upB at hq; rw [List.any_eq_true] at hq
        obtain ⟨n, hn, e⟩ := hq
        obtain ⟨k, hk2, rfl⟩ := List.getElem_of_mem hn
        simp only [Bool.and_eq_true, beq_iff_eq] at e
        have hka : k = Nq.ahead l x := by
          rcases Nat.lt_trichotomy k (Nq.ahead l x) with q | q | q
          · have := nodes_rise h _ k q ha; omega
          · exact q
          · have := nodes_rise h k _ q hk2; omega
        subst hka
        rw [hu] at e; exact absurd e.2 (by decide)
  · rw [dif_neg hk]
    cases hq : upB l x with
    | false => rfl
    | true =>
      unfold upB at hq; rw [List.any_eq_true] at hq
      obtain ⟨n, hn, e⟩ := hq
      exact absurd (by unfold has; rw [List.any_eq_true]; exact ⟨n, hn, by simp only [Bool.and_eq_true] at e; exact e.1⟩) hk
theorem filter_go {α : Type} (p : α → Bool) (l : List α) (k : Nat) (hk : k < l.length) : (l.take (k + 1)).filter p = if p l[k] then (l.take k).filter p ++ [l[k]] else (l.take k).filter p := by
  rw [List.take_add_one, List.getElem?_eq_getElem hk]
  simp only [Option.toList_some, List.filter_append]
  cases h : p l[k] with
  | true => rw [if_pos rfl, List.filter_cons_of_pos h]; rfl
  | false => rw [if_neg (by decide), List.filter_cons_of_neg (by simp [h])]; simp
theorem filter_le {α : Type} (p : α → Bool) (l : List α) (k : Nat) : ((l.take k).filter p).length ≤ k := by
  refine Nat.le_trans (List.length_filter_le _ _) ?_
  rw [List.length_take]; omega
/-- What Live tells. -/
def liveA (g : Gr) : Gr := if checkG g = 0 then liveG g else gr0
theorem liveA_ok {g : Gr} (h : checkG g = 0) : liveA g = liveG g := by unfold liveA; rw [if_pos h]
theorem liveA_no {g : Gr} (h : checkG g ≠ 0) : liveA g = gr0 := by unfold liveA; rw [if_neg h]
end Go.Nq
