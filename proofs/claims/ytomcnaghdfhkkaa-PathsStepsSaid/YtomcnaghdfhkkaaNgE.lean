/- Graphs: the search for a link. -/
import Derived.Test.YtomcnaghdfhkkaaNgD
namespace Go.Proofs.Ytomcnaghdfhkkaa
open Go.RowKit Go.Lib Go.Nq
set_option linter.unusedVariables false
set_option linter.unusedSimpArgs false
set_option maxRecDepth 100000

/-- A link with these ends stands just where it would stand. -/
theorem hasL_at {l : List Lk} (h : ∀ k (h : k + 1 < l.length), before (l[k]'(by omega)) l[k + 1] = true) (t : Lk) : l.any (fun y => y.a == t.a && y.b == t.b) = true ↔ ∃ hk : aheadL l t < l.length, (l[aheadL l t]'hk).a = t.a ∧ (l[aheadL l t]'hk).b = t.b := by
  obtain ⟨h1, h2⟩ := aheadL_spec h t
  rw [List.any_eq_true]
  constructor
  · rintro ⟨n, hn, e⟩
    obtain ⟨k, hk, rfl⟩ := List.getElem_of_mem hn
    have e' : l[k].a = t.a ∧ l[k].b = t.b := by simpa using e
    have hbf : ∀ z, before l[k] z = before t z ∧ before z l[k] = before z t := fun z => by unfold before; rw [e'.1, e'.2]; exact ⟨rfl, rfl⟩
    have hnk : ¬ k < aheadL l t := fun hlt => by have := (h2 k hk).1 hlt; rw [(hbf t).1, before_irr] at this; cases this
    have hka : aheadL l t < l.length := by omega
    refine ⟨hka, ?_⟩
    by_cases e2 : aheadL l t = k
    · simp only [e2]; exact e'
    · have h3 := links_rise h k (aheadL l t) (by omega) hk
      rw [(hbf _).2] at h3
      have := (h2 _ hka).2 h3
      omega
  · rintro ⟨hk, e⟩
    exact ⟨_, List.getElem_mem hk, by simp [e.1, e.2]⟩
end Go.Proofs.Ytomcnaghdfhkkaa
