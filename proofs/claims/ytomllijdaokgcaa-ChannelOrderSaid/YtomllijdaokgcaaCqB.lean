/- Channel, plainly: what stands in the order in which it was put. -/
import Derived.Test.YtomllijdaokgcaaCqA
namespace Go.Cq
set_option linter.unusedVariables false
set_option linter.unusedSimpArgs false

/-- The texts of datagrams. -/
def bss (l : List Gm) : List ByteArray := l.map (·.bs)
theorem bss_set (l : List Gm) (i : Nat) (g : Gm) (h : ∀ hi : i < l.length, l[i].bs = g.bs) : bss (l.set i g) = bss l := by
  unfold bss
  rw [List.map_set]
  by_cases hi : i < l.length
  · rw [← h hi]
    apply List.ext_getElem?
    intro j
    rw [List.getElem?_set]
    split
    · rename_i e; subst e
      simp [hi]
    · rfl
  · exact List.set_eq_of_length_le (by simpa using Nat.le_of_not_lt hi)
theorem bss_tick (l : List Gm) : bss (l.map tickG) = bss l := by
  unfold bss
  rw [List.map_map]
  apply List.map_congr_left
  intro g _
  simp only [Function.comp, tickG]
  split <;> rfl
/-- Nothing but doubling and swapping sets anything in another place. -/
theorem bss_do (l : List Gm) (kd i k : Int) (h3 : kd ≠ 3) (h5 : kd ≠ 5) : (bss (doL l kd i k)).Sublist (bss l) := by
  unfold doL
  by_cases e : doE l kd i k ≠ 0
  · rw [if_pos e]; exact List.Sublist.refl _
  rw [if_neg e]
  by_cases h1 : kd = 1
  · rw [if_pos h1]; exact (List.eraseIdx_sublist l _).map _
  rw [if_neg h1]
  by_cases h2 : kd = 2
  · rw [if_pos h2]; exact (List.eraseIdx_sublist l _).map _
  rw [if_neg h2, if_neg h3]
  by_cases h4 : kd = 4
  · rw [if_pos h4, bss_set]
    · exact List.Sublist.refl _
    · intro hi
      show _ = (gat l i).bs
      unfold gat
      rw [List.getD_eq_getElem?_getD, List.getElem?_eq_getElem hi]; rfl
  rw [if_neg h4, if_neg h5]
  by_cases h6 : kd = 6
  · rw [if_pos h6, bss_tick]; exact List.Sublist.refl _
  rw [if_neg h6]
  exact List.filter_sublist.map _
/-- The text of one number. -/
def bN (i : Nat) : ByteArray := ⟨#[UInt8.ofNat i]⟩
/-- Some of what was put, in its order. -/
def Rises (n : Nat) (l : List Gm) : Prop := ∃ xs : List Nat, xs.Sublist (List.range n) ∧ bss l = xs.map bN
theorem Rises.nil : Rises 0 [] := ⟨[], List.Sublist.refl _, rfl⟩
theorem Rises.sub {n : Nat} {l m : List Gm} (h : Rises n l) (hs : (bss m).Sublist (bss l)) : Rises n m := by
  obtain ⟨xs, h1, h2⟩ := h
  rw [h2] at hs
  obtain ⟨ys, h3, h4⟩ := List.sublist_map_iff.1 hs
  exact ⟨ys, h3.trans h1, h4⟩
theorem Rises.put {n : Nat} {l : List Gm} (h : Rises n l) (g : Gm) (hg : g.bs = bN n) : Rises (n + 1) (l ++ [g]) := by
  obtain ⟨xs, h1, h2⟩ := h
  refine ⟨xs ++ [n], ?_, ?_⟩
  · rw [List.range_succ]; exact h1.append (List.Sublist.refl _)
  · unfold bss at h2 ⊢
    rw [List.map_append, h2, List.map_append]; simp [hg]
theorem Rises.len {n : Nat} {l : List Gm} (h : Rises n l) : l.length ≤ n := by
  obtain ⟨xs, h1, h2⟩ := h
  have e : (bss l).length = xs.length := by rw [h2]; simp
  unfold bss at e
  rw [List.length_map] at e
  have := h1.length_le
  rw [List.length_range] at this
  omega
/-- Two that stand side by side. -/
theorem Rises.two {n : Nat} {l : List Gm} (h : Rises n l) {j : Nat} (hj : j + 1 < l.length) : ∃ a b : Nat, a < b ∧ b < n ∧ l[j].bs = bN a ∧ l[j + 1].bs = bN b := by
  obtain ⟨xs, h1, h2⟩ := h
  have e : l.length = xs.length := by
    have : (bss l).length = xs.length := by rw [h2]; simp
    unfold bss at this
    simpa using this
  have hp : xs.Pairwise (· < ·) := List.Pairwise.sublist h1 List.pairwise_lt_range
  have g : ∀ i (hi : i < l.length), l[i].bs = bN (xs[i]'(by omega)) := fun i hi => by
    have : (bss l)[i]? = (xs.map bN)[i]? := by rw [h2]
    unfold bss at this
    rw [List.getElem?_map, List.getElem?_map, List.getElem?_eq_getElem hi, List.getElem?_eq_getElem (by omega)] at this
    simpa using this
  refine ⟨xs[j]'(by omega), xs[j + 1]'(by omega), List.pairwise_iff_getElem.1 hp j (j + 1) (by omega) (by omega) (by omega), ?_, g j (by omega), g (j + 1) hj⟩
  have := h1.subset (List.getElem_mem (by omega : j + 1 < xs.length))
  simpa using this
end Go.Cq
