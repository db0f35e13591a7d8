/- The document's own order: each one is laid at the end and goes ahead of whom it goes ahead of. -/
import Derived.Test.YtgcoiabfejhgkaaDoorIqB
namespace Go.Iq

/-- A sorted list with one more, at a place. -/
def ins (M : List Int) (k : Nat) (x : Int) : List Int := M.take k ++ x :: M.drop k
theorem ins_length (M : List Int) (k : Nat) (x : Int) (h : k ≤ M.length) : (ins M k x).length = M.length + 1 := by
  unfold ins; simp [Nat.min_eq_left h]; omega
theorem ins_end (M : List Int) (x : Int) : ins M M.length x = M ++ [x] := by unfold ins; simp
theorem ins_at (M : List Int) (k : Nat) (x : Int) (h : k ≤ M.length) : (ins M k x)[k]? = some x := by
  unfold ins
  rw [List.getElem?_append_right (by simp; omega)]
  simp [Nat.min_eq_left h]
theorem ins_ahead (M : List Int) (k : Nat) (x : Int) (i : Nat) (hi : i < k) (h : k ≤ M.length) : (ins M k x)[i]? = M[i]? := by
  unfold ins
  rw [List.getElem?_append_left (by simp; omega), List.getElem?_take, if_pos hi]
theorem ins_behind (M : List Int) (k : Nat) (x : Int) (i : Nat) (hi : k < i) (h : k ≤ M.length) : (ins M k x)[i]? = M[i - 1]? := by
  unfold ins
  rw [List.getElem?_append_right (by simp; omega), List.length_take, Nat.min_eq_left h, List.getElem?_cons]
  rw [if_neg (by omega), List.getElem?_drop]
  congr 1; omega
/-- It goes one ahead. -/
theorem ins_step (M : List Int) (k : Nat) (x y : Int) (h0 : 0 < k) (h : k ≤ M.length) (hy : M[k - 1]? = some y) : ((ins M k x).set k y).set (k - 1) x = ins M (k - 1) x := by
  have hl := ins_length M k x h
  refine List.ext_getElem? fun i => ?_
  by_cases e1 : i = k - 1
  · subst e1
    rw [List.getElem?_set_self (by rw [List.length_set, hl]; omega), ins_at M (k - 1) x (by omega)]
  · rw [List.getElem?_set_ne (by omega)]
    by_cases e2 : i = k
    · subst e2
      rw [List.getElem?_set_self (by rw [hl]; omega), ins_behind M (i - 1) x i (by omega) (by omega), hy]
    · rw [List.getElem?_set_ne (by omega)]
      by_cases e3 : i < k
      · rw [ins_ahead M k x i e3 h, ins_ahead M (k - 1) x i (by omega) (by omega)]
      · rw [ins_behind M k x i (by omega) h, ins_behind M (k - 1) x i (by omega) (by omega)]
theorem ins_perm (M : List Int) (k : Nat) (x : Int) : (ins M k x).Perm (M ++ [x]) := by
  unfold ins
  refine (List.perm_middle).trans ?_
  rw [List.take_append_drop]
  exact (List.perm_append_comm (l₁ := [x]) (l₂ := M))
/-- Sorted again. -/
theorem ins_sorted (s : Int) (M : List Int) (k : Nat) (x : Int) (hM : M.Pairwise (fun a b => moreB s a b = true)) (hx : ∀ j (h : j < M.length), k ≤ j → moreB s x M[j] = true)
    (hk : ∀ j (h : j < M.length), j < k → moreB s M[j] x = true) : (ins M k x).Pairwise (fun a b => moreB s a b = true) := by
  unfold ins
  refine List.pairwise_append.2 ⟨hM.sublist (List.take_sublist _ _), ?_, ?_⟩
  · refine List.pairwise_cons.2 ⟨fun z hz => ?_, hM.sublist (List.drop_sublist _ _)⟩
    obtain ⟨j, hj, rfl⟩ := List.getElem_of_mem hz
    rw [List.getElem_drop]
    exact hx _ _ (by omega)
  · intro a ha b hb
    obtain ⟨i, hi, rfl⟩ := List.getElem_of_mem ha
    have hi' : i < k ∧ i < M.length := by simp at hi; omega
    rw [List.getElem_take]
    rcases List.mem_cons.1 hb with rfl | hb
    · exact hk i hi'.2 hi'.1
    · obtain ⟨j, hj, rfl⟩ := List.getElem_of_mem hb
      rw [List.getElem_drop]
      have hj' : k + j < M.length := by simp at hj; omega
      exact List.pairwise_iff_getElem.1 hM i (k + j) hi'.2 hj' (by omega)
/-- Where it comes to rest: whom it stands behind wants it more, and so do all ahead of that one. -/
theorem ins_rest (s : Int) (M : List Int) (k : Nat) (x : Int) (hM : M.Pairwise (fun a b => moreB s a b = true)) (hne : x ∉ M) (hkl : k ≤ M.length) (hx : ∀ j (h : j < M.length), k ≤ j → moreB s x M[j] = true)
    (hk : k = 0 ∨ ∃ y, M[k - 1]? = some y ∧ moreB s x y = false) : (ins M k x).Pairwise (fun a b => moreB s a b = true) := by
  refine ins_sorted s M k x hM hx fun j h hj => ?_
  rcases hk with rfl | ⟨y, hy, hm⟩
  · omega
  · have hlt : k - 1 < M.length := by omega
    rw [List.getElem?_eq_getElem hlt] at hy
    cases hy
    have h1 : moreB s M[k - 1] x = true := more_total (fun e => hne (by rw [e]; exact List.getElem_mem _)) hm
    by_cases e : j = k - 1
    · subst e; exact h1
    · exact more_trans (List.pairwise_iff_getElem.1 hM j (k - 1) h hlt (by omega)) h1
end Go.Iq
