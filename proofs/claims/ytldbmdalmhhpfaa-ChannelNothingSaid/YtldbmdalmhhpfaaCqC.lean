/- Channel, plainly: how often a datagram stands in a flight. -/
import Derived.Test.YtldbmdalmhhpfaaCqA
namespace Go.Cq
set_option linter.unusedVariables false
set_option linter.unusedSimpArgs false
def zw (g : Gm) : Gm := { g with wt := 0 }
/-- How often it stands there, whatever it waits. -/
def cnt (l : List Gm) (x : Gm) : Nat := (l.map zw).count x
/-- No oftener than it was put. -/
def Inv (l : List Gm) (M : Gm → Int) : Prop := ∀ x, (cnt l x : Int) ≤ M x
theorem Inv.nil : Inv [] (fun _ => 0) := fun x => by simp [cnt]
theorem Inv.put {l : List Gm} {M : Gm → Int} (h : Inv l M) (g : Gm) : Inv (l ++ [g]) (fun x => if x = zw g then M (zw g) + 1 else M x) := fun x => by
  have hx := h x
  unfold cnt at *
  rw [List.map_append, List.count_append]
  simp only [List.map_cons, List.map_nil, List.count_singleton]
  by_cases e : x = zw g
  · subst e; simp; omega
  · rw [if_neg e]
    have : (zw g == x) = false := by simp; exact fun h => e h.symm
    rw [this]; simp; omega
theorem Inv.sub {l l' : List Gm} {M : Gm → Int} (h : Inv l M) (hs : l'.Sublist l) : Inv l' M := fun x => by
  have hx := h x
  have := (hs.map zw).count_le x
  unfold cnt at *
  omega
theorem Inv.same {l l' : List Gm} {M : Gm → Int} (h : Inv l M) (hs : ∀ x, cnt l' x = cnt l x) : Inv l' M := fun x => by rw [hs x]; exact h x
theorem Inv.take {l : List Gm} {M : Gm → Int} (h : Inv l M) {i : Nat} (hi : i < l.length) : 0 < M (zw l[i]) ∧ Inv (l.eraseIdx i) (fun x => if x = zw l[i] then M (zw l[i]) - 1 else M x) := by
  have key : ∀ x, cnt l x = cnt (l.eraseIdx i) x + (if zw l[i] == x then 1 else 0) := fun x => by
    unfold cnt
    have e : l = l.take i ++ l[i] :: l.drop (i + 1) := by rw [List.getElem_cons_drop, List.take_append_drop]
    rw [List.eraseIdx_eq_take_drop_succ]
    conv => lhs; rw [e]
    simp only [List.map_append, List.map_cons, List.count_append, List.count_cons]
    omega
  constructor
  · have h1 := h (zw l[i])
    have h2 := key (zw l[i])
    simp at h2
    omega
  · intro x
    have h1 := h x
    have h2 := key x
    by_cases e : x = zw l[i]
    · simp only [if_pos e]
      subst e
      simp at h2
      omega
    · simp only [if_neg e]
      have : (zw l[i] == x) = false := by simp; exact fun h => e h.symm
      rw [this] at h2
      simp at h2
      omega
theorem cnt_set {l : List Gm} {n : Nat} (hn : n < l.length) (a x : Gm) : cnt (l.set n a) x = cnt l x - (if zw l[n] == x then 1 else 0) + (if zw a == x then 1 else 0) := by
  unfold cnt
  rw [List.map_set, List.count_set (by simpa using hn)]
  simp
theorem cnt_has {l : List Gm} {n : Nat} (hn : n < l.length) (x : Gm) (h : (zw l[n] == x) = true) : 0 < cnt l x := by
  unfold cnt
  rw [List.count_pos_iff]
  rw [← eq_of_beq h]
  exact List.mem_map_of_mem (List.getElem_mem hn)
theorem cnt_swap {l : List Gm} {n m : Nat} (hn : n < l.length) (hm : m < l.length) (x : Gm) : cnt ((l.set n l[m]).set m l[n]) x = cnt l x := by
  rw [cnt_set (by simpa using hm), cnt_set hn]
  by_cases e : n = m
  · subst e
    simp only [List.getElem_set_self]
    have := cnt_has hn x
    split <;> simp_all <;> omega
  · rw [List.getElem_set_ne e]
    have := cnt_has hn x
    split <;> split <;> simp_all <;> omega
/-- What neither doubles nor takes leaves no datagram oftener. -/
theorem Inv.does {l : List Gm} {M : Gm → Int} (h : Inv l M) (kd i k : Int) (h1 : kd ≠ 1) (h3 : kd ≠ 3) : Inv (doL l kd i k) M := by
  unfold doL
  by_cases he : doE l kd i k = 0
  · rw [if_neg (by simpa using he), if_neg h1]
    by_cases h2 : kd = 2
    · rw [if_pos h2]; exact h.sub (List.eraseIdx_sublist _ _)
    rw [if_neg h2, if_neg h3]
    by_cases h4 : kd = 4
    · subst h4
      rw [if_pos rfl]
      have hb : hasB l i = true := by
        unfold doE at he
        simp at he
        by_cases hb : hasB l i = true
        · exact hb
        · simp [hb] at he
      obtain ⟨hi, -, hg⟩ := gat_get hb
      refine h.same (fun x => ?_)
      rw [cnt_set hi, hg]
      have := cnt_has hi x
      have e : zw { l[i.toNat] with wt := l[i.toNat].wt + k } = zw l[i.toNat] := rfl
      rw [e]
      split <;> simp_all <;> omega
    rw [if_neg h4]
    by_cases h5 : kd = 5
    · subst h5
      rw [if_pos rfl]
      have hb : hasB l i = true ∧ hasB l k = true := by
        unfold doE at he
        simp at he
        by_cases hb : hasB l i = true ∧ hasB l k = true
        · exact hb
        · simp [hb] at he
      obtain ⟨hi, -, hg⟩ := gat_get hb.1
      obtain ⟨hk, -, hg2⟩ := gat_get hb.2
      refine h.same (fun x => ?_)
      rw [hg, hg2]
      exact cnt_swap hi hk x
    rw [if_neg h5]
    by_cases h6 : kd = 6
    · rw [if_pos h6]
      refine h.same (fun x => ?_)
      unfold cnt
      rw [List.map_map]
      congr 1
      apply List.map_congr_left
      intro g _
      simp only [Function.comp]
      unfold tickG zw
      split <;> rfl
    · rw [if_neg h6]
      exact h.sub List.filter_sublist
  · rw [if_pos (by simpa using he)]; exact h
end Go.Cq
