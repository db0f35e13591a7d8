/- Channel, plainly: datagrams, a flight as a list, what becomes of it. -/
namespace Go.Cq
set_option linter.unusedVariables false
set_option linter.unusedSimpArgs false

structure Gm where
  fr : Int
  to : Int
  bs : ByteArray
  wt : Int
deriving DecidableEq
def zG : Gm := ⟨0, 0, ⟨#[]⟩, 0⟩
def idB (x : Int) : Bool := decide (1 ≤ x) && decide (x ≤ 2147483647)
def mayB (g : Gm) : Bool := idB g.fr && idB g.to && (g.fr != g.to) && decide ((g.bs.size : Int) ≤ 65536) && decide (0 ≤ g.wt) && decide (g.wt ≤ 65536)
def putE (l : List Gm) (g : Gm) : Int := if mayB g = true then (if 65536 ≤ l.length then 2 else 0) else 1
def putL (l : List Gm) (g : Gm) : List Gm := if putE l g = 0 then l ++ [g] else l
/-- Is there a place? -/
def hasB (l : List Gm) (i : Int) : Bool := decide (0 ≤ i) && decide (i < (l.length : Int))
def gat (l : List Gm) (i : Int) : Gm := l.getD i.toNat zG
def takeE (l : List Gm) (i : Int) : Int := if hasB l i = true then (if (gat l i).wt = 0 then 0 else 1) else 4
def takeL (l : List Gm) (i : Int) : List Gm := if takeE l i = 0 then l.eraseIdx i.toNat else l
def takeG (l : List Gm) (i : Int) : Gm := if takeE l i = 0 then gat l i else zG
def tickG (g : Gm) : Gm := if 0 < g.wt then { g with wt := g.wt - 1 } else g
def betB (a b : Int) (g : Gm) : Bool := (g.fr == a && g.to == b) || (g.fr == b && g.to == a)
def twoB (a b : Int) : Bool := idB a && idB b && (a != b)
/-- What is told of a Fate. -/
def doE (l : List Gm) (kd i k : Int) : Int :=
  if kd = 1 then takeE l i
  else if kd = 2 then (if hasB l i = true then 0 else 4)
  else if kd = 3 then (if hasB l i = true then (if 65536 ≤ l.length then 2 else 0) else 4)
  else if kd = 4 then (if hasB l i = true then (if k < 0 ∨ 65536 - (gat l i).wt < k then 1 else 0) else 4)
  else if kd = 5 then (if hasB l i = true ∧ hasB l k = true then 0 else 4)
  else if kd = 6 then 0
  else if kd = 7 then (if twoB i k = true then 0 else 1)
  else 1
def doL (l : List Gm) (kd i k : Int) : List Gm :=
  if doE l kd i k ≠ 0 then l
  else if kd = 1 then l.eraseIdx i.toNat
  else if kd = 2 then l.eraseIdx i.toNat
  else if kd = 3 then l ++ [gat l i]
  else if kd = 4 then l.set i.toNat { gat l i with wt := (gat l i).wt + k }
  else if kd = 5 then (l.set i.toNat (gat l k)).set k.toNat (gat l i)
  else if kd = 6 then l.map tickG
  else l.filter (fun g => !betB i k g)
def doG (l : List Gm) (kd i k : Int) : Gm := if kd = 1 then takeG l i else zG
/-- A flight's list. -/
structure Good (l : List Gm) : Prop where
  few : l.length ≤ 65536
  may : ∀ g ∈ l, mayB g = true
theorem Good.nil : Good [] := ⟨by simp, fun g h => by cases h⟩
theorem mayB_iff {g : Gm} : mayB g = true ↔ idB g.fr = true ∧ idB g.to = true ∧ g.fr ≠ g.to ∧ (g.bs.size : Int) ≤ 65536 ∧ 0 ≤ g.wt ∧ g.wt ≤ 65536 := by
  unfold mayB
  simp only [Bool.and_eq_true, decide_eq_true_eq, bne_iff_ne, and_assoc]
theorem gat_mem {l : List Gm} {i : Int} (h : hasB l i = true) : gat l i ∈ l := by
  unfold hasB at h
  simp only [Bool.and_eq_true, decide_eq_true_eq] at h
  unfold gat
  have hi : i.toNat < l.length := by omega
  rw [List.getD_eq_getElem?_getD, List.getElem?_eq_getElem hi]
  exact List.getElem_mem hi
theorem gat_get {l : List Gm} {i : Int} (h : hasB l i = true) : ∃ hi : i.toNat < l.length, (i.toNat : Int) = i ∧ gat l i = l[i.toNat] := by
  unfold hasB at h
  simp only [Bool.and_eq_true, decide_eq_true_eq] at h
  have hi : i.toNat < l.length := by omega
  refine ⟨hi, by omega, ?_⟩
  unfold gat
  rw [List.getD_eq_getElem?_getD, List.getElem?_eq_getElem hi]; rfl
theorem Good.put {l : List Gm} (h : Good l) (g : Gm) : Good (putL l g) := by
  unfold putL
  by_cases e : putE l g = 0
  · rw [if_pos e]
    unfold putE at e
    by_cases hm : mayB g = true
    · rw [if_pos hm] at e
      by_cases hl : 65536 ≤ l.length
      · rw [if_pos hl] at e; omega
      · refine ⟨by simp; omega, fun x hx => ?_⟩
        rcases List.mem_append.1 hx with hx | hx
        · exact h.may x hx
        · rw [List.mem_singleton] at hx; subst hx; exact hm
    · rw [if_neg hm] at e; omega
  · rw [if_neg e]; exact h
theorem Good.erase {l : List Gm} (h : Good l) (i : Nat) : Good (l.eraseIdx i) :=
  ⟨Nat.le_trans (List.length_eraseIdx_le l i) h.few, fun x hx => h.may x (List.mem_of_mem_eraseIdx hx)⟩
theorem Good.set {l : List Gm} (h : Good l) (i : Nat) {g : Gm} (hg : mayB g = true) : Good (l.set i g) :=
  ⟨by rw [List.length_set]; exact h.few, fun x hx => by
    rcases List.mem_or_eq_of_mem_set hx with hx | hx
    · exact h.may x hx
    · rw [hx]; exact hg⟩
theorem Good.do {l : List Gm} (h : Good l) (kd i k : Int) : Good (doL l kd i k) := by
  unfold doL
  by_cases e : doE l kd i k ≠ 0
  · rw [if_pos e]; exact h
  rw [if_neg e]
  have e : doE l kd i k = 0 := by simpa using e
  unfold doE at e
  by_cases h1 : kd = 1
  · rw [if_pos h1]; exact h.erase _
  rw [if_neg h1] at e ⊢
  by_cases h2 : kd = 2
  · rw [if_pos h2]; exact h.erase _
  rw [if_neg h2] at e ⊢
  by_cases h3 : kd = 3
  · rw [if_pos h3] at e ⊢
    by_cases hh : hasB l i = true
    · rw [if_pos hh] at e
      by_cases hl : 65536 ≤ l.length
      · rw [if_pos hl] at e; omega
      · refine ⟨by simp; omega, fun x hx => ?_⟩
        rcases List.mem_append.1 hx with hx | hx
        · exact h.may x hx
        · rw [List.mem_singleton] at hx; subst hx; exact h.may _ (gat_mem hh)
    · rw [if_neg hh] at e; omega
  rw [if_neg h3] at e ⊢
  by_cases h4 : kd = 4
  · rw [if_pos h4] at e ⊢
    by_cases hh : hasB l i = true
    · rw [if_pos hh] at e
      have hm := mayB_iff.1 (h.may _ (gat_mem hh))
      by_cases hk : k < 0 ∨ 65536 - (gat l i).wt < k
      · rw [if_pos hk] at e; omega
      · exact h.set _ (mayB_iff.2 ⟨hm.1, hm.2.1, hm.2.2.1, hm.2.2.2.1, by simp only; omega, by simp only; omega⟩)
    · rw [if_neg hh] at e; omega
  rw [if_neg h4] at e ⊢
  by_cases h5 : kd = 5
  · rw [if_pos h5] at e ⊢
    by_cases hh : hasB l i = true ∧ hasB l k = true
    · exact (h.set _ (h.may _ (gat_mem hh.2))).set _ (h.may _ (gat_mem hh.1))
    · rw [if_neg hh] at e; omega
  rw [if_neg h5] at e ⊢
  by_cases h6 : kd = 6
  · rw [if_pos h6]
    refine ⟨by simpa using h.few, fun x hx => ?_⟩
    obtain ⟨g, hg, rfl⟩ := List.mem_map.1 hx
    have hm := mayB_iff.1 (h.may g hg)
    unfold tickG
    split
    · exact mayB_iff.2 ⟨hm.1, hm.2.1, hm.2.2.1, hm.2.2.2.1, by simp only; omega, by simp only; omega⟩
    · exact h.may g hg
  rw [if_neg h6]
  exact ⟨Nat.le_trans (List.length_filter_le _ _) h.few, fun x hx => h.may x (List.mem_filter.1 hx).1⟩
end Go.Cq
