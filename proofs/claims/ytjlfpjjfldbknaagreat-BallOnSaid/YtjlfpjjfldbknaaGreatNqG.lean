/- Graphs, plainly: what Apply tells. Graphs, plainly: one put in, element by element. Graphs, plainly: what Apply tells, kind by kind. Graphs, plainly: what Neighbours tells. Graphs, plainly: the document's Neighbours. -/
import Derived.Test.YtjlfpjjfldbknaaGreatNqA
section
section
namespace Go.Nq
open Go.Fq Go.Iq
set_option linter.unusedVariables false
set_option linter.unusedSimpArgs false

end Go.Nq
end

section
namespace Go.Nq
open Go.Fq Go.Iq
set_option linter.unusedVariables false
set_option linter.unusedSimpArgs false

end Go.Nq
end

section
namespace Go.Nq
open Go.Fq Go.Iq
set_option linter.unusedVariables false
set_option linter.unusedSimpArgs false

end Go.Nq
end
end

section
namespace Go.Nq
open Go.Fq Go.Iq
set_option linter.unusedVariables false
set_option linter.unusedSimpArgs false

def nbE (g : Gr) (x : Int) : Int := if checkG g = 0 then (if has g.nodes x then 0 else 4) else checkG g
def nbL (g : Gr) (x : Int) : List Lk := if nbE g x = 0 then neighL g x else []
theorem nbE_no {g : Gr} (h : checkG g ≠ 0) (x : Int) : nbE g x = checkG g := by unfold nbE; rw [if_neg h]
theorem nbE_miss {g : Gr} (h : checkG g = 0) {x : Int} (hx : has g.nodes x = false) : nbE g x = 4 := by unfold nbE; rw [if_pos h, hx]; rfl
theorem nbE_ok {g : Gr} (h : checkG g = 0) {x : Int} (hx : has g.nodes x = true) : nbE g x = 0 := by unfold nbE; rw [if_pos h, hx]; rfl
theorem nbL_no {g : Gr} {x : Int} (h : nbE g x ≠ 0) : nbL g x = [] := by unfold nbL; rw [if_neg h]
theorem nbL_ok {g : Gr} {x : Int} (h : nbE g x = 0) : nbL g x = neighL g x := by unfold nbL; rw [if_pos h]
end Go.Nq
end

section
namespace Go.Nq
open Go.Fq Go.Iq
set_option linter.unusedVariables false
set_option linter.unusedSimpArgs false

/-- Lists that rise, with the same elements, are the same. -/
theorem rise_ext {α : Type} (R : α → α → Prop) (irr : ∀ a, ¬ R a a) (asym : ∀ a b, R a b → ¬ R b a) : ∀ (l m : List α), l.Pairwise R → m.Pairwise R → (∀ x, x ∈ l ↔ x ∈ m) → l = m
  | [], [], _, _, _ => rfl
  | [], b :: m, _, _, h => by have := (h b).2 List.mem_cons_self; cases this
  | a :: l, [], _, _, h => by have := (h a).1 List.mem_cons_self; cases this
  | a :: l, b :: m, hl, hm, h => by
    rw [List.pairwise_cons] at hl hm
    have hab : a = b := by
      rcases List.mem_cons.1 ((h a).1 List.mem_cons_self) with e | e
      · exact e
      · rcases List.mem_cons.1 ((h b).2 List.mem_cons_self) with f | f
        · exact f.symm
        · exact absurd (hl.1 b f) (asym _ _ (hm.1 a e))
    subst hab
    have ht := rise_ext R irr asym l m hl.2 hm.2 (fun x => by
      constructor
      · intro hx
        rcases List.mem_cons.1 ((h x).1 (List.mem_cons_of_mem _ hx)) with e | e
        · subst e; exact absurd (hl.1 _ hx) (irr _)
        · exact e
      · intro hx
        rcases List.mem_cons.1 ((h x).2 (List.mem_cons_of_mem _ hx)) with e | e
        · subst e; exact absurd (hm.1 _ hx) (irr _)
        · exact e)
    rw [ht]
def nul : Lk := ⟨0, 0, 0, false⟩
/-- The link of two, if it is there. -/
def lkBt (g : Gr) (x n : Int) : Lk := g.links.getD (aheadL g.links ⟨min x n, max x n, 0, false⟩) nul
def pick (g : Gr) (x n : Int) : List Lk := if hasL g.links x n = true ∧ liveL g.nodes (lkBt g x n) = true then [lkBt g x n] else []
theorem lkBt_at {g : Gr} (h : ∀ k (h : k + 1 < g.links.length), before (g.links[k]'(by omega)) g.links[k + 1] = true) {x n : Int} (hh : hasL g.links x n = true) : ∃ hk : aheadL g.links ⟨min x n, max x n, 0, false⟩ < g.links.length, lkBt g x n = g.links[aheadL g.links ⟨min x n, max x n, 0, false⟩]'hk ∧ (lkBt g x n).a = min x n ∧ (lkBt g x n).b = max x n := by
  obtain ⟨hk, h1, h2⟩ := hasL_place h (a := x) (b := n) (t := ⟨min x n, max x n, 0, false⟩) rfl rfl hh
  have e : lkBt g x n = g.links[aheadL g.links ⟨min x n, max x n, 0, false⟩]'hk := by
    unfold lkBt; rw [List.getD_eq_getElem?_getD, List.getElem?_eq_getElem hk]; rfl
  exact ⟨hk, e, by rw [e]; exact h1, by rw [e]; exact h2⟩
theorem before_asym (a b : Lk) (h : before a b = true) : ¬ before b a = true := fun k => by
  have := before_trans h k
  rw [before_irr] at this; cases this
/-- Links that stand in order are told apart by their ends. -/
theorem ends_eq {l : List Lk} (h : ∀ k (h : k + 1 < l.length), before (l[k]'(by omega)) l[k + 1] = true) {y z : Lk} (hy : y ∈ l) (hz : z ∈ l) (ha : y.a = z.a) (hb : y.b = z.b) : y = z := by
  obtain ⟨i, hi, rfl⟩ := List.getElem_of_mem hy
  obtain ⟨j, hj, rfl⟩ := List.getElem_of_mem hz
  have hij : i = j := by
    rcases Nat.lt_trichotomy i j with e | e | e
    · have := links_rise h j i e hj
      rw [before_cases] at this; omega
    · exact e
    · have := links_rise h i j e hi
      rw [before_cases] at this; omega
  subst hij; rfl
theorem pick_mem {g : Gr} {x n : Int} {y : Lk} (h : y ∈ pick g x n) : hasL g.links x n = true ∧ liveL g.nodes y = true ∧ y = lkBt g x n := by
  unfold pick at h
  split at h
  · rename_i hc
    rw [List.mem_singleton] at h
    exact ⟨hc.1, by rw [h]; exact hc.2, h⟩
  · cases h
theorem flat_rise {α β : Type} (R : α → α → Prop) (f : β → List α) : ∀ (l : List β), (∀ b ∈ l, (f b).Pairwise R) → l.Pairwise (fun b c => ∀ y ∈ f b, ∀ z ∈ f c, R y z) → (l.flatMap f).Pairwise R
  | [], _, _ => List.Pairwise.nil
  | b :: l, h1, h2 => by
    rw [List.pairwise_cons] at h2
    rw [List.flatMap_cons, List.pairwise_append]
    refine ⟨h1 b List.mem_cons_self, flat_rise R f l (fun c hc => h1 c (List.mem_cons_of_mem _ hc)) h2.2, fun y hy z hz => ?_⟩
    obtain ⟨c, hc, hzc⟩ := List.mem_flatMap.1 hz
    exact h2.1 c hc y hy z hzc
theorem picks {g : Gr} (hg : checkG g = 0) (x : Int) : g.nodes.flatMap (fun n => pick g x n.id) = neighL g x := by
  obtain ⟨n1, n2, n3, n4⟩ := check_zero.1 hg
  obtain ⟨hm, ho⟩ := links_iff.1 n4
  have hm := (fun y hy => (hm y hy).1)
  have hlk : ∀ {n : Int}, hasL g.links x n = true → lkBt g x n ∈ g.links := fun hh => by
    obtain ⟨hk, e, -, -⟩ := lkBt_at ho hh
    rw [e]; exact List.getElem_mem _
  refine rise_ext (fun y z => before y z = true) (fun a => by rw [before_irr]; decide) before_asym _ _ ?_ ?_ (fun y => ?_)
  · refine flat_rise _ _ _ (fun n hn => ?_) ?_
    · unfold pick
      split
      · exact List.pairwise_singleton _ _
      · exact List.Pairwise.nil
    · rw [List.pairwise_iff_getElem]
      intro i j hi hj hij y hy z hz
      have hlt := nodes_rise n3 j i hij hj
      obtain ⟨h1, -, rfl⟩ := pick_mem hy
      obtain ⟨h2, -, rfl⟩ := pick_mem hz
      obtain ⟨-, -, a1, b1⟩ := lkBt_at ho h1
      obtain ⟨-, -, a2, b2⟩ := lkBt_at ho h2
      have l1 := (hm _ (hlk h1)).1
      have l2 := (hm _ (hlk h2)).1
      rw [before_cases]
      omega
  · unfold neighL
    refine List.Pairwise.filter _ ?_
    rw [List.pairwise_iff_getElem]
    intro i j hi hj hij
    exact links_rise ho j i hij hj
  · constructor
    · intro hy
      obtain ⟨n, hn, hp⟩ := List.mem_flatMap.1 hy
      obtain ⟨h1, h2, rfl⟩ := pick_mem hp
      obtain ⟨-, -, a1, b1⟩ := lkBt_at ho h1
      unfold neighL
      rw [List.mem_filter]
      refine ⟨hlk h1, ?_⟩
      rw [h2, Bool.and_true, Bool.or_eq_true, beq_iff_eq, beq_iff_eq]
      omega
    · intro hy
      unfold neighL at hy
      rw [List.mem_filter, Bool.and_eq_true, Bool.or_eq_true, beq_iff_eq, beq_iff_eq] at hy
      obtain ⟨hyl, hyx, hlv⟩ := hy
      obtain ⟨hlt, hA, hB⟩ := hm y hyl
      have key : ∀ n : Int, min x n = y.a → max x n = y.b → has g.nodes n = true → y ∈ g.nodes.flatMap (fun m => pick g x m.id) := fun n e1 e2 hn => by
        unfold has at hn
        obtain ⟨m, hmem, hid⟩ := List.any_eq_true.1 hn
        have hid : m.id = n := by simpa using hid
        have hh : hasL g.links x n = true := by
          unfold hasL; rw [List.any_eq_true]
          exact ⟨y, hyl, by rw [e1, e2]; simp⟩
        obtain ⟨-, -, a1, b1⟩ := lkBt_at ho hh
        have he : lkBt g x n = y := ends_eq ho (hlk hh) hyl (by omega) (by omega)
        refine List.mem_flatMap.2 ⟨m, hmem, ?_⟩
        show y ∈ pick g x m.id
        rw [hid]
        unfold pick
        rw [if_pos ⟨hh, by rw [he]; exact hlv⟩, he]
        exact List.mem_singleton.2 rfl
      rcases hyx with e | e
      · exact key y.b (by omega) (by omega) hB
      · exact key y.a (by omega) (by omega) hA
/-- What has been found when k routers have been gone over. -/
def found (g : Gr) (x : Int) (k : Nat) : List Lk := (g.nodes.take k).flatMap (fun n => pick g x n.id)
theorem found_go (g : Gr) (x : Int) (k : Nat) (hk : k < g.nodes.length) : found g x (k + 1) = found g x k ++ pick g x g.nodes[k].id := by
  unfold found
  rw [List.take_add_one, List.getElem?_eq_getElem hk, List.flatMap_append]
  congr 1
  show [g.nodes[k]].flatMap _ = _
  rw [List.flatMap_cons, List.flatMap_nil, List.append_nil]
theorem found_end {g : Gr} (hg : checkG g = 0) (x : Int) (k : Nat) (hk : g.nodes.length ≤ k) : found g x k = neighL g x := by
  unfold found
  rw [List.take_of_length_le hk, picks hg]
theorem found_len (g : Gr) (x : Int) (k : Nat) : (found g x k).length ≤ k := by
  unfold found
  have : ∀ l : List Nd, (l.flatMap (fun n => pick g x n.id)).length ≤ l.length := fun l => by
    induction l with
    | nil => exact Nat.le_refl _
    | cons n r ih =>
      rw [List.flatMap_cons, List.length_append, List.length_cons]
      have : (pick g x n.id).length ≤ 1 := by unfold pick; split <;> simp
      omega
  refine Nat.le_trans (this _) ?_
  rw [List.length_take]; omega
end Go.Nq
end
