/- Graphs, plainly: what undoes a change; two changes of unlike things. -/
import Derived.Test.YtgjpgpjdealbeaaNqG
namespace Go.Nq
open Go.Fq Go.Iq
set_option linter.unusedVariables false
set_option linter.unusedSimpArgs false

theorem hasL_onLink (f : Lk → Lk) (hf : ∀ y, (f y).a = y.a ∧ (f y).b = y.b) (c d : Int) (l : List Lk) (a b : Int) : hasL (onLink f c d l) a b = hasL l a b := by
  unfold hasL onLink
  rw [List.any_map]
  congr 1
  funext y
  show ((if y.a = min c d ∧ y.b = max c d then f y else y).a == min a b && (if y.a = min c d ∧ y.b = max c d then f y else y).b == max a b) = _
  split
  · rw [(hf y).1, (hf y).2]
  · rfl
theorem has_onNode (f : Nd → Nd) (hf : ∀ n, (f n).id = n.id) (c : Int) (l : List Nd) (x : Int) : has (onNode f c l) x = has l x := by
  unfold has onNode
  rw [List.any_map]
  congr 1
  funext n
  show ((if n.id = c then f n else n).id == x) = _
  split
  · rw [hf n]
  · rfl
theorem onLink_twice (f g : Lk → Lk) (hg : ∀ y, (g y).a = y.a ∧ (g y).b = y.b) (h : ∀ y, f (g y) = f y) (c d : Int) (l : List Lk) : onLink f c d (onLink g c d l) = onLink f c d l := by
  unfold onLink
  rw [List.map_map]
  apply List.map_congr_left
  intro y _
  show (if (if y.a = min c d ∧ y.b = max c d then g y else y).a = min c d ∧ (if y.a = min c d ∧ y.b = max c d then g y else y).b = max c d then f (if y.a = min c d ∧ y.b = max c d then g y else y) else (if y.a = min c d ∧ y.b = max c d then g y else y)) = _
  by_cases e : y.a = min c d ∧ y.b = max c d
  · rw [if_pos e, if_pos (by rw [(hg y).1, (hg y).2]; exact e), if_pos e, h]
  · rw [if_neg e, if_neg e]
theorem onNode_twice (f g : Nd → Nd) (hg : ∀ y, (g y).id = y.id) (h : ∀ y, f (g y) = f y) (c : Int) (l : List Nd) : onNode f c (onNode g c l) = onNode f c l := by
  unfold onNode
  rw [List.map_map]
  apply List.map_congr_left
  intro y _
  show (if (if y.id = c then g y else y).id = c then f (if y.id = c then g y else y) else (if y.id = c then g y else y)) = _
  by_cases e : y.id = c
  · rw [if_pos e, if_pos (by rw [hg y]; exact e), if_pos e, h]
  · rw [if_neg e, if_neg e]
theorem onLink_swap (f g : Lk → Lk) (hf : ∀ y, (f y).a = y.a ∧ (f y).b = y.b) (hg : ∀ y, (g y).a = y.a ∧ (g y).b = y.b) (a b c d : Int) (hne : ¬ (min a b = min c d ∧ max a b = max c d)) (l : List Lk) : onLink f a b (onLink g c d l) = onLink g c d (onLink f a b l) := by
  unfold onLink
  rw [List.map_map, List.map_map]
  apply List.map_congr_left
  intro y _
  show (if (if y.a = min c d ∧ y.b = max c d then g y else y).a = min a b ∧ (if y.a = min c d ∧ y.b = max c d then g y else y).b = max a b then f (if y.a = min c d ∧ y.b = max c d then g y else y) else (if y.a = min c d ∧ y.b = max c d then g y else y)) = (if (if y.a = min a b ∧ y.b = max a b then f y else y).a = min c d ∧ (if y.a = min a b ∧ y.b = max a b then f y else y).b = max c d then g (if y.a = min a b ∧ y.b = max a b then f y else y) else (if y.a = min a b ∧ y.b = max a b then f y else y))
  by_cases e : y.a = min c d ∧ y.b = max c d
  · have e2 : ¬ (y.a = min a b ∧ y.b = max a b) := fun h => hne ⟨h.1.symm.trans e.1, h.2.symm.trans e.2⟩
    rw [if_pos e, if_neg e2, if_pos e, if_neg (by rw [(hg y).1, (hg y).2]; exact e2)]
  · rw [if_neg e]
    by_cases e2 : y.a = min a b ∧ y.b = max a b
    · rw [if_pos e2, if_neg (by rw [(hf y).1, (hf y).2]; exact e)]
    · rw [if_neg e2, if_neg e]
theorem onNode_swap (f g : Nd → Nd) (hf : ∀ y, (f y).id = y.id) (hg : ∀ y, (g y).id = y.id) (a c : Int) (hne : a ≠ c) (l : List Nd) : onNode f a (onNode g c l) = onNode g c (onNode f a l) := by
  unfold onNode
  rw [List.map_map, List.map_map]
  apply List.map_congr_left
  intro y _
  show (if (if y.id = c then g y else y).id = a then f (if y.id = c then g y else y) else (if y.id = c then g y else y)) = (if (if y.id = a then f y else y).id = c then g (if y.id = a then f y else y) else (if y.id = a then f y else y))
  by_cases e : y.id = c
  · have e2 : ¬ y.id = a := fun h => hne (h.symm.trans e)
    rw [if_pos e, if_neg e2, if_pos e, if_neg (by rw [hg y]; exact e2)]
  · rw [if_neg e]
    by_cases e2 : y.id = a
    · rw [if_pos e2, if_neg (by rw [hf y]; exact e)]
    · rw [if_neg e2, if_neg e]
/-- What a change of a kind does to a link, to a router. -/
def fl (c : Ch) (y : Lk) : Lk := if c.kind = 3 then { y with w := c.w } else if c.kind = 4 then { y with up := false } else { y with up := true }
def fn (c : Ch) (n : Nd) : Nd := if c.kind = 6 then { n with mark := true } else if c.kind = 7 then { n with mark := false } else if c.kind = 8 then { n with up := false } else { n with up := true }
theorem fl_ends (c : Ch) (y : Lk) : (fl c y).a = y.a ∧ (fl c y).b = y.b := by unfold fl; split; exact ⟨rfl, rfl⟩; split <;> exact ⟨rfl, rfl⟩
theorem fn_id (c : Ch) (n : Nd) : (fn c n).id = n.id := by unfold fn; split; rfl; split; rfl; split <;> rfl
/-- Why a change may be done. -/
def may (g : Gr) (c : Ch) : Prop := if c.kind ≤ 5 then hasL g.links c.a c.b = true ∧ (c.kind = 3 → weightF c.w = 0) else has g.nodes c.a = true
theorem bare_kind {c : Ch} (h : bareB c = true) : 1 ≤ c.kind ∧ c.kind ≤ 9 := by
  unfold bareB at h
  simp only [Bool.and_eq_true, decide_eq_true_eq] at h
  exact h.1.1
theorem change_link {g : Gr} {c : Ch} (hb : bareB c = true) (h3 : 3 ≤ c.kind) (h5 : c.kind ≤ 5) : changeG g c = { g with links := onLink (fl c) c.a c.b g.links } ∧ (changeE g c = 0 ↔ may g c) := by
  have hm : may g c = (hasL g.links c.a c.b = true ∧ (c.kind = 3 → weightF c.w = 0)) := by unfold may; rw [if_pos h5]
  rw [hm]
  have hk : c.kind = 3 ∨ c.kind = 4 ∨ c.kind = 5 := by omega
  rcases hk with hk | hk | hk
  · obtain ⟨h1, h2⟩ := changeE_3 (g := g) hb hk
    refine ⟨by rw [h2]; congr 2; funext y; unfold fl; rw [if_pos hk], ?_⟩
    rw [h1]; unfold weighE
    cases hh : hasL g.links c.a c.b with
    | false => simp
    | true => simp [hk]
  · obtain ⟨h1, h2⟩ := changeE_4 (g := g) hb hk
    refine ⟨by rw [h2]; congr 2; funext y; unfold fl; rw [if_neg (by omega), if_pos hk], ?_⟩
    rw [h1]; unfold fndE
    cases hh : hasL g.links c.a c.b with
    | false => simp
    | true => simp [hk]
  · obtain ⟨h1, h2⟩ := changeE_5 (g := g) hb hk
    refine ⟨by rw [h2]; congr 2; funext y; unfold fl; rw [if_neg (by omega), if_neg (by omega)], ?_⟩
    rw [h1]; unfold fndE
    cases hh : hasL g.links c.a c.b with
    | false => simp
    | true => simp [hk]
theorem change_node {g : Gr} {c : Ch} (hb : bareB c = true) (h5 : ¬ c.kind ≤ 5) : changeG g c = { g with nodes := onNode (fn c) c.a g.nodes } ∧ (changeE g c = 0 ↔ may g c) := by
  have hm : may g c = (has g.nodes c.a = true) := by unfold may; rw [if_neg h5]
  rw [hm]
  have h9 := (bare_kind hb).2
  have hk : c.kind = 6 ∨ c.kind = 7 ∨ c.kind = 8 ∨ c.kind = 9 := by omega
  have hE : ∀ {E : Int}, changeE g c = fndE (has g.nodes c.a) → (changeE g c = 0 ↔ has g.nodes c.a = true) := fun h => by
    rw [h]; unfold fndE
    cases hh : has g.nodes c.a with
    | false => simp
    | true => simp
  rcases hk with hk | hk | hk | hk
  · obtain ⟨h1, h2⟩ := changeE_6 (g := g) hb hk
    exact ⟨by rw [h2]; congr 2; funext y; unfold fn; rw [if_pos hk], hE (E := 0) h1⟩
  · obtain ⟨h1, h2⟩ := changeE_7 (g := g) hb hk
    exact ⟨by rw [h2]; congr 2; funext y; unfold fn; rw [if_neg (by omega), if_pos hk], hE (E := 0) h1⟩
  · obtain ⟨h1, h2⟩ := changeE_8 (g := g) hb hk
    exact ⟨by rw [h2]; congr 2; funext y; unfold fn; rw [if_neg (by omega), if_neg (by omega), if_pos hk], hE (E := 0) h1⟩
  · obtain ⟨h1, h2⟩ := changeE_9 (g := g) hb hk
    exact ⟨by rw [h2]; congr 2; funext y; unfold fn; rw [if_neg (by omega), if_neg (by omega), if_neg (by omega)], hE (E := 0) h1⟩
theorem apply_0 {g : Gr} {c : Ch} (h3 : 3 ≤ c.kind) : applyE g c = 0 ↔ checkG g = 0 ∧ bareB c = true ∧ may g c := by
  constructor
  · intro h
    have hc := apply_check h
    have hE : changeE g c = 0 := by rw [← applyE_ok hc]; exact h
    cases hb : bareB c with
    | false => rw [changeE_bad hb] at hE; cases hE
    | true =>
      refine ⟨hc, rfl, ?_⟩
      by_cases h5 : c.kind ≤ 5
      · exact (change_link hb h3 h5).2.1 hE
      · exact (change_node hb h5).2.1 hE
  · rintro ⟨hc, hb, hm⟩
    rw [applyE_ok hc]
    by_cases h5 : c.kind ≤ 5
    · exact (change_link hb h3 h5).2.2 hm
    · exact (change_node hb h5).2.2 hm
theorem apply_G {g : Gr} {c : Ch} (h3 : 3 ≤ c.kind) (h : applyE g c = 0) : applyG g c = if c.kind ≤ 5 then { g with links := onLink (fl c) c.a c.b g.links } else { g with nodes := onNode (fn c) c.a g.nodes } := by
  obtain ⟨hc, hb, hm⟩ := (apply_0 h3).1 h
  rw [applyG_ok h]
  by_cases h5 : c.kind ≤ 5
  · rw [if_pos h5]; exact (change_link hb h3 h5).1
  · rw [if_neg h5]; exact (change_node hb h5).1
/-- A change leaves alone why others may be done. -/
theorem may_after {g : Gr} {c d : Ch} (h3 : 3 ≤ c.kind) (h : applyE g c = 0) : may (applyG g c) d ↔ may g d := by
  rw [apply_G h3 h]
  by_cases h5 : c.kind ≤ 5
  · rw [if_pos h5]
    unfold may
    simp only [hasL_onLink (fl c) (fl_ends c)]
  · rw [if_neg h5]
    unfold may
    simp only [has_onNode (fn c) (fn_id c)]
theorem apply_after {g : Gr} {c d : Ch} (h3 : 3 ≤ c.kind) (hd : 3 ≤ d.kind) (h : applyE g c = 0) : applyE (applyG g c) d = 0 ↔ applyE g d = 0 := by
  rw [apply_0 hd, apply_0 hd, may_after h3 h]
  have := apply_keeps g c
  have h1 := ((apply_0 h3).1 h).1
  simp [this, h1]
/-- The kind that undoes a kind. -/
def opp (k : Int) : Int := if k = 4 then 5 else if k = 5 then 4 else if k = 6 then 7 else if k = 7 then 6 else if k = 8 then 9 else 8
theorem undo {g : Gr} {k a b : Int} {q : Nat} (h : applyE g ⟨k, a, b, q⟩ = 0) (hk : 4 ≤ k) : k ≤ 9 ∧ applyE g ⟨opp k, a, b, q⟩ = 0 ∧ applyE (applyG g ⟨k, a, b, q⟩) ⟨opp k, a, b, q⟩ = 0 ∧ applyG (applyG g ⟨k, a, b, q⟩) ⟨opp k, a, b, q⟩ = applyG g ⟨opp k, a, b, q⟩ := by
  have h3 : 3 ≤ (⟨k, a, b, q⟩ : Ch).kind := by show 3 ≤ k; omega
  obtain ⟨hc, hb, hm⟩ := (apply_0 h3).1 h
  have h9 : k ≤ 9 := (bare_kind hb).2
  have hk2 : k = 4 ∨ k = 5 ∨ k = 6 ∨ k = 7 ∨ k = 8 ∨ k = 9 := by omega
  have ho : (3 : Int) ≤ opp k := by
    rcases hk2 with e | e | e | e | e | e <;> rw [e] <;> decide
  have ho3 : 3 ≤ (⟨opp k, a, b, q⟩ : Ch).kind := ho
  have hE : applyE g ⟨opp k, a, b, q⟩ = 0 := by
    rcases hk2 with rfl | rfl | rfl | rfl | rfl | rfl <;> exact (apply_0 ho3).2 ⟨hc, by revert hb; unfold bareB opp; simp, by revert hm; unfold may opp; simp⟩
  have hE2 := (apply_after (d := ⟨opp k, a, b, q⟩) h3 ho3 h).2 hE
  refine ⟨h9, hE, hE2, ?_⟩
  rw [apply_G ho3 hE2, apply_G ho3 hE, apply_G h3 h]
  rcases hk2 with rfl | rfl | rfl | rfl | rfl | rfl
  · show ({ nodes := g.nodes, links := onLink _ a b (onLink _ a b g.links) } : Gr) = { nodes := g.nodes, links := onLink _ a b g.links }
    rw [onLink_twice _ _ (fl_ends _) (fun y => rfl)]
  · show ({ nodes := g.nodes, links := onLink _ a b (onLink _ a b g.links) } : Gr) = { nodes := g.nodes, links := onLink _ a b g.links }
    rw [onLink_twice _ _ (fl_ends _) (fun y => rfl)]
  · show ({ nodes := onNode _ a (onNode _ a g.nodes), links := g.links } : Gr) = { nodes := onNode _ a g.nodes, links := g.links }
    rw [onNode_twice _ _ (fn_id _) (fun y => rfl)]
  · show ({ nodes := onNode _ a (onNode _ a g.nodes), links := g.links } : Gr) = { nodes := onNode _ a g.nodes, links := g.links }
    rw [onNode_twice _ _ (fn_id _) (fun y => rfl)]
  · show ({ nodes := onNode _ a (onNode _ a g.nodes), links := g.links } : Gr) = { nodes := onNode _ a g.nodes, links := g.links }
    rw [onNode_twice _ _ (fn_id _) (fun y => rfl)]
  · show ({ nodes := onNode _ a (onNode _ a g.nodes), links := g.links } : Gr) = { nodes := onNode _ a g.nodes, links := g.links }
    rw [onNode_twice _ _ (fn_id _) (fun y => rfl)]
/-- Two changes, one behind the other. -/
def twoE (g : Gr) (c d : Ch) : Int := if applyE g c = 0 then applyE (applyG g c) d else applyE g c
def twoG (g : Gr) (c d : Ch) : Gr := if applyE g c = 0 then applyG (applyG g c) d else gr0
def apart (c d : Ch) : Prop := ((c.kind ≤ 5) ↔ ¬ (d.kind ≤ 5)) ∨ (c.kind ≤ 5 ∧ ¬ ((c.a = d.a ∧ c.b = d.b) ∨ (c.a = d.b ∧ c.b = d.a))) ∨ (¬ c.kind ≤ 5 ∧ c.a ≠ d.a)
theorem two_0 {g : Gr} {c d : Ch} (hc : 3 ≤ c.kind) (hd : 3 ≤ d.kind) : twoE g c d = 0 ↔ applyE g c = 0 ∧ applyE g d = 0 := by
  unfold twoE
  by_cases h : applyE g c = 0
  · rw [if_pos h, apply_after hc hd h]; simp [h]
  · rw [if_neg h]; simp [h]
theorem swap {g : Gr} {c d : Ch} (hc : 3 ≤ c.kind) (hd : 3 ≤ d.kind) (ha : apart c d) : (twoE g c d = 0 ↔ twoE g d c = 0) ∧ (twoE g c d = 0 → twoG g c d = twoG g d c) := by
  rw [two_0 hc hd, two_0 hd hc]
  refine ⟨And.comm, fun ⟨h1, h2⟩ => ?_⟩
  have e1 := (apply_after hc hd h1).2 h2
  have e2 := (apply_after hd hc h2).2 h1
  unfold twoG
  rw [if_pos h1, if_pos h2, apply_G hd e1, apply_G hc e2, apply_G hc h1, apply_G hd h2]
  by_cases k1 : c.kind ≤ 5
  · by_cases k2 : d.kind ≤ 5
    · rw [if_pos k1, if_pos k2, if_pos k2, if_pos k1]
      have hne : ¬ (min d.a d.b = min c.a c.b ∧ max d.a d.b = max c.a c.b) := by
        rcases ha with h | h | h
        · exact absurd k2 (h.1 k1)
        · have := h.2; omega
        · exact absurd k1 h.1
      show ({ nodes := g.nodes, links := _ } : Gr) = { nodes := g.nodes, links := _ }
      rw [onLink_swap (fl d) (fl c) (fl_ends d) (fl_ends c) _ _ _ _ hne]
    · rw [if_pos k1, if_neg k2, if_neg k2, if_pos k1]
  · by_cases k2 : d.kind ≤ 5
    · rw [if_neg k1, if_pos k2, if_pos k2, if_neg k1]
    · rw [if_neg k1, if_neg k2, if_neg k2, if_neg k1]
      have hne : d.a ≠ c.a := by
        rcases ha with h | h | h
        · exact absurd (h.2 k2) k1
        · exact absurd h.1 k1
        · exact fun e => h.2 e.symm
      show ({ nodes := _, links := g.links } : Gr) = { nodes := _, links := g.links }
      rw [onNode_swap (fn d) (fn c) (fn_id d) (fn_id c) _ _ hne]
end Go.Nq
