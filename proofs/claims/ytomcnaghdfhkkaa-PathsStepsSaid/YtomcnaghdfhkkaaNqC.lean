/- Graphs, plainly: what a deed does to a row. -/
import Derived.Test.YtomcnaghdfhkkaaNqB
namespace Go.Nq
open Go.Fq Go.Iq
set_option linter.unusedVariables false
set_option linter.unusedSimpArgs false

theorem map_if_set {α : Type} (p : α → Bool) (f : α → α) (l : List α) (i : Nat) (hi : i < l.length) (h : ∀ j (hj : j < l.length), p l[j] = true ↔ j = i) : l.map (fun x => if p x = true then f x else x) = l.set i (f l[i]) := by
  apply List.ext_getElem
  · simp
  · intro j h1 h2
    have hj : j < l.length := by simpa using h1
    rw [List.getElem_map, List.getElem_set]
    by_cases e : i = j
    · subst e; rw [if_pos ((h i hi).2 rfl), if_pos rfl]
    · rw [if_neg (fun hp => e ((h j hj).1 hp).symm), if_neg e]
theorem onNode_set {l : List Nd} (hl : NodesP l) {x : Int} (f : Nd → Nd) (hx : has l x = true) : ∃ h : ahead l x < l.length, onNode f x l = l.set (ahead l x) (f (l[ahead l x]'h)) := by
  obtain ⟨hk, he⟩ := (has_at hl x).1 hx
  refine ⟨hk, ?_⟩
  have := map_if_set (fun n : Nd => decide (n.id = x)) f l (ahead l x) hk (fun j hj => by
    rw [decide_eq_true_eq]
    constructor
    · intro e
      rcases Nat.lt_trichotomy j (ahead l x) with h | h | h
      · have := nodes_rise hl (ahead l x) j h hk; omega
      · exact h
      · have := nodes_rise hl j (ahead l x) h hj; omega
    · rintro rfl; exact he)
  rw [← this]
  unfold onNode
  congr 1
  funext n
  by_cases e : n.id = x <;> simp [e]
theorem hasL_place {l : List Lk} (h : ∀ k (h : k + 1 < l.length), before (l[k]'(by omega)) l[k + 1] = true) {a b : Int} {t : Lk} (ha : t.a = min a b) (hb : t.b = max a b) (hh : hasL l a b = true) : ∃ hk : aheadL l t < l.length, (l[aheadL l t]'hk).a = min a b ∧ (l[aheadL l t]'hk).b = max a b := by
  obtain ⟨h1, h2⟩ := aheadL_spec h t
  unfold hasL at hh
  rw [List.any_eq_true] at hh
  obtain ⟨n, hn, e⟩ := hh
  obtain ⟨k, hk, rfl⟩ := List.getElem_of_mem hn
  have e' : l[k].a = t.a ∧ l[k].b = t.b := by rw [ha, hb]; simpa using e
  have hbf : ∀ z, before l[k] z = before t z ∧ before z l[k] = before z t := fun z => by unfold before; rw [e'.1, e'.2]; exact ⟨rfl, rfl⟩
  have hnk : ¬ k < aheadL l t := fun hlt => by have := (h2 k hk).1 hlt; rw [(hbf t).1, before_irr] at this; cases this
  have hka : aheadL l t < l.length := by omega
  have hek : aheadL l t = k := by
    by_cases e2 : aheadL l t = k
    · exact e2
    · have h3 := links_rise h k (aheadL l t) (by omega) hk
      rw [(hbf _).2] at h3
      have := (h2 _ hka).2 h3
      omega
  refine ⟨hka, ?_⟩
  rw [← ha, ← hb]
  simp only [hek]
  exact e'
theorem onLink_set {l : List Lk} (h : ∀ k (h : k + 1 < l.length), before (l[k]'(by omega)) l[k + 1] = true) {a b : Int} {t : Lk} (ha : t.a = min a b) (hb : t.b = max a b) (f : Lk → Lk) (hh : hasL l a b = true) : ∃ hk : aheadL l t < l.length, onLink f a b l = l.set (aheadL l t) (f (l[aheadL l t]'hk)) := by
  obtain ⟨hk, e1, e2⟩ := hasL_place h ha hb hh
  refine ⟨hk, ?_⟩
  have := map_if_set (fun y : Lk => decide (y.a = min a b ∧ y.b = max a b)) f l (aheadL l t) hk (fun j hj => by
    rw [decide_eq_true_eq]
    constructor
    · rintro ⟨f1, f2⟩
      have eqv : ∀ z, before l[j] z = before (l[aheadL l t]'hk) z := fun z => by unfold before; rw [f1, f2, e1, e2]
      rcases Nat.lt_trichotomy j (aheadL l t) with q | q | q
      · have := links_rise h (aheadL l t) j q hk; rw [eqv, before_irr] at this; cases this
      · exact q
      · have := links_rise h j (aheadL l t) q hj; rw [← eqv, before_irr] at this; cases this
    · rintro rfl; exact ⟨e1, e2⟩)
  rw [← this]
  unfold onLink
  congr 1
  funext y
  by_cases e : y.a = min a b ∧ y.b = max a b <;> simp [e]
/-- The graph behind a change, or as it was. -/
def aft (e : Int) (a b : Gr) : Gr := if e = 0 then a else b
theorem aft_0 (a b : Gr) : aft 0 a b = a := rfl
theorem aft_ne {e : Int} (h : e ≠ 0) (a b : Gr) : aft e a b = b := by unfold aft; rw [if_neg h]
/-- What a deed to a thing that is there answers. -/
def fndE (b : Bool) : Int := if !b then 4 else 0
/-- What addNode, addLink answer. -/
def addE (g : Gr) (a : Int) : Int := if !idB a then 70 else if has g.nodes a then 72 else if 256 ≤ g.nodes.length then 2 else 0
def linkE (g : Gr) (a b : Int) (w : Nat) : Int := if !(has g.nodes a && has g.nodes b) then 70 else if a = b then 71 else if hasL g.links a b then 72 else if weightF w ≠ 0 then weightF w else if 4096 ≤ g.links.length then 2 else 0
def weighE (g : Gr) (a b : Int) (w : Nat) : Int := if !hasL g.links a b then 4 else weightF w
theorem changeE_bad {g : Gr} {c : Ch} (h : bareB c = false) : changeE g c = 1 := by unfold changeE; rw [h]; rfl
theorem changeE_1 {g : Gr} {c : Ch} (h : bareB c = true) (hk : c.kind = 1) : changeE g c = addE g c.a ∧ changeG g c = { g with nodes := putNode g.nodes ⟨c.a, true, false⟩ } := by
  unfold changeE changeG addE; rw [h, hk]; exact ⟨rfl, rfl⟩
theorem changeE_2 {g : Gr} {c : Ch} (h : bareB c = true) (hk : c.kind = 2) : changeE g c = linkE g c.a c.b c.w ∧ changeG g c = { g with links := putLink g.links ⟨min c.a c.b, max c.a c.b, c.w, true⟩ } := by
  unfold changeE changeG linkE; rw [h, hk]; exact ⟨rfl, rfl⟩
theorem changeE_3 {g : Gr} {c : Ch} (h : bareB c = true) (hk : c.kind = 3) : changeE g c = weighE g c.a c.b c.w ∧ changeG g c = { g with links := onLink (fun y => { y with w := c.w }) c.a c.b g.links } := by
  unfold changeE changeG weighE; rw [h, hk]; exact ⟨rfl, rfl⟩
theorem changeE_4 {g : Gr} {c : Ch} (h : bareB c = true) (hk : c.kind = 4) : changeE g c = fndE (hasL g.links c.a c.b) ∧ changeG g c = { g with links := onLink (fun y => { y with up := false }) c.a c.b g.links } := by
  unfold changeE changeG fndE; rw [h, hk]; exact ⟨rfl, rfl⟩
theorem changeE_5 {g : Gr} {c : Ch} (h : bareB c = true) (hk : c.kind = 5) : changeE g c = fndE (hasL g.links c.a c.b) ∧ changeG g c = { g with links := onLink (fun y => { y with up := true }) c.a c.b g.links } := by
  unfold changeE changeG fndE; rw [h, hk]; exact ⟨rfl, rfl⟩
theorem changeE_6 {g : Gr} {c : Ch} (h : bareB c = true) (hk : c.kind = 6) : changeE g c = fndE (has g.nodes c.a) ∧ changeG g c = { g with nodes := onNode (fun n => { n with mark := true }) c.a g.nodes } := by
  unfold changeE changeG fndE; rw [h, hk]; exact ⟨rfl, rfl⟩
theorem changeE_7 {g : Gr} {c : Ch} (h : bareB c = true) (hk : c.kind = 7) : changeE g c = fndE (has g.nodes c.a) ∧ changeG g c = { g with nodes := onNode (fun n => { n with mark := false }) c.a g.nodes } := by
  unfold changeE changeG fndE; rw [h, hk]; exact ⟨rfl, rfl⟩
theorem changeE_8 {g : Gr} {c : Ch} (h : bareB c = true) (hk : c.kind = 8) : changeE g c = fndE (has g.nodes c.a) ∧ changeG g c = { g with nodes := onNode (fun n => { n with up := false }) c.a g.nodes } := by
  unfold changeE changeG fndE; rw [h, hk]; exact ⟨rfl, rfl⟩
theorem changeE_9 {g : Gr} {c : Ch} (h : bareB c = true) (hk : c.kind = 9) : changeE g c = fndE (has g.nodes c.a) ∧ changeG g c = { g with nodes := onNode (fun n => { n with up := true }) c.a g.nodes } := by
  unfold changeE changeG fndE; rw [h, hk]; exact ⟨rfl, rfl⟩
end Go.Nq
