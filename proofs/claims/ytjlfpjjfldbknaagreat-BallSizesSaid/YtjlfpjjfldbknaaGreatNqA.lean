/- Graphs, plainly: which may be, and what changes do (a beginning). Graphs, plainly: the checks, step by step. Graphs, plainly: what a deed does to a row. Graphs, plainly: Play. Graphs, plainly: what the document's Place and link tell. Graphs, plainly: what is up, step by step. -/
import Derived.Test.YtjlfpjjfldbknaaGreatFqA
section
namespace Go.Nq
open Go.Fq Go.Iq
set_option linter.unusedVariables false
set_option linter.unusedSimpArgs false

structure Nd where
  id : Int
  up : Bool
  mark : Bool
deriving DecidableEq
structure Lk where
  a : Int
  b : Int
  w : Nat
  up : Bool
deriving DecidableEq
structure Gr where
  nodes : List Nd
  links : List Lk
structure Ch where
  kind : Int
  a : Int
  b : Int
  w : Nat
/-- How many stand ahead of a number: where it stands, or would stand. -/
def ahead (l : List Nd) (x : Int) : Nat := l.countP (fun n => decide (n.id < x))
def has (l : List Nd) (x : Int) : Bool := l.any (fun n => n.id == x)
/-- Routers by rising numbers that may be. -/
def NodesP (l : List Nd) : Prop := ∀ k (h : k < l.length), idB l[k].id = true ∧ (0 < k → (l[k - 1]'(by omega)).id < l[k].id)
instance (l : List Nd) : Decidable (NodesP l) := inferInstanceAs (Decidable (∀ k (h : k < l.length), idB l[k].id = true ∧ (0 < k → (l[k - 1]'(by omega)).id < l[k].id)))
/-- Links' order. -/
def before (x y : Lk) : Bool := decide (x.a < y.a) || (decide (x.a = y.a) && decide (x.b < y.b))
/-- The links' answer, from a place on: 0, or why they may not be. -/
def linksE (ns : List Nd) : Option Lk → List Lk → Int
  | _, [] => 0
  | p, l :: r => if !(decide (l.a < l.b) && has ns l.a && has ns l.b) then 71
    else if (match p with | some q => !before q l | none => false) then 71
    else if weightF l.w ≠ 0 then weightF l.w else linksE ns (some l) r
/-- May a graph be? -/
def checkG (g : Gr) : Int := if 256 < g.nodes.length ∨ 4096 < g.links.length then 2 else if ¬ NodesP g.nodes then 70 else linksE g.nodes none g.links
theorem nodes_rise {l : List Nd} (h : NodesP l) : ∀ (j i : Nat) (hi : i < j) (hj : j < l.length), (l[i]'(by omega)).id < l[j].id
  | 0, i, hi, hj => absurd hi (by omega)
  | j + 1, i, hi, hj => by
    have h1 := (h (j + 1) hj).2 (by omega)
    simp only [Nat.add_sub_cancel] at h1
    by_cases e : i = j
    · subst e; exact h1
    · have := nodes_rise h j i (by omega) (by omega)
      omega
/-- Those ahead are the first. -/
theorem ahead_spec {l : List Nd} (h : NodesP l) (x : Int) : ahead l x ≤ l.length ∧ (∀ i (hi : i < l.length), i < ahead l x ↔ l[i].id < x) := by
  unfold ahead
  refine ⟨List.countP_le_length, ?_⟩
  have mono : ∀ (j i : Nat) (hi : i < j) (hj : j < l.length), (l[i]'(by omega)).id < l[j].id := nodes_rise h
  clear h
  induction l with
  | nil => intro i hi; simp at hi
  | cons n r ih =>
    have ih' := ih (fun j i hi hj => by have := mono (j + 1) (i + 1) (by omega) (by simpa using hj); simpa using this)
    intro i hi
    by_cases hn : n.id < x
    · rw [List.countP_cons_of_pos (by simpa using hn)]
      match i with
      | 0 => simp [hn]
      | i + 1 =>
        have := ih' i (by simpa using hi)
        simp only [List.getElem_cons_succ]
        omega
    · rw [List.countP_cons_of_neg (by simpa using hn)]
      have h0 : r.countP (fun n => decide (n.id < x)) = 0 := by
        rw [List.countP_eq_zero]
        intro y hy
        obtain ⟨k, hk, rfl⟩ := List.getElem_of_mem hy
        have := mono (k + 1) 0 (by omega) (by simpa using hk)
        simp only [List.getElem_cons_zero, List.getElem_cons_succ] at this
        simp; omega
      rw [h0]
      match i with
      | 0 => simp only [List.getElem_cons_zero]; omega
      | i + 1 =>
        have := mono (i + 1) 0 (by omega) hi
        simp only [List.getElem_cons_zero, List.getElem_cons_succ] at this ⊢
        omega
/-- A number is there just if it stands where it would stand. -/
theorem has_at {l : List Nd} (h : NodesP l) (x : Int) : has l x = true ↔ ∃ hk : ahead l x < l.length, (l[ahead l x]'hk).id = x := by
  obtain ⟨h1, h2⟩ := ahead_spec h x
  unfold has
  rw [List.any_eq_true]
  constructor
  · rintro ⟨n, hn, e⟩
    obtain ⟨k, hk, rfl⟩ := List.getElem_of_mem hn
    have e' : l[k].id = x := by simpa using e
    have hnk : ¬ k < ahead l x := fun hlt => by have := (h2 k hk).1 hlt; omega
    have hle : ahead l x ≤ k := by omega
    have hka : ahead l x < l.length := by omega
    refine ⟨hka, ?_⟩
    have h3 : ¬ (l[ahead l x]'hka).id < x := fun hlt => by have := (h2 _ hka).2 hlt; omega
    by_cases e2 : ahead l x = k
    · simp only [e2]; exact e'
    · have := nodes_rise h k (ahead l x) (by omega) hk
      omega
  · rintro ⟨hk, e⟩
    exact ⟨_, List.getElem_mem hk, by simpa using e⟩
/-- How many links stand ahead of one. -/
def aheadL (l : List Lk) (x : Lk) : Nat := l.countP (fun y => before y x)
theorem before_trans {x y z : Lk} (h : before x y = true) (k : before y z = true) : before x z = true := by
  simp only [before, Bool.or_eq_true, Bool.and_eq_true, decide_eq_true_eq] at *
  omega
theorem before_irr (x : Lk) : before x x = false := by simp [before]
/-- What links that may be are like, from a place on. -/
theorem links_spec {ns : List Nd} : ∀ {l : List Lk} {p : Option Lk}, linksE ns p l = 0 ↔ (∀ k (h : k < l.length), (l[k].a < l[k].b ∧ has ns l[k].a = true ∧ has ns l[k].b = true) ∧ weightF l[k].w = 0) ∧ (∀ k (h : k + 1 < l.length), before (l[k]'(by omega)) l[k + 1] = true) ∧ (∀ q, p = some q → ∀ h : 0 < l.length, before q l[0] = true)
  | [], p => by simp [linksE]
  | x :: r, p => by
    unfold linksE
    by_cases h1 : (decide (x.a < x.b) && has ns x.a && has ns x.b) = true
    · rw [h1]
      simp only [Bool.not_true, Bool.false_eq_true, if_false]
      have h1' : x.a < x.b ∧ has ns x.a = true ∧ has ns x.b = true := by
        simp only [Bool.and_eq_true, decide_eq_true_eq] at h1; exact ⟨h1.1.1, h1.1.2, h1.2⟩
      by_cases h2 : (match p with | some q => !before q x | none => false) = true
      · rw [if_pos h2]
        refine ⟨fun h => absurd h (by decide), fun ⟨_, _, h⟩ => ?_⟩
        cases p with
        | none => simp at h2
        | some q =>
          have := h q rfl (by simp)
          simp only [List.getElem_cons_zero] at this
          simp [this] at h2
      · rw [if_neg h2]
        have h2' : ∀ q, p = some q → before q x = true := by
          intro q hq; subst hq; simpa using h2
        by_cases h3 : weightF x.w = 0
        · rw [if_neg (by simpa using h3), links_spec (l := r) (p := some x)]
          constructor
          · rintro ⟨a1, a2, a3⟩
            refine ⟨fun k hk => ?_, fun k hk => ?_, fun q hq _ => h2' q hq⟩
            · match k with
              | 0 => exact ⟨h1', h3⟩
              | k + 1 => simpa using a1 k (by simpa using hk)
            · match k with
              | 0 => simpa using a3 x rfl (by simpa using hk)
              | k + 1 => simpa using a2 k (by simpa using hk)
          · rintro ⟨a1, a2, a3⟩
            refine ⟨fun k hk => a1 (k + 1) (by simpa using hk), fun k hk => a2 (k + 1) (by simpa using hk), fun q hq hr => ?_⟩
            obtain rfl := Option.some.inj hq
            simpa using a2 0 (by simpa using hr)
        · rw [if_pos h3]
          exact ⟨fun h => absurd h h3, fun ⟨a1, _, _⟩ => absurd (a1 0 (by simp)).2 (by simpa using h3)⟩
    · have h1f : (decide (x.a < x.b) && has ns x.a && has ns x.b) = false := by simpa using h1
      rw [h1f]
      simp only [Bool.not_false, if_true]
      refine ⟨fun h => absurd h (by decide), fun ⟨a1, _, _⟩ => ?_⟩
      have := (a1 0 (by simp)).1
      simp only [List.getElem_cons_zero] at this
      exact absurd (by simp [this]) h1
/-- Where what meets a test stands ahead of what does not, the count is the place where that ends. -/
theorem prefix_count {α : Type} (p : α → Bool) : ∀ (l : List α), (∀ (j i : Nat) (hi : i < j) (hj : j < l.length), p l[j] = true → p (l[i]'(by omega)) = true) → ∀ i (hi : i < l.length), i < l.countP p ↔ p l[i] = true
  | [], _, i, hi => by simp at hi
  | n :: r, mono, i, hi => by
    have ih := prefix_count p r (fun j i hi hj h => mono (j + 1) (i + 1) (by omega) (by simpa using hj) h)
    by_cases hn : p n = true
    · rw [List.countP_cons_of_pos hn]
      match i with
      | 0 => simp [hn]
      | i + 1 =>
        have := ih i (by simpa using hi)
        simp only [List.getElem_cons_succ]
        rw [← this]; omega
    · rw [List.countP_cons_of_neg hn]
      have h0 : r.countP p = 0 := by
        rw [List.countP_eq_zero]
        intro y hy h
        obtain ⟨k, hk, rfl⟩ := List.getElem_of_mem hy
        exact hn (mono (k + 1) 0 (by omega) (by simpa using hk) h)
      rw [h0]
      refine ⟨fun h => absurd h (by omega), fun h => ?_⟩
      match i with
      | 0 => exact absurd h hn
      | i + 1 => exact absurd (mono (i + 1) 0 (by omega) hi h) hn
theorem links_rise {l : List Lk} (h : ∀ k (h : k + 1 < l.length), before (l[k]'(by omega)) l[k + 1] = true) : ∀ (j i : Nat) (hi : i < j) (hj : j < l.length), before (l[i]'(by omega)) l[j] = true
  | 0, i, hi, hj => absurd hi (by omega)
  | j + 1, i, hi, hj => by
    have h1 := h j hj
    by_cases e : i = j
    · subst e; exact h1
    · exact before_trans (links_rise h j i (by omega) (by omega)) h1
theorem aheadL_spec {l : List Lk} (h : ∀ k (h : k + 1 < l.length), before (l[k]'(by omega)) l[k + 1] = true) (x : Lk) : aheadL l x ≤ l.length ∧ ∀ i (hi : i < l.length), i < aheadL l x ↔ before l[i] x = true :=
  ⟨List.countP_le_length, prefix_count _ l (fun j i hi hj hb => before_trans (links_rise h j i hi hj) hb)⟩
def hasL (l : List Lk) (a b : Int) : Bool := l.any (fun y => y.a == min a b && y.b == max a b)
theorem check_zero {g : Gr} : checkG g = 0 ↔ g.nodes.length ≤ 256 ∧ g.links.length ≤ 4096 ∧ NodesP g.nodes ∧ linksE g.nodes none g.links = 0 := by
  unfold checkG
  constructor
  · intro h
    split at h
    · exact absurd h (by decide)
    · rename_i h1
      split at h
      · exact absurd h (by decide)
      · rename_i h2
        exact ⟨by omega, by omega, Decidable.not_not.1 h2, h⟩
  · rintro ⟨h1, h2, h3, h4⟩
    rw [if_neg (by omega), if_neg (by simpa using h3), h4]
theorem nodes_iff {l : List Nd} : NodesP l ↔ (∀ n ∈ l, idB n.id = true) ∧ ∀ k (h : k + 1 < l.length), decide ((l[k]'(by omega)).id < l[k + 1].id) = true := by
  constructor
  · intro h
    refine ⟨fun n hn => ?_, fun k hk => ?_⟩
    · obtain ⟨k, hk, rfl⟩ := List.getElem_of_mem hn
      exact (h k hk).1
    · have := (h (k + 1) hk).2 (by omega)
      simp only [Nat.add_sub_cancel] at this
      simpa using this
  · rintro ⟨h1, h2⟩ k hk
    refine ⟨h1 _ (List.getElem_mem hk), fun hk0 => ?_⟩
    have := h2 (k - 1) (by omega)
    simp only [show k - 1 + 1 = k by omega] at this
    simpa using this
theorem links_iff {ns : List Nd} {l : List Lk} : linksE ns none l = 0 ↔ (∀ y ∈ l, (y.a < y.b ∧ has ns y.a = true ∧ has ns y.b = true) ∧ weightF y.w = 0) ∧ ∀ k (h : k + 1 < l.length), before (l[k]'(by omega)) l[k + 1] = true := by
  rw [links_spec]
  constructor
  · rintro ⟨a1, a2, -⟩
    refine ⟨fun y hy => ?_, a2⟩
    obtain ⟨k, hk, rfl⟩ := List.getElem_of_mem hy
    exact a1 k hk
  · rintro ⟨a1, a2⟩
    exact ⟨fun k hk => a1 _ (List.getElem_mem hk), a2, fun q hq => by cases hq⟩
/-- What is up. -/
def upB (ns : List Nd) (x : Int) : Bool := ns.any (fun n => n.id == x && n.up)
def liveL (ns : List Nd) (y : Lk) : Bool := y.up && upB ns y.a && upB ns y.b
def liveG (g : Gr) : Gr := { nodes := g.nodes.filter (·.up), links := g.links.filter (liveL g.nodes) }
def neighL (g : Gr) (x : Int) : List Lk := g.links.filter (fun y => (y.a == x || y.b == x) && liveL g.nodes y)
theorem up_live (ns : List Nd) (x : Int) : upB (ns.filter (·.up)) x = upB ns x ∧ has (ns.filter (·.up)) x = upB ns x := by
  constructor
  · unfold upB
    rw [List.any_filter]
    congr 1; funext n
    cases n.up <;> simp
  · unfold has upB
    rw [List.any_filter]
    congr 1; funext n
    cases n.up <;> simp
theorem pair_rise {α : Type} {R : α → α → Prop} (tr : ∀ {x y z}, R x y → R y z → R x z) : ∀ {l : List α}, (∀ k (h : k + 1 < l.length), R (l[k]'(by omega)) l[k + 1]) ↔ l.Pairwise R
  | [] => by simp
  | x :: r => by
    have ih := pair_rise (R := R) tr (l := r)
    rw [List.pairwise_cons, ← ih]
    constructor
    · intro h
      have hr : ∀ k (hk : k + 1 < r.length), R (r[k]'(by omega)) r[k + 1] := fun k hk => h (k + 1) (by simpa using hk)
      refine ⟨fun y hy => ?_, hr⟩
      obtain ⟨k, hk, rfl⟩ := List.getElem_of_mem hy
      induction k with
      | zero => exact h 0 (by simpa using hk)
      | succ k ih => exact tr (ih (by omega) (List.getElem_mem _)) (hr k hk)
    · rintro ⟨h1, h2⟩ k hk
      match k with
      | 0 => exact h1 _ (List.getElem_mem _)
      | k + 1 => exact h2 k (by simpa using hk)
theorem filter_rise {α : Type} {R : α → α → Prop} (tr : ∀ {x y z}, R x y → R y z → R x z) {l : List α} (p : α → Bool) (h : ∀ k (h : k + 1 < l.length), R (l[k]'(by omega)) l[k + 1]) : ∀ k (h : k + 1 < (l.filter p).length), R ((l.filter p)[k]'(by omega)) (l.filter p)[k + 1] :=
  (pair_rise (R := R) tr (l := l.filter p)).2 (((pair_rise (R := R) tr (l := l)).1 h).filter p)
theorem live_keeps {g : Gr} (h : checkG g = 0) : checkG (liveG g) = 0 ∧ liveG (liveG g) = liveG g := by
  obtain ⟨n1, n2, n3, n4⟩ := check_zero.1 h
  obtain ⟨a1, a2⟩ := nodes_iff.1 n3
  obtain ⟨b1, b2⟩ := links_iff.1 n4
  constructor
  · refine check_zero.2 ⟨?_, ?_, ?_, ?_⟩
    · exact Nat.le_trans (List.length_filter_le _ _) n1
    · exact Nat.le_trans (List.length_filter_le _ _) n2
    · refine nodes_iff.2 ⟨fun n hn => a1 n (List.mem_filter.1 hn).1, ?_⟩
      exact filter_rise (R := fun (x y : Nd) => decide (x.id < y.id) = true) (fun {x y z} q r => by simp at *; omega) _ a2
    · refine links_iff.2 ⟨fun y hy => ?_, ?_⟩
      · obtain ⟨hy1, hy2⟩ := List.mem_filter.1 hy
        obtain ⟨⟨c1, c2, c3⟩, c4⟩ := b1 y hy1
        unfold liveL at hy2
        simp only [Bool.and_eq_true] at hy2
        exact ⟨⟨c1, by show has (g.nodes.filter (·.up)) _ = true; rw [(up_live _ _).2]; exact hy2.1.2, by show has (g.nodes.filter (·.up)) _ = true; rw [(up_live _ _).2]; exact hy2.2⟩, c4⟩
      · exact filter_rise (R := fun (x y : Lk) => before x y = true) (fun {x y z} q r => before_trans q r) _ b2
  · have e : ∀ y, liveL (g.nodes.filter (·.up)) y = liveL g.nodes y := fun y => by unfold liveL; rw [(up_live _ _).1, (up_live _ _).1]
    unfold liveG
    simp only [List.filter_filter, Bool.and_self, e]
end Go.Nq
end

section
namespace Go.Nq
open Go.Fq Go.Iq
set_option linter.unusedVariables false
set_option linter.unusedSimpArgs false

theorem idE_cases (x : Int) : (idE x = 0 ∧ idB x = true) ∨ (idE x = 20 ∧ idB x = false) := by
  unfold idE
  cases h : idB x <;> simp
/-- One router, and the one ahead of it. -/
def NdOk (l : List Nd) (k : Nat) : Prop := ∃ h : k < l.length, idB l[k].id = true ∧ (0 < k → (l[k - 1]'(by omega)).id < l[k].id)
theorem nodesP_iff (l : List Nd) : NodesP l ↔ ∀ k, k < l.length → NdOk l k :=
  ⟨fun h k hk => ⟨hk, h k hk⟩, fun h k hk => (h k hk).2⟩
theorem check_full {g : Gr} (h : 256 < g.nodes.length ∨ 4096 < g.links.length) : checkG g = 2 := by unfold checkG; rw [if_pos h]
theorem check_node {g : Gr} (h1 : ¬ 256 < g.nodes.length) (h2 : ¬ 4096 < g.links.length) {k : Nat} (hk : k < g.nodes.length) (h : ¬ NdOk g.nodes k) : checkG g = 70 := by
  unfold checkG
  rw [if_neg (by omega), if_pos (fun hp => h ((nodesP_iff _).1 hp k hk))]
theorem check_links {g : Gr} (h1 : ¬ 256 < g.nodes.length) (h2 : ¬ 4096 < g.links.length) (h : ∀ k, k < g.nodes.length → NdOk g.nodes k) : checkG g = linksE g.nodes none g.links := by
  unfold checkG
  rw [if_neg (by omega), if_neg (fun hp => hp ((nodesP_iff _).2 h))]
/-- The link ahead of a place. -/
def prv (l : List Lk) : Nat → Option Lk
  | 0 => none
  | k + 1 => l[k]?
theorem links_end {ns : List Nd} {l : List Lk} {k : Nat} (hk : l.length ≤ k) (p : Option Lk) : linksE ns p (l.drop k) = 0 := by rw [List.drop_of_length_le hk]; unfold linksE; rfl
theorem links_ends {ns : List Nd} {l : List Lk} {k : Nat} (hk : k < l.length) (p : Option Lk) (h : (decide (l[k].a < l[k].b) && has ns l[k].a && has ns l[k].b) = false) : linksE ns p (l.drop k) = 71 := by
  rw [List.drop_eq_getElem_cons hk]; unfold linksE; rw [h]; rfl
theorem links_order {ns : List Nd} {l : List Lk} {k : Nat} (hk : k + 1 < l.length) (h : before (l[k]'(by omega)) l[k + 1] = false) : linksE ns (prv l (k + 1)) (l.drop (k + 1)) = 71 := by
  have ep : prv l (k + 1) = some (l[k]'(by omega)) := List.getElem?_eq_getElem (by omega)
  rw [ep, List.drop_eq_getElem_cons hk]; unfold linksE
  simp only [h, Bool.not_false, if_true]
  split <;> rfl
theorem links_go {ns : List Nd} {l : List Lk} {k : Nat} (hk : k < l.length) (h : (decide (l[k].a < l[k].b) && has ns l[k].a && has ns l[k].b) = true) (ho : ∀ m (e : k = m + 1), before (l[m]'(by omega)) l[k] = true) : linksE ns (prv l k) (l.drop k) = if weightF l[k].w ≠ 0 then weightF l[k].w else linksE ns (prv l (k + 1)) (l.drop (k + 1)) := by
  have e : prv l (k + 1) = some l[k] := List.getElem?_eq_getElem hk
  rw [e]
  rw [List.drop_eq_getElem_cons hk]
  conv => lhs; unfold linksE
  rw [h]
  simp only [Bool.not_true, Bool.false_eq_true, if_false]
  cases k with
  | zero => rfl
  | succ m =>
    have hm := ho m rfl
    have ep : prv l (m + 1) = some (l[m]'(by omega)) := List.getElem?_eq_getElem (by omega)
    rw [ep]
    simp only [hm, Bool.not_true, Bool.false_eq_true, if_false]
end Go.Nq
end

section
namespace Go.Nq
open Go.Fq Go.Iq
set_option linter.unusedVariables false
set_option linter.unusedSimpArgs false

theorem hasL_place {l : List Lk} (h : ∀ k (h : k + 1 < l.length), before (l[k]'(by omega)) l[k + 1] = true) {a b : Int} {t : Lk} (ha : t.a = min a b) (hb : t.b = max a b) (hh : hasL l a b = true) : ∃ hk : aheadL l t < l.length, (l[aheadL l t]'hk).a = min a b ∧ (l[aheadL l t]'hk).b = max a b := by
  obtain ⟨h1, h2⟩ := aheadL_spec h t
  unfold hasL at hh
  rw [List.any_eq_true] at hh
  obtain ⟨n, hn, e⟩ := hh
  obtain ⟨k, hk, rfl⟩ := List.getElem_of_mem hn
  have e' : l[k].a = t.a ∧ l[k].b = t.b := by rw [ha, hb]; simpa using e
  have hbf : ∀ z, before l[k] z = before t z ∧ before z l[k] = before z t := fun z => by unfold before; rw [e'.1, e'.2]; exact ⟨rfl, rfl⟩
  have hnk : ¬ k < aheadL l t := fun hlt => by have := (h2 k hk).1 hlt; rw [(hbf t).1, before_irr] at this; cases this
  have hka : aheadL l t < l.length := by omega
  have hek : aheadL l t = k := by
    by_cases e2 : aheadL l t = k
    · exact e2
    · have h3 := links_rise h k (aheadL l t) (by omega) hk
      rw [(hbf _).2] at h3
      have := (h2 _ hka).2 h3
      omega
  refine ⟨hka, ?_⟩
  rw [← ha, ← hb]
  simp only [hek]
  exact e'
end Go.Nq
end

section
namespace Go.Nq
open Go.Fq Go.Iq
set_option linter.unusedVariables false
set_option linter.unusedSimpArgs false

def gr0 : Gr := ⟨[], []⟩
end Go.Nq
end

section
namespace Go.Nq
open Go.Fq Go.Iq
set_option linter.unusedVariables false
set_option linter.unusedSimpArgs false

def placeV (l : List Nd) (x : Int) : Int := if has l x then (ahead l x : Int) else -1
def linkV (l : List Lk) (a b : Int) : Int := if hasL l a b then (aheadL l ⟨min a b, max a b, 0, false⟩ : Int) else -1
theorem placeV_hit {l : List Nd} (h : NodesP l) {x : Int} {k : Nat} (hk : k < l.length) (e : l[k].id = x) : placeV l x = k := by
  have hh : has l x = true := by unfold has; rw [List.any_eq_true]; exact ⟨_, List.getElem_mem hk, by simpa using e⟩
  obtain ⟨ha, he⟩ := (has_at h x).1 hh
  unfold placeV
  rw [hh, if_pos rfl]
  rcases Nat.lt_trichotomy (ahead l x) k with q | q | q
  · have := nodes_rise h k _ q hk; omega
  · rw [q]
  · have := nodes_rise h _ k q ha; omega
theorem placeV_miss {l : List Nd} {x : Int} (h : ∀ i (hi : i < l.length), l[i].id ≠ x) : placeV l x = -1 := by
  have hh : has l x = false := by
    cases hh : has l x with
    | false => rfl
    | true =>
      unfold has at hh; rw [List.any_eq_true] at hh
      obtain ⟨n, hn, e⟩ := hh
      obtain ⟨k, hk, rfl⟩ := List.getElem_of_mem hn
      exact absurd (by simpa using e) (h k hk)
  unfold placeV; rw [hh]; rfl
theorem placeV_neg (l : List Nd) (x : Int) : (placeV l x < 0 ↔ has l x = false) ∧ (0 ≤ placeV l x ↔ has l x = true) := by
  unfold placeV
  cases has l x <;> simp <;> omega
theorem linkV_hit {l : List Lk} (h : ∀ k (h : k + 1 < l.length), before (l[k]'(by omega)) l[k + 1] = true) {a b : Int} {k : Nat} (hk : k < l.length) (e : l[k].a = min a b ∧ l[k].b = max a b) : linkV l a b = k := by
  have hh : hasL l a b = true := by unfold hasL; rw [List.any_eq_true]; exact ⟨_, List.getElem_mem hk, by simp [e.1, e.2]⟩
  obtain ⟨ha, e1, e2⟩ := hasL_place h (t := ⟨min a b, max a b, 0, false⟩) rfl rfl hh
  have eqv : ∀ z, before (l[k]) z = before (l[aheadL l ⟨min a b, max a b, 0, false⟩]'ha) z := fun z => by unfold before; rw [e.1, e.2, e1, e2]
  unfold linkV
  rw [hh, if_pos rfl]
  rcases Nat.lt_trichotomy (aheadL l ⟨min a b, max a b, 0, false⟩) k with q | q | q
  · have := links_rise h k _ q hk; rw [← eqv, before_irr] at this; cases this
  · rw [q]
  · have := links_rise h _ k q ha; rw [eqv, before_irr] at this; cases this
theorem linkV_miss {l : List Lk} {a b : Int} (h : ∀ i (hi : i < l.length), ¬ (l[i].a = min a b ∧ l[i].b = max a b)) : linkV l a b = -1 := by
  have hh : hasL l a b = false := by
    cases hh : hasL l a b with
    | false => rfl
    | true =>
      unfold hasL at hh; rw [List.any_eq_true] at hh
      obtain ⟨n, hn, e⟩ := hh
      obtain ⟨k, hk, rfl⟩ := List.getElem_of_mem hn
      exact absurd (by simpa using e) (h k hk)
  unfold linkV; rw [hh]; rfl
theorem linkV_neg (l : List Lk) (a b : Int) : (linkV l a b < 0 ↔ hasL l a b = false) ∧ (0 ≤ linkV l a b ↔ hasL l a b = true) := by
  unfold linkV
  cases hasL l a b <;> simp <;> omega
theorem before_cases {x y : Lk} : (before x y = true ↔ x.a < y.a ∨ (x.a = y.a ∧ x.b < y.b)) := by
  unfold before; simp
end Go.Nq
end

section
namespace Go.Nq
open Go.Fq Go.Iq
set_option linter.unusedVariables false
set_option linter.unusedSimpArgs false

theorem upB_at {l : List Nd} (h : NodesP l) (x : Int) : upB l x = if hk : has l x = true then (l[Nq.ahead l x]'((has_at h x).1 hk).1).up else false := by
  by_cases hk : has l x = true
  · rw [dif_pos hk]
    obtain ⟨ha, he⟩ := (has_at h x).1 hk
    cases hu : (l[Nq.ahead l x]'ha).up with
    | true =>
      unfold upB; rw [List.any_eq_true]
      exact ⟨_, List.getElem_mem ha, by simp [he, hu]⟩
    | false =>
      cases hq : upB l x with
      | false => rfl
      | true =>
        unfold upB at hq; rw [List.any_eq_true] at hq
        obtain ⟨n, hn, e⟩ := hq
        obtain ⟨k, hk2, rfl⟩ := List.getElem_of_mem hn
        simp only [Bool.and_eq_true, beq_iff_eq] at e
        have hka : k = Nq.ahead l x := by
          rcases Nat.lt_trichotomy k (Nq.ahead l x) with q | q | q
          · have := nodes_rise h _ k q ha; omega
          · exact q
          · have := nodes_rise h k _ q hk2; omega
        subst hka
        rw [hu] at e; exact absurd e.2 (by decide)
  · rw [dif_neg hk]
    cases hq : upB l x with
    | false => rfl
    | true =>
      unfold upB at hq; rw [List.any_eq_true] at hq
      obtain ⟨n, hn, e⟩ := hq
      exact absurd (by unfold has; rw [List.any_eq_true]; exact ⟨n, hn, by simp only [Bool.and_eq_true] at e; exact e.1⟩) hk
theorem filter_go {α : Type} (p : α → Bool) (l : List α) (k : Nat) (hk : k < l.length) : (l.take (k + 1)).filter p = if p l[k] then (l.take k).filter p ++ [l[k]] else (l.take k).filter p := by
  rw [List.take_add_one, List.getElem?_eq_getElem hk]
  simp only [Option.toList_some, List.filter_append]
  cases h : p l[k] with
  | true => rw [if_pos rfl, List.filter_cons_of_pos h]; rfl
  | false => rw [if_neg (by decide), List.filter_cons_of_neg (by simp [h])]; simp
theorem filter_le {α : Type} (p : α → Bool) (l : List α) (k : Nat) : ((l.take k).filter p).length ≤ k := by
  refine Nat.le_trans (List.length_filter_le _ _) ?_
  rw [List.length_take]; omega
/-- What Live tells. -/
def liveA (g : Gr) : Gr := if checkG g = 0 then liveG g else gr0
theorem liveA_ok {g : Gr} (h : checkG g = 0) : liveA g = liveG g := by unfold liveA; rw [if_pos h]
theorem liveA_no {g : Gr} (h : checkG g ≠ 0) : liveA g = gr0 := by unfold liveA; rw [if_neg h]
end Go.Nq
end
