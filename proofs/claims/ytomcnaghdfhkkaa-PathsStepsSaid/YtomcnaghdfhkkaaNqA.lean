/- Graphs, plainly: which may be, and what changes do (a beginning). -/
import Derived.Test.YtomcnaghdfhkkaaFqA
namespace Go.Nq
open Go.Fq Go.Iq
set_option linter.unusedVariables false
set_option linter.unusedSimpArgs false

structure Nd where
  id : Int
  up : Bool
  mark : Bool
deriving DecidableEq
structure Lk where
  a : Int
  b : Int
  w : Nat
  up : Bool
deriving DecidableEq
structure Gr where
  nodes : List Nd
  links : List Lk
structure Ch where
  kind : Int
  a : Int
  b : Int
  w : Nat
/-- How many stand ahead of a number: where it stands, or would stand. -/
def ahead (l : List Nd) (x : Int) : Nat := l.countP (fun n => decide (n.id < x))
def has (l : List Nd) (x : Int) : Bool := l.any (fun n => n.id == x)
/-- Routers by rising numbers that may be. -/
def NodesP (l : List Nd) : Prop := ∀ k (h : k < l.length), idB l[k].id = true ∧ (0 < k → (l[k - 1]'(by omega)).id < l[k].id)
instance (l : List Nd) : Decidable (NodesP l) := inferInstanceAs (Decidable (∀ k (h : k < l.length), idB l[k].id = true ∧ (0 < k → (l[k - 1]'(by omega)).id < l[k].id)))
/-- Links' order. -/
def before (x y : Lk) : Bool := decide (x.a < y.a) || (decide (x.a = y.a) && decide (x.b < y.b))
/-- The links' answer, from a place on: 0, or why they may not be. -/
def linksE (ns : List Nd) : Option Lk → List Lk → Int
  | _, [] => 0
  | p, l :: r => if !(decide (l.a < l.b) && has ns l.a && has ns l.b) then 71
    else if (match p with | some q => !before q l | none => false) then 71
    else if weightF l.w ≠ 0 then weightF l.w else linksE ns (some l) r
/-- May a graph be? -/
def checkG (g : Gr) : Int := if 256 < g.nodes.length ∨ 4096 < g.links.length then 2 else if ¬ NodesP g.nodes then 70 else linksE g.nodes none g.links
theorem nodes_rise {l : List Nd} (h : NodesP l) : ∀ (j i : Nat) (hi : i < j) (hj : j < l.length), (l[i]'(by omega)).id < l[j].id
  | 0, i, hi, hj => absurd hi (by omega)
  | j + 1, i, hi, hj => by
    have h1 := (h (j + 1) hj).2 (by omega)
    simp only [Nat.add_sub_cancel] at h1
    by_cases e : i = j
    · subst e; exact h1
    · have := nodes_rise h j i (by omega) (by omega)
      omega
/-- Those ahead are the first. -/
theorem ahead_spec {l : List Nd} (h : NodesP l) (x : Int) : ahead l x ≤ l.length ∧ (∀ i (hi : i < l.length), i < ahead l x ↔ l[i].id < x) := by
  unfold ahead
  refine ⟨List.countP_le_length, ?_⟩
  have mono : ∀ (j i : Nat) (hi : i < j) (hj : j < l.length), (l[i]'(by omega)).id < l[j].id := nodes_rise h
  clear h
  induction l with
  | nil => intro i hi; simp at hi
  | cons n r ih =>
    have ih' := ih (fun j i hi hj => by have := mono (j + 1) (i + 1) (by omega) (by simpa using hj); simpa using this)
    intro i hi
    by_cases hn : n.id < x
    · rw [List.countP_cons_of_pos (by simpa using hn)]
      match i with
      | 0 => simp [hn]
      | i + 1 =>
        have := ih' i (by simpa using hi)
        simp only [List.getElem_cons_succ]
        omega
    · rw [List.countP_cons_of_neg (by simpa using hn)]
      have h0 : r.countP (fun n => decide (n.id < x)) = 0 := by
        rw [List.countP_eq_zero]
        intro y hy
        obtain ⟨k, hk, rfl⟩ := List.getElem_of_mem hy
        have := mono (k + 1) 0 (by omega) (by simpa using hk)
        simp only [List.getElem_cons_zero, List.getElem_cons_succ] at this
        simp; omega
      rw [h0]
      match i with
      | 0 => simp only [List.getElem_cons_zero]; omega
      | i + 1 =>
        have := mono (i + 1) 0 (by omega) hi
        simp only [List.getElem_cons_zero, List.getElem_cons_succ] at this ⊢
        omega
/-- A number is there just if it stands where it would stand. -/
theorem has_at {l : List Nd} (h : NodesP l) (x : Int) : has l x = true ↔ ∃ hk : ahead l x < l.length, (l[ahead l x]'hk).id = x := by
  obtain ⟨h1, h2⟩ := ahead_spec h x
  unfold has
  rw [List.any_eq_true]
  constructor
  · rintro ⟨n, hn, e⟩
    obtain ⟨k, hk, rfl⟩ := List.getElem_of_mem hn
    have e' : l[k].id = x := by simpa using e
    have hnk : ¬ k < ahead l x := fun hlt => by have := (h2 k hk).1 hlt; omega
    have hle : ahead l x ≤ k := by omega
    have hka : ahead l x < l.length := by omega
    refine ⟨hka, ?_⟩
    have h3 : ¬ (l[ahead l x]'hka).id < x := fun hlt => by have := (h2 _ hka).2 hlt; omega
    by_cases e2 : ahead l x = k
    · simp only [e2]; exact e'
    · have := nodes_rise h k (ahead l x) (by omega) hk
      omega
  · rintro ⟨hk, e⟩
    exact ⟨_, List.getElem_mem hk, by simpa using e⟩
/-- A router put where it would stand. -/
def putNode (l : List Nd) (n : Nd) : List Nd := l.take (ahead l n.id) ++ n :: l.drop (ahead l n.id)
/-- How many links stand ahead of one. -/
def aheadL (l : List Lk) (x : Lk) : Nat := l.countP (fun y => before y x)
theorem before_trans {x y z : Lk} (h : before x y = true) (k : before y z = true) : before x z = true := by
  simp only [before, Bool.or_eq_true, Bool.and_eq_true, decide_eq_true_eq] at *
  omega
theorem before_irr (x : Lk) : before x x = false := by simp [before]
theorem before_total {x y : Lk} (h : before x y = false) (k : before y x = false) : x.a = y.a ∧ x.b = y.b := by
  simp only [before, Bool.or_eq_false_iff, Bool.and_eq_false_iff, decide_eq_false_iff_not] at *
  omega
/-- What links that may be are like, from a place on. -/
theorem links_spec {ns : List Nd} : ∀ {l : List Lk} {p : Option Lk}, linksE ns p l = 0 ↔ (∀ k (h : k < l.length), (l[k].a < l[k].b ∧ has ns l[k].a = true ∧ has ns l[k].b = true) ∧ weightF l[k].w = 0) ∧ (∀ k (h : k + 1 < l.length), before (l[k]'(by omega)) l[k + 1] = true) ∧ (∀ q, p = some q → ∀ h : 0 < l.length, before q l[0] = true)
  | [], p => by simp [linksE]
  | x :: r, p => by
    unfold linksE
    by_cases h1 : (decide (x.a < x.b) && has ns x.a && has ns x.b) = true
    · rw [h1]
      simp only [Bool.not_true, Bool.false_eq_true, if_false]
      have h1' : x.a < x.b ∧ has ns x.a = true ∧ has ns x.b = true := by
        simp only [Bool.and_eq_true, decide_eq_true_eq] at h1; exact ⟨h1.1.1, h1.1.2, h1.2⟩
      by_cases h2 : (match p with | some q => !before q x | none => false) = true
      · rw [if_pos h2]
        refine ⟨fun h => absurd h (by decide), fun ⟨_, _, h⟩ => ?_⟩
        cases p with
        | none => simp at h2
        | some q =>
          have := h q rfl (by simp)
          simp only [List.getElem_cons_zero] at this
          simp [this] at h2
      · rw [if_neg h2]
        have h2' : ∀ q, p = some q → before q x = true := by
          intro q hq; subst hq; simpa using h2
        by_cases h3 : weightF x.w = 0
        · rw [if_neg (by simpa using h3), links_spec (l := r) (p := some x)]
          constructor
          · rintro ⟨a1, a2, a3⟩
            refine ⟨fun k hk => ?_, fun k hk => ?_, fun q hq _ => h2' q hq⟩
            · match k with
              | 0 => exact ⟨h1', h3⟩
              | k + 1 => simpa using a1 k (by simpa using hk)
            · match k with
              | 0 => simpa using a3 x rfl (by simpa using hk)
              | k + 1 => simpa using a2 k (by simpa using hk)
          · rintro ⟨a1, a2, a3⟩
            refine ⟨fun k hk => a1 (k + 1) (by simpa using hk), fun k hk => a2 (k + 1) (by simpa using hk), fun q hq hr => ?_⟩
            obtain rfl := Option.some.inj hq
            simpa using a2 0 (by simpa using hr)
        · rw [if_pos h3]
          exact ⟨fun h => absurd h h3, fun ⟨a1, _, _⟩ => absurd (a1 0 (by simp)).2 (by simpa using h3)⟩
    · have h1f : (decide (x.a < x.b) && has ns x.a && has ns x.b) = false := by simpa using h1
      rw [h1f]
      simp only [Bool.not_false, if_true]
      refine ⟨fun h => absurd h (by decide), fun ⟨a1, _, _⟩ => ?_⟩
      have := (a1 0 (by simp)).1
      simp only [List.getElem_cons_zero] at this
      exact absurd (by simp [this]) h1
/-- Where what meets a test stands ahead of what does not, the count is the place where that ends. -/
theorem prefix_count {α : Type} (p : α → Bool) : ∀ (l : List α), (∀ (j i : Nat) (hi : i < j) (hj : j < l.length), p l[j] = true → p (l[i]'(by omega)) = true) → ∀ i (hi : i < l.length), i < l.countP p ↔ p l[i] = true
  | [], _, i, hi => by simp at hi
  | n :: r, mono, i, hi => by
    have ih := prefix_count p r (fun j i hi hj h => mono (j + 1) (i + 1) (by omega) (by simpa using hj) h)
    by_cases hn : p n = true
    · rw [List.countP_cons_of_pos hn]
      match i with
      | 0 => simp [hn]
      | i + 1 =>
        have := ih i (by simpa using hi)
        simp only [List.getElem_cons_succ]
        rw [← this]; omega
    · rw [List.countP_cons_of_neg hn]
      have h0 : r.countP p = 0 := by
        rw [List.countP_eq_zero]
        intro y hy h
        obtain ⟨k, hk, rfl⟩ := List.getElem_of_mem hy
        exact hn (mono (k + 1) 0 (by omega) (by simpa using hk) h)
      rw [h0]
      refine ⟨fun h => absurd h (by omega), fun h => ?_⟩
      match i with
      | 0 => exact absurd h hn
      | i + 1 => exact absurd (mono (i + 1) 0 (by omega) hi h) hn
theorem links_rise {l : List Lk} (h : ∀ k (h : k + 1 < l.length), before (l[k]'(by omega)) l[k + 1] = true) : ∀ (j i : Nat) (hi : i < j) (hj : j < l.length), before (l[i]'(by omega)) l[j] = true
  | 0, i, hi, hj => absurd hi (by omega)
  | j + 1, i, hi, hj => by
    have h1 := h j hj
    by_cases e : i = j
    · subst e; exact h1
    · exact before_trans (links_rise h j i (by omega) (by omega)) h1
theorem aheadL_spec {l : List Lk} (h : ∀ k (h : k + 1 < l.length), before (l[k]'(by omega)) l[k + 1] = true) (x : Lk) : aheadL l x ≤ l.length ∧ ∀ i (hi : i < l.length), i < aheadL l x ↔ before l[i] x = true :=
  ⟨List.countP_le_length, prefix_count _ l (fun j i hi hj hb => before_trans (links_rise h j i hi hj) hb)⟩
/-- Put where it would stand, all stays in order. -/
theorem put_rise {α : Type} (lt : α → α → Bool) (l : List α) (x : α) (c : Nat) (hc : c ≤ l.length) (ho : ∀ k (h : k + 1 < l.length), lt (l[k]'(by omega)) l[k + 1] = true)
    (h1 : ∀ i (hi : i < l.length), i < c → lt l[i] x = true) (h2 : ∀ i (hi : i < l.length), c ≤ i → lt x l[i] = true) :
    ∀ k (h : k + 1 < (l.take c ++ x :: l.drop c).length), lt ((l.take c ++ x :: l.drop c)[k]'(by omega)) ((l.take c ++ x :: l.drop c)[k + 1]) = true := by
  intro k h
  have hlen : (l.take c ++ x :: l.drop c).length = l.length + 1 := by simp; omega
  have ht : (l.take c).length = c := by rw [List.length_take]; omega
  have get : ∀ i (hi : i < (l.take c ++ x :: l.drop c).length), (l.take c ++ x :: l.drop c)[i] = if hlt : i < c then l[i]'(by omega) else if he : i = c then x else l[i - 1]'(by omega) := by
    intro i hi
    by_cases hlt : i < c
    · rw [dif_pos hlt, List.getElem_append_left (by omega), List.getElem_take]
    · rw [dif_neg hlt, List.getElem_append_right (by omega)]
      by_cases he : i = c
      · subst he; simp [ht]
      · rw [dif_neg he]
        have : i - (l.take c).length = (i - 1 - c) + 1 := by omega
        simp only [this, List.getElem_cons_succ, List.getElem_drop]
        congr 1; omega
  rw [get k, get (k + 1)]
  by_cases a1 : k + 1 < c
  · rw [dif_pos (show k < c by omega), dif_pos a1]; exact ho k (by omega)
  · by_cases a2 : k + 1 = c
    · rw [dif_pos (show k < c by omega), dif_neg a1, dif_pos a2]; exact h1 k (by omega) (by omega)
    · by_cases a3 : k = c
      · rw [dif_neg (show ¬ k < c by omega), dif_pos a3, dif_neg a1, dif_neg a2]
        simp only [Nat.add_sub_cancel]; exact h2 k (by omega) (by omega)
      · rw [dif_neg (show ¬ k < c by omega), dif_neg a3, dif_neg a1, dif_neg a2]
        have := ho (k - 1) (by omega)
        simp only [Nat.add_sub_cancel, show k - 1 + 1 = k by omega] at this ⊢
        exact this
/-- The link of two, and what a change does: 0 and the new graph, or why not. -/
def lkOf (a b : Int) : Lk := ⟨min a b, max a b, 0, true⟩
def hasL (l : List Lk) (a b : Int) : Bool := l.any (fun y => y.a == min a b && y.b == max a b)
def putLink (l : List Lk) (x : Lk) : List Lk := l.take (aheadL l x) ++ x :: l.drop (aheadL l x)
def onNode (f : Nd → Nd) (x : Int) (l : List Nd) : List Nd := l.map (fun n => if n.id = x then f n else n)
def onLink (f : Lk → Lk) (a b : Int) (l : List Lk) : List Lk := l.map (fun y => if y.a = min a b ∧ y.b = max a b then f y else y)
def bareB (c : Ch) : Bool :=
  decide (1 ≤ c.kind ∧ c.kind ≤ 9) && (decide (2 ≤ c.kind ∧ c.kind ≤ 5) || c.b == 0) && (decide (c.kind = 2 ∨ c.kind = 3) || c.w == 0)
def changeE (g : Gr) (c : Ch) : Int :=
  if !bareB c then 1
  else if c.kind = 1 then (if !idB c.a then 70 else if has g.nodes c.a then 72 else if 256 ≤ g.nodes.length then 2 else 0)
  else if c.kind = 2 then (if !(has g.nodes c.a && has g.nodes c.b) then 70 else if c.a = c.b then 71 else if hasL g.links c.a c.b then 72 else if weightF c.w ≠ 0 then weightF c.w else if 4096 ≤ g.links.length then 2 else 0)
  else if c.kind = 3 then (if !hasL g.links c.a c.b then 4 else weightF c.w)
  else if c.kind ≤ 5 then (if !hasL g.links c.a c.b then 4 else 0)
  else (if !has g.nodes c.a then 4 else 0)
def changeG (g : Gr) (c : Ch) : Gr :=
  if c.kind = 1 then { g with nodes := putNode g.nodes ⟨c.a, true, false⟩ }
  else if c.kind = 2 then { g with links := putLink g.links ⟨min c.a c.b, max c.a c.b, c.w, true⟩ }
  else if c.kind = 3 then { g with links := onLink (fun y => { y with w := c.w }) c.a c.b g.links }
  else if c.kind = 4 then { g with links := onLink (fun y => { y with up := false }) c.a c.b g.links }
  else if c.kind = 5 then { g with links := onLink (fun y => { y with up := true }) c.a c.b g.links }
  else if c.kind = 6 then { g with nodes := onNode (fun n => { n with mark := true }) c.a g.nodes }
  else if c.kind = 7 then { g with nodes := onNode (fun n => { n with mark := false }) c.a g.nodes }
  else if c.kind = 8 then { g with nodes := onNode (fun n => { n with up := false }) c.a g.nodes }
  else { g with nodes := onNode (fun n => { n with up := true }) c.a g.nodes }
/-- Nodes that are the same but for their flags. -/
theorem nodes_flags {l : List Nd} (f : Nd → Nd) (hf : ∀ n, (f n).id = n.id) (h : NodesP l) : NodesP (l.map f) ∧ ∀ x, has (l.map f) x = has l x := by
  refine ⟨fun k hk => ?_, fun x => ?_⟩
  · have := h k (by simpa using hk)
    simp only [List.getElem_map, hf]
    exact this
  · unfold has
    rw [List.any_map]
    congr 1
    funext n
    simp [hf]
theorem linksE_nodes {ns ms : List Nd} (h : ∀ x, has ns x = has ms x) : ∀ (l : List Lk) (p : Option Lk), linksE ns p l = linksE ms p l
  | [], p => rfl
  | x :: r, p => by unfold linksE; rw [h, h, linksE_nodes h r]
theorem check_zero {g : Gr} : checkG g = 0 ↔ g.nodes.length ≤ 256 ∧ g.links.length ≤ 4096 ∧ NodesP g.nodes ∧ linksE g.nodes none g.links = 0 := by
  unfold checkG
  constructor
  · intro h
    split at h
    · exact absurd h (by decide)
    · rename_i h1
      split at h
      · exact absurd h (by decide)
      · rename_i h2
        exact ⟨by omega, by omega, Decidable.not_not.1 h2, h⟩
  · rintro ⟨h1, h2, h3, h4⟩
    rw [if_neg (by omega), if_neg (by simpa using h3), h4]
theorem put_mem {α : Type} {l : List α} {c : Nat} {x y : α} : y ∈ l.take c ++ x :: l.drop c ↔ y = x ∨ y ∈ l := by
  constructor
  · intro h
    rcases List.mem_append.1 h with h | h
    · exact Or.inr (List.mem_of_mem_take h)
    · rcases List.mem_cons.1 h with h | h
      · exact Or.inl h
      · exact Or.inr (List.mem_of_mem_drop h)
  · intro h
    rcases h with rfl | h
    · exact List.mem_append.2 (Or.inr (List.mem_cons_self))
    · rw [← List.take_append_drop c l] at h
      rcases List.mem_append.1 h with h | h
      · exact List.mem_append.2 (Or.inl h)
      · exact List.mem_append.2 (Or.inr (List.mem_cons_of_mem _ h))
theorem nodes_iff {l : List Nd} : NodesP l ↔ (∀ n ∈ l, idB n.id = true) ∧ ∀ k (h : k + 1 < l.length), decide ((l[k]'(by omega)).id < l[k + 1].id) = true := by
  constructor
  · intro h
    refine ⟨fun n hn => ?_, fun k hk => ?_⟩
    · obtain ⟨k, hk, rfl⟩ := List.getElem_of_mem hn
      exact (h k hk).1
    · have := (h (k + 1) hk).2 (by omega)
      simp only [Nat.add_sub_cancel] at this
      simpa using this
  · rintro ⟨h1, h2⟩ k hk
    refine ⟨h1 _ (List.getElem_mem hk), fun hk0 => ?_⟩
    have := h2 (k - 1) (by omega)
    simp only [show k - 1 + 1 = k by omega] at this
    simpa using this
theorem put_nodes {l : List Nd} (h : NodesP l) {n : Nd} (hn : idB n.id = true) (hno : has l n.id = false) : NodesP (putNode l n) := by
  obtain ⟨h1, h2⟩ := nodes_iff.1 h
  obtain ⟨hc, hs⟩ := ahead_spec h n.id
  refine nodes_iff.2 ⟨fun m hm => ?_, ?_⟩
  · rcases put_mem.1 hm with rfl | hm
    · exact hn
    · exact h1 m hm
  · refine put_rise (fun a b => decide (a.id < b.id)) l n (ahead l n.id) hc h2 (fun i hi hlt => by simpa using (hs i hi).1 hlt) (fun i hi hge => ?_)
    have h3 : ¬ l[i].id < n.id := fun hlt => by have := (hs i hi).2 hlt; omega
    have h4 : l[i].id ≠ n.id := fun e => by
      have : has l n.id = true := by unfold has; rw [List.any_eq_true]; exact ⟨l[i], List.getElem_mem hi, by simpa using e⟩
      rw [hno] at this; cases this
    simp; omega
theorem put_has {l : List Nd} {n : Nd} {x : Int} (h : has l x = true) : has (putNode l n) x = true := by
  unfold has at *
  rw [List.any_eq_true] at *
  obtain ⟨m, hm, e⟩ := h
  exact ⟨m, put_mem.2 (Or.inr hm), e⟩
theorem linksE_more {ns ms : List Nd} (h : ∀ x, has ns x = true → has ms x = true) {l : List Lk} {p : Option Lk} (hl : linksE ns p l = 0) : linksE ms p l = 0 := by
  rw [links_spec] at *
  obtain ⟨a1, a2, a3⟩ := hl
  exact ⟨fun k hk => by obtain ⟨⟨b1, b2, b3⟩, b4⟩ := a1 k hk; exact ⟨⟨b1, h _ b2, h _ b3⟩, b4⟩, a2, a3⟩
theorem links_iff {ns : List Nd} {l : List Lk} : linksE ns none l = 0 ↔ (∀ y ∈ l, (y.a < y.b ∧ has ns y.a = true ∧ has ns y.b = true) ∧ weightF y.w = 0) ∧ ∀ k (h : k + 1 < l.length), before (l[k]'(by omega)) l[k + 1] = true := by
  rw [links_spec]
  constructor
  · rintro ⟨a1, a2, -⟩
    refine ⟨fun y hy => ?_, a2⟩
    obtain ⟨k, hk, rfl⟩ := List.getElem_of_mem hy
    exact a1 k hk
  · rintro ⟨a1, a2⟩
    exact ⟨fun k hk => a1 _ (List.getElem_mem hk), a2, fun q hq => by cases hq⟩
theorem put_links {ns : List Nd} {l : List Lk} (h : linksE ns none l = 0) {x : Lk} (hx : (x.a < x.b ∧ has ns x.a = true ∧ has ns x.b = true) ∧ weightF x.w = 0) (hno : ∀ y ∈ l, ¬ (y.a = x.a ∧ y.b = x.b)) : linksE ns none (putLink l x) = 0 := by
  obtain ⟨h1, h2⟩ := links_iff.1 h
  obtain ⟨hc, hs⟩ := aheadL_spec h2 x
  refine links_iff.2 ⟨fun y hy => ?_, ?_⟩
  · rcases put_mem.1 hy with rfl | hy
    · exact hx
    · exact h1 y hy
  · refine put_rise before l x (aheadL l x) hc h2 (fun i hi hlt => (hs i hi).1 hlt) (fun i hi hge => ?_)
    cases hb : before x l[i] with
    | true => rfl
    | false =>
      have h3 : before l[i] x = false := by
        cases h4 : before l[i] x with
        | false => rfl
        | true => have := (hs i hi).2 h4; omega
      exact absurd (before_total h3 hb) (hno _ (List.getElem_mem hi))
theorem on_links {ns : List Nd} {l : List Lk} (f : Lk → Lk) (a b : Int) (hf : ∀ y, (f y).a = y.a ∧ (f y).b = y.b) (hw : ∀ y, weightF y.w = 0 → weightF (f y).w = 0) (h : linksE ns none l = 0) : linksE ns none (onLink f a b l) = 0 := by
  obtain ⟨h1, h2⟩ := links_iff.1 h
  have ends : ∀ y : Lk, (if y.a = min a b ∧ y.b = max a b then f y else y).a = y.a ∧ (if y.a = min a b ∧ y.b = max a b then f y else y).b = y.b := fun y => by split <;> simp [hf]
  refine links_iff.2 ⟨fun y hy => ?_, fun k hk => ?_⟩
  · obtain ⟨z, hz, rfl⟩ := List.mem_map.1 hy
    obtain ⟨g1, g2⟩ := h1 z hz
    rw [(ends z).1, (ends z).2]
    refine ⟨g1, ?_⟩
    split
    · exact hw z g2
    · exact g2
  · have hk' : k + 1 < l.length := by simpa [onLink] using hk
    have := h2 k hk'
    unfold before at *
    simp only [onLink, List.getElem_map, (ends _).1, (ends _).2]
    exact this
theorem on_nodes (f : Nd → Nd) (hf : ∀ n, (f n).id = n.id) (x : Int) {l : List Nd} (h : NodesP l) : NodesP (onNode f x l) ∧ ∀ y, has (onNode f x l) y = has l y :=
  nodes_flags (fun n => if n.id = x then f n else n) (fun n => by split <;> simp [hf]) h
/-- What a change leaves may be. -/
theorem change_keeps {g : Gr} {c : Ch} (h : checkG g = 0) (he : changeE g c = 0) : checkG (changeG g c) = 0 := by
  obtain ⟨n1, n2, n3, n4⟩ := check_zero.1 h
  have len : ∀ (f : Lk → Lk), (onLink f c.a c.b g.links).length = g.links.length := fun f => by simp [onLink]
  have lenN : ∀ (f : Nd → Nd), (onNode f c.a g.nodes).length = g.nodes.length := fun f => by simp [onNode]
  have ON : ∀ (f : Nd → Nd), (∀ n, (f n).id = n.id) → checkG { g with nodes := onNode f c.a g.nodes } = 0 := fun f hf => by
    obtain ⟨m1, m2⟩ := on_nodes f hf c.a n3
    exact check_zero.2 ⟨by simp only [lenN]; exact n1, n2, m1, by rw [linksE_nodes m2]; exact n4⟩
  have OL : ∀ (f : Lk → Lk), (∀ y, (f y).a = y.a ∧ (f y).b = y.b) → (∀ y, weightF y.w = 0 → weightF (f y).w = 0) → checkG { g with links := onLink f c.a c.b g.links } = 0 := fun f hf hw =>
    check_zero.2 ⟨n1, by simp only [len]; exact n2, n3, on_links f c.a c.b hf hw n4⟩
  unfold changeE at he
  split at he
  · exact absurd he (by decide)
  · unfold changeG
    by_cases k1 : c.kind = 1
    · rw [if_pos k1] at he ⊢
      split at he
      · exact absurd he (by decide)
      · rename_i hid
        split at he
        · exact absurd he (by decide)
        · rename_i hh
          split at he
          · exact absurd he (by decide)
          · rename_i hl
            have hid' : idB c.a = true := by simpa using hid
            have hh' : has g.nodes c.a = false := by simpa using hh
            refine check_zero.2 ⟨?_, n2, put_nodes n3 hid' hh', linksE_more (fun x hx => put_has hx) n4⟩
            have := (ahead_spec n3 c.a).1
            simp [putNode]; omega
    · rw [if_neg k1] at he ⊢
      by_cases k2 : c.kind = 2
      · rw [if_pos k2] at he ⊢
        split at he
        · exact absurd he (by decide)
        · rename_i ha
          split at he
          · exact absurd he (by decide)
          · rename_i hab
            split at he
            · exact absurd he (by decide)
            · rename_i hl
              split at he
              · rename_i hw; exact absurd he hw
              · rename_i hw
                split at he
                · exact absurd he (by decide)
                · rename_i hlen
                  have ha' : has g.nodes c.a = true ∧ has g.nodes c.b = true := by simpa using ha
                  have hmm : min c.a c.b < max c.a c.b := by omega
                  have hmin : has g.nodes (min c.a c.b) = true := by rcases Int.le_total c.a c.b with q | q <;> simp [Int.min_def, q, ha'] <;> split <;> simp [ha']
                  have hmax : has g.nodes (max c.a c.b) = true := by rcases Int.le_total c.a c.b with q | q <;> simp [Int.max_def, q, ha'] <;> split <;> simp [ha']
                  refine check_zero.2 ⟨n1, ?_, n3, put_links n4 ⟨⟨hmm, hmin, hmax⟩, by simpa using hw⟩ (fun y hy e => hl ?_)⟩
                  · have := List.countP_le_length (p := fun y => before y ⟨min c.a c.b, max c.a c.b, c.w, true⟩) (l := g.links)
                    simp [putLink, aheadL] at *; omega
                  · unfold hasL; rw [List.any_eq_true]; exact ⟨y, hy, by simp [e.1, e.2]⟩
      · rw [if_neg k2] at he ⊢
        by_cases k3 : c.kind = 3
        · rw [if_pos k3] at he ⊢
          split at he
          · exact absurd he (by decide)
          · exact OL _ (fun y => ⟨rfl, rfl⟩) (fun y _ => he)
        · rw [if_neg k3] at ⊢
          by_cases k4 : c.kind = 4
          · rw [if_pos k4]; exact OL _ (fun y => ⟨rfl, rfl⟩) (fun y h => h)
          · rw [if_neg k4]
            by_cases k5 : c.kind = 5
            · rw [if_pos k5]; exact OL _ (fun y => ⟨rfl, rfl⟩) (fun y h => h)
            · rw [if_neg k5]
              split
              · exact ON _ (fun _ => rfl)
              · split
                · exact ON _ (fun _ => rfl)
                · split
                  · exact ON _ (fun _ => rfl)
                  · exact ON _ (fun _ => rfl)
/-- The document puts a thing ahead of the first that stands behind it. -/
def docPut {α : Type} (gt : α → Bool) (x : α) : List α → List α
  | [] => [x]
  | n :: r => if gt n then x :: n :: r else n :: docPut gt x r
theorem docPut_is {α : Type} (gt lt : α → Bool) (x : α) : ∀ (l : List α), (∀ n ∈ l, gt n = !lt n) → (∀ (j i : Nat) (hi : i < j) (hj : j < l.length), lt l[j] = true → lt (l[i]'(by omega)) = true) → docPut gt x l = l.take (l.countP lt) ++ x :: l.drop (l.countP lt)
  | [], _, _ => rfl
  | n :: r, h, mono => by
    have ih := docPut_is gt lt x r (fun m hm => h m (List.mem_cons_of_mem _ hm)) (fun j i hi hj hl => mono (j + 1) (i + 1) (by omega) (by simpa using hj) hl)
    unfold docPut
    have hn := h n (by simp)
    cases hl : lt n with
    | true =>
      rw [hl] at hn
      rw [hn, List.countP_cons_of_pos hl, ih]
      simp
    | false =>
      rw [hl] at hn
      have h0 : r.countP lt = 0 := by
        rw [List.countP_eq_zero]
        intro y hy hy2
        obtain ⟨k, hk, rfl⟩ := List.getElem_of_mem hy
        have := mono (k + 1) 0 (by omega) (by simpa using hk) hy2
        simp only [List.getElem_cons_zero] at this
        rw [hl] at this; cases this
      rw [hn, List.countP_cons_of_neg (by simp [hl]), h0]
      rfl
theorem docPut_node {l : List Nd} (h : NodesP l) (n : Nd) (hno : has l n.id = false) : docPut (fun m => decide (n.id < m.id)) n l = putNode l n :=
  docPut_is (fun m => decide (n.id < m.id)) (fun m => decide (m.id < n.id)) n l (fun m hm => by
    have : m.id ≠ n.id := fun e => by
      have : has l n.id = true := by unfold has; rw [List.any_eq_true]; exact ⟨m, hm, by simpa using e⟩
      rw [hno] at this; cases this
    by_cases hlt : m.id < n.id
    · simp [hlt]; omega
    · simp [hlt]; omega) (fun j i hi hj hb => by have := nodes_rise h j i hi hj; simp at hb ⊢; omega)
theorem docPut_link {l : List Lk} (h : ∀ k (h : k + 1 < l.length), before (l[k]'(by omega)) l[k + 1] = true) (x : Lk) (hno : ∀ y ∈ l, ¬ (y.a = x.a ∧ y.b = x.b)) : docPut (fun y => before x y) x l = putLink l x :=
  docPut_is (fun y => before x y) (fun y => before y x) x l (fun y hy => by
    cases h1 : before y x with
    | true =>
      cases h2 : before x y with
      | false => rfl
      | true => have := before_trans h1 h2; rw [before_irr] at this; cases this
    | false =>
      cases h2 : before x y with
      | true => rfl
      | false => exact absurd (before_total h1 h2) (hno y hy)) (fun j i hi hj hb => before_trans (links_rise h j i hi hj) hb)
/-- Changes, one behind the other: the graph, how many were done, and the answer. -/
def playG : Gr → Nat → List Ch → Gr × Nat × Int
  | g, _, [] => (g, 0, 0)
  | g, i, c :: r => if changeE g c ≠ 0 then (g, i, changeE g c) else playG (changeG g c) (i + 1) r
theorem play_keeps : ∀ (l : List Ch) (g : Gr) (i : Nat), checkG g = 0 → checkG (playG g i l).1 = 0
  | [], g, i, h => h
  | c :: r, g, i, h => by
    unfold playG
    split
    · exact h
    · rename_i he
      exact play_keeps r _ _ (change_keeps h (by simpa using he))
/-- What is up. -/
def upB (ns : List Nd) (x : Int) : Bool := ns.any (fun n => n.id == x && n.up)
def liveL (ns : List Nd) (y : Lk) : Bool := y.up && upB ns y.a && upB ns y.b
def liveG (g : Gr) : Gr := { nodes := g.nodes.filter (·.up), links := g.links.filter (liveL g.nodes) }
def neighL (g : Gr) (x : Int) : List Lk := g.links.filter (fun y => (y.a == x || y.b == x) && liveL g.nodes y)
theorem up_live (ns : List Nd) (x : Int) : upB (ns.filter (·.up)) x = upB ns x ∧ has (ns.filter (·.up)) x = upB ns x := by
  constructor
  · unfold upB
    rw [List.any_filter]
    congr 1; funext n
    cases n.up <;> simp
  · unfold has upB
    rw [List.any_filter]
    congr 1; funext n
    cases n.up <;> simp
theorem pair_rise {α : Type} {R : α → α → Prop} (tr : ∀ {x y z}, R x y → R y z → R x z) : ∀ {l : List α}, (∀ k (h : k + 1 < l.length), R (l[k]'(by omega)) l[k + 1]) ↔ l.Pairwise R
  | [] => by simp
  | x :: r => by
    have ih := pair_rise (R := R) tr (l := r)
    rw [List.pairwise_cons, ← ih]
    constructor
    · intro h
      have hr : ∀ k (hk : k + 1 < r.length), R (r[k]'(by omega)) r[k + 1] := fun k hk => h (k + 1) (by simpa using hk)
      refine ⟨fun y hy => ?_, hr⟩
      obtain ⟨k, hk, rfl⟩ := List.getElem_of_mem hy
      induction k with
      | zero => exact h 0 (by simpa using hk)
      | succ k ih => exact tr (ih (by omega) (List.getElem_mem _)) (hr k hk)
    · rintro ⟨h1, h2⟩ k hk
      match k with
      | 0 => exact h1 _ (List.getElem_mem _)
      | k + 1 => exact h2 k (by simpa using hk)
theorem filter_rise {α : Type} {R : α → α → Prop} (tr : ∀ {x y z}, R x y → R y z → R x z) {l : List α} (p : α → Bool) (h : ∀ k (h : k + 1 < l.length), R (l[k]'(by omega)) l[k + 1]) : ∀ k (h : k + 1 < (l.filter p).length), R ((l.filter p)[k]'(by omega)) (l.filter p)[k + 1] :=
  (pair_rise (R := R) tr (l := l.filter p)).2 (((pair_rise (R := R) tr (l := l)).1 h).filter p)
theorem live_keeps {g : Gr} (h : checkG g = 0) : checkG (liveG g) = 0 ∧ liveG (liveG g) = liveG g := by
  obtain ⟨n1, n2, n3, n4⟩ := check_zero.1 h
  obtain ⟨a1, a2⟩ := nodes_iff.1 n3
  obtain ⟨b1, b2⟩ := links_iff.1 n4
  constructor
  · refine check_zero.2 ⟨?_, ?_, ?_, ?_⟩
    · exact Nat.le_trans (List.length_filter_le _ _) n1
    · exact Nat.le_trans (List.length_filter_le _ _) n2
    · refine nodes_iff.2 ⟨fun n hn => a1 n (List.mem_filter.1 hn).1, ?_⟩
      exact filter_rise (R := fun (x y : Nd) => decide (x.id < y.id) = true) (fun {x y z} q r => by simp at *; omega) _ a2
    · refine links_iff.2 ⟨fun y hy => ?_, ?_⟩
      · obtain ⟨hy1, hy2⟩ := List.mem_filter.1 hy
        obtain ⟨⟨c1, c2, c3⟩, c4⟩ := b1 y hy1
        unfold liveL at hy2
        simp only [Bool.and_eq_true] at hy2
        exact ⟨⟨c1, by show has (g.nodes.filter (·.up)) _ = true; rw [(up_live _ _).2]; exact hy2.1.2, by show has (g.nodes.filter (·.up)) _ = true; rw [(up_live _ _).2]; exact hy2.2⟩, c4⟩
      · exact filter_rise (R := fun (x y : Lk) => before x y = true) (fun {x y z} q r => before_trans q r) _ b2
  · have e : ∀ y, liveL (g.nodes.filter (·.up)) y = liveL g.nodes y := fun y => by unfold liveL; rw [(up_live _ _).1, (up_live _ _).1]
    unfold liveG
    simp only [List.filter_filter, Bool.and_self, e]
end Go.Nq
