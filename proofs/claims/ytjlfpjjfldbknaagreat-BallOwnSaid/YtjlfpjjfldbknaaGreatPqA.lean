/- Least ways, plainly: what is least, that a fixed point is, and a walk that always takes the nearest. Least ways with the least first hop, plainly: lengths and first hops in one order. Least ways, plainly: ways there and back, and what a first hop is. Distances as floats, plainly: weights, limits and sums of quarters; too far. Roads of a graph, plainly. A heap, plainly: stops by length, then by first hop; what goes up, what goes down. Least distances by going over all links again and again, plainly. Going out from a router, plainly: lists of stops, what is pushed. A graph of three, plainly: its first hops. -/
import Derived.Test.YtjlfpjjfldbknaaGreatFqA
import Derived.Test.YtjlfpjjfldbknaaGreatFqT
import Derived.Test.YtjlfpjjfldbknaaGreatNqA
section
namespace Go.Pq
set_option linter.unusedVariables false
set_option linter.unusedSimpArgs false

/-- A way from s, and its length. -/
inductive Way (R : Nat → Nat → Nat → Prop) (s : Nat) : Nat → Nat → Prop
  | nil : Way R s s 0
  | cons {u v n w : Nat} : Way R s u n → R u v w → Way R s v (n + w)
/-- Least lengths below a limit. -/
def Least (R : Nat → Nat → Nat → Prop) (s lim : Nat) (d : Nat → Option Nat) : Prop :=
  ∀ v, (∀ n, d v = some n → Way R s v n ∧ n < lim ∧ ∀ m, Way R s v m → n ≤ m) ∧ (d v = none → ∀ m, Way R s v m → lim ≤ m)
theorem Least.unique {R : Nat → Nat → Nat → Prop} {s lim : Nat} {d e : Nat → Option Nat} (hd : Least R s lim d) (he : Least R s lim e) : d = e := by
  funext v
  cases h1 : d v with
  | none =>
    cases h2 : e v with
    | none => rfl
    | some n => have a := ((he v).1 n h2); have b := (hd v).2 h1 n a.1; omega
  | some m =>
    cases h2 : e v with
    | none => have a := ((hd v).1 m h1); have b := (he v).2 h2 m a.1; omega
    | some n =>
      have a := (hd v).1 m h1
      have b := (he v).1 n h2
      have := a.2.2 n b.1
      have := b.2.2 m a.1
      congr 1; omega
/-- What is a way's length everywhere, and can't be made less by a road, is least. -/
theorem least_of_fixed {R : Nat → Nat → Nat → Prop} {s lim : Nat} {d : Nat → Option Nat} (h0 : d s = some 0) (hw : ∀ v n, d v = some n → Way R s v n ∧ n < lim) (hf : ∀ u v w n, R u v w → d u = some n → n + w < lim → ∃ m, d v = some m ∧ m ≤ n + w) : Least R s lim d := by
  have key : ∀ v m, Way R s v m → m < lim → ∃ n, d v = some n ∧ n ≤ m := by
    intro v m h
    induction h with
    | nil => intro _; exact ⟨0, h0, Nat.le_refl _⟩
    | cons hu hr ih =>
      intro hl
      obtain ⟨n', hd, hn⟩ := ih (by omega)
      obtain ⟨m', hm, hle⟩ := hf _ _ _ _ hr hd (by omega)
      exact ⟨m', hm, by omega⟩
  refine fun v => ⟨fun n hn => ⟨(hw v n hn).1, (hw v n hn).2, fun m hm => ?_⟩, fun hn m hm => ?_⟩
  · by_cases hl : m < lim
    · obtain ⟨n', h1, h2⟩ := key v m hm hl
      rw [hn] at h1; cases h1; exact h2
    · have := (hw v n hn).2; omega
  · by_cases hl : m < lim
    · obtain ⟨n', h1, h2⟩ := key v m hm hl
      rw [hn] at h1; cases h1
    · omega
/-- What holds while one goes out, the nearest first: d is settled, Q waits. -/
structure Inv (R : Nat → Nat → Nat → Prop) (s lim : Nat) (d : Nat → Option Nat) (Q : List (Nat × Nat)) : Prop where
  settled : ∀ v n, d v = some n → Way R s v n ∧ n < lim
  queued : ∀ v n, (v, n) ∈ Q → Way R s v n ∧ n < lim
  out : ∀ u n v w, d u = some n → R u v w → n + w < lim → (∃ m, d v = some m ∧ m ≤ n + w) ∨ (v, n + w) ∈ Q
  start : d s = some 0 ∨ (s, 0) ∈ Q
  low : ∀ u n v m, d u = some n → (v, m) ∈ Q → n ≤ m
/-- One that is settled is taken: it is let go. -/
theorem Inv.skip {R : Nat → Nat → Nat → Prop} {s lim : Nat} {d : Nat → Option Nat} {Q Q' : List (Nat × Nat)} {v n m : Nat} (h : Inv R s lim d Q) (hq : ∀ x, x ∈ Q ↔ x = (v, n) ∨ x ∈ Q') (hd : d v = some m) : Inv R s lim d Q' := by
  have hm : m ≤ n := h.low v m v n hd ((hq _).2 (Or.inl rfl))
  refine ⟨h.settled, fun a b hab => h.queued a b ((hq _).2 (Or.inr hab)), fun u k a w hu hr hl => ?_, ?_, fun u k a b hu hab => h.low u k a b hu ((hq _).2 (Or.inr hab))⟩
  · rcases h.out u k a w hu hr hl with e | e
    · exact Or.inl e
    · rcases (hq _).1 e with e | e
      · cases e; exact Or.inl ⟨m, hd, hm⟩
      · exact Or.inr e
  · rcases h.start with e | e
    · exact Or.inl e
    · rcases (hq _).1 e with e | e
      · cases e
        left; rw [hd]; congr 1; omega
      · exact Or.inr e
/-- One that is not settled is taken, the nearest: it is settled, and the roads that lead on from it wait, to those that are not. -/
theorem Inv.settle {R : Nat → Nat → Nat → Prop} {s lim : Nat} {d d' : Nat → Option Nat} {Q Q' Q'' : List (Nat × Nat)} {v n : Nat} (h : Inv R s lim d Q) (hq : ∀ x, x ∈ Q ↔ x = (v, n) ∨ x ∈ Q') (hd : d v = none) (hmin : ∀ a b, (a, b) ∈ Q' → n ≤ b) (hd' : ∀ u, d' u = if u = v then some n else d u)
    (hq' : ∀ x, x ∈ Q'' ↔ x ∈ Q' ∨ ∃ a w, R v a w ∧ n + w < lim ∧ d' a = none ∧ x = (a, n + w)) : Inv R s lim d' Q'' := by
  have hv := h.queued v n ((hq _).2 (Or.inl rfl))
  have hlow : ∀ u k, d u = some k → k ≤ n := fun u k hu => h.low u k v n hu ((hq _).2 (Or.inl rfl))
  have hold : ∀ u k, d' u = some k → (u = v ∧ k = n) ∨ d u = some k := fun u k hu => by
    rw [hd'] at hu
    split at hu
    · left; cases hu; exact ⟨by assumption, rfl⟩
    · exact Or.inr hu
  have hext : ∀ u k, d u = some k → d' u = some k := fun u k hu => by
    rw [hd', if_neg (fun e => by subst e; rw [hd] at hu; cases hu)]; exact hu
  have hvn : d' v = some n := by rw [hd', if_pos rfl]
  refine ⟨fun u k hu => ?_, fun a b hab => ?_, fun u k a w hu hr hl => ?_, ?_, fun u k a b hu hab => ?_⟩
  · rcases hold u k hu with ⟨rfl, rfl⟩ | e
    · exact hv
    · exact h.settled u k e
  · rcases (hq' _).1 hab with e | ⟨c, w, hr, hl, -, e⟩
    · exact h.queued a b ((hq _).2 (Or.inr e))
    · cases e; exact ⟨.cons hv.1 hr, hl⟩
  · rcases hold u k hu with ⟨rfl, rfl⟩ | e
    · cases hda : d' a with
      | none => exact Or.inr ((hq' _).2 (Or.inr ⟨a, w, hr, hl, hda, rfl⟩))
      | some m =>
        left
        rcases hold a m hda with ⟨-, rfl⟩ | e
        · exact ⟨m, rfl, by omega⟩
        · exact ⟨m, rfl, by have := hlow a m e; omega⟩
    · rcases h.out u k a w e hr hl with ⟨m, hm, hle⟩ | e2
      · exact Or.inl ⟨m, hext a m hm, hle⟩
      · rcases (hq _).1 e2 with e3 | e3
        · cases e3; exact Or.inl ⟨_, hvn, Nat.le_refl _⟩
        · exact Or.inr ((hq' _).2 (Or.inl e3))
  · rcases h.start with e | e
    · exact Or.inl (hext s 0 e)
    · rcases (hq _).1 e with e2 | e2
      · cases e2; exact Or.inl hvn
      · exact Or.inr ((hq' _).2 (Or.inl e2))
  · have hk : k ≤ n := by
      rcases hold u k hu with ⟨-, rfl⟩ | e
      · exact Nat.le_refl _
      · exact hlow u k e
    rcases (hq' _).1 hab with e | ⟨c, w, hr, hl, -, e⟩
    · have := hmin a b e; omega
    · cases e; omega
/-- Nothing waits any more: all is least. -/
theorem Inv.least {R : Nat → Nat → Nat → Prop} {s lim : Nat} {d : Nat → Option Nat} (h : Inv R s lim d []) : Least R s lim d := by
  refine least_of_fixed ?_ h.settled (fun u v w n hr hu hl => ?_)
  · rcases h.start with e | e
    · exact e
    · cases e
  · rcases h.out u n v w hu hr hl with e | e
    · exact e
    · cases e
end Go.Pq
end

section
namespace Go.Pq
set_option linter.unusedVariables false
set_option linter.unusedSimpArgs false

/-- By length, then by first hop. -/
def Le (n f m g : Nat) : Prop := n < m ∨ (n = m ∧ f ≤ g)
theorem Le.refl (n f : Nat) : Le n f n f := Or.inr ⟨rfl, Nat.le_refl _⟩
theorem Le.trans {a b c d e f : Nat} (h : Le a b c d) (k : Le c d e f) : Le a b e f := by unfold Le at *; omega
theorem Le.anti {a b c d : Nat} (h : Le a b c d) (k : Le c d a b) : a = c ∧ b = d := by unfold Le at *; omega
theorem Le.le {a b c d : Nat} (h : Le a b c d) : a ≤ c := by unfold Le at h; omega
/-- The first hop of a way that goes on to v. -/
def hop (id : Nat → Nat) (v f : Nat) : Nat := if f = 0 then id v else f
/-- A way from s, its length and its first hop (0: it has not left yet). -/
inductive WayF (R : Nat → Nat → Nat → Prop) (id : Nat → Nat) (s : Nat) : Nat → Nat → Nat → Prop
  | nil : WayF R id s s 0 0
  | cons {u v n f w : Nat} : WayF R id s u n f → R u v w → WayF R id s v (n + w) (hop id v f)
/-- Roads are longer than nothing; numbers are not 0. -/
structure Good (R : Nat → Nat → Nat → Prop) (id : Nat → Nat) : Prop where
  pos : ∀ u v w, R u v w → 0 < w
  ids : ∀ u v w, R u v w → 0 < id v
theorem WayF.zero {R : Nat → Nat → Nat → Prop} {id : Nat → Nat} {s v n f : Nat} (hg : Good R id) (h : WayF R id s v n f) : (f = 0 ↔ n = 0) := by
  induction h with
  | nil => simp
  | cons hu hr ih =>
    have h1 := hg.pos _ _ _ hr
    have h2 := hg.ids _ _ _ hr
    constructor
    · intro h
      unfold hop at h
      split at h <;> omega
    · intro h; omega
theorem WayF.way {R : Nat → Nat → Nat → Prop} {id : Nat → Nat} {s v n f : Nat} (h : WayF R id s v n f) : Way R s v n := by
  induction h with
  | nil => exact .nil
  | cons hu hr ih => exact .cons ih hr
theorem way_hop {R : Nat → Nat → Nat → Prop} {id : Nat → Nat} {s v n : Nat} (h : Way R s v n) : ∃ f, WayF R id s v n f := by
  induction h with
  | nil => exact ⟨0, .nil⟩
  | cons hu hr ih =>
    obtain ⟨f, hf⟩ := ih
    exact ⟨_, .cons hf hr⟩
/-- To go on keeps the order. -/
theorem hop_mono {R : Nat → Nat → Nat → Prop} {id : Nat → Nat} {s u v n f m g w : Nat} (hg : Good R id) (h1 : WayF R id s u n f) (h2 : WayF R id s u m g) (h : Le n f m g) : Le (n + w) (hop id v f) (m + w) (hop id v g) := by
  have z1 := h1.zero hg
  have z2 := h2.zero hg
  unfold Le at *
  unfold hop
  rcases h with h | ⟨h, k⟩
  · left; omega
  · right
    refine ⟨by omega, ?_⟩
    split
    · rw [if_pos (by omega)]; exact Nat.le_refl _
    · rw [if_neg (by omega)]; exact k
/-- The least below a limit, with the least first hop. -/
def LeastF (R : Nat → Nat → Nat → Prop) (id : Nat → Nat) (s lim : Nat) (d : Nat → Option (Nat × Nat)) : Prop :=
  ∀ v, (∀ n f, d v = some (n, f) → WayF R id s v n f ∧ n < lim ∧ ∀ m g, WayF R id s v m g → Le n f m g) ∧ (d v = none → ∀ m g, WayF R id s v m g → lim ≤ m)
theorem LeastF.unique {R : Nat → Nat → Nat → Prop} {id : Nat → Nat} {s lim : Nat} {d e : Nat → Option (Nat × Nat)} (hd : LeastF R id s lim d) (he : LeastF R id s lim e) : d = e := by
  funext v
  cases h1 : d v with
  | none =>
    cases h2 : e v with
    | none => rfl
    | some p => obtain ⟨n, f⟩ := p; have a := ((he v).1 n f h2); have b := (hd v).2 h1 n f a.1; omega
  | some p =>
    obtain ⟨m, g⟩ := p
    cases h2 : e v with
    | none => have a := ((hd v).1 m g h1); have b := (he v).2 h2 m g a.1; omega
    | some p =>
      obtain ⟨n, f⟩ := p
      have a := (hd v).1 m g h1
      have b := (he v).1 n f h2
      obtain ⟨e1, e2⟩ := (a.2.2 n f b.1).anti (b.2.2 m g a.1)
      rw [e1, e2]
/-- Without first hops they are the least lengths. -/
theorem LeastF.least {R : Nat → Nat → Nat → Prop} {id : Nat → Nat} {s lim : Nat} {d : Nat → Option (Nat × Nat)} (h : LeastF R id s lim d) : Least R s lim (fun v => (d v).map Prod.fst) := by
  intro v
  refine ⟨fun n hn => ?_, fun hn m hm => ?_⟩
  · cases hd : d v with
    | none => simp [hd] at hn
    | some p =>
      obtain ⟨k, f⟩ := p
      simp [hd] at hn
      subst hn
      obtain ⟨a, b, c⟩ := (h v).1 k f hd
      refine ⟨a.way, b, fun m hm => ?_⟩
      obtain ⟨g, hg⟩ := way_hop (id := id) hm
      exact (c m g hg).le
  · cases hd : d v with
    | none =>
      obtain ⟨g, hg⟩ := way_hop (id := id) hm
      exact (h v).2 hd m g hg
    | some p => simp [hd] at hn
theorem leastF_of_fixed {R : Nat → Nat → Nat → Prop} {id : Nat → Nat} {s lim : Nat} {d : Nat → Option (Nat × Nat)} (hg : Good R id) (h0 : d s = some (0, 0)) (hw : ∀ v n f, d v = some (n, f) → WayF R id s v n f ∧ n < lim)
    (hf : ∀ u v w n f, R u v w → d u = some (n, f) → n + w < lim → ∃ m g, d v = some (m, g) ∧ Le m g (n + w) (hop id v f)) : LeastF R id s lim d := by
  have key : ∀ v m g, WayF R id s v m g → m < lim → ∃ n f, d v = some (n, f) ∧ Le n f m g := by
    intro v m g h
    induction h with
    | nil => intro _; exact ⟨0, 0, h0, Le.refl _ _⟩
    | cons hu hr ih =>
      intro hl
      obtain ⟨n', f', hd, hn⟩ := ih (by omega)
      have hle := hn.le
      obtain ⟨m', g', hm, hle2⟩ := hf _ _ _ _ _ hr hd (by omega)
      exact ⟨m', g', hm, hle2.trans (hop_mono hg (hw _ _ _ hd).1 hu hn)⟩
  refine fun v => ⟨fun n f hn => ⟨(hw v n f hn).1, (hw v n f hn).2, fun m g hm => ?_⟩, fun hn m g hm => ?_⟩
  · by_cases hl : m < lim
    · obtain ⟨n', f', h1, h2⟩ := key v m g hm hl
      rw [hn] at h1; cases h1; exact h2
    · have := (hw v n f hn).2; exact Or.inl (by omega)
  · by_cases hl : m < lim
    · obtain ⟨n', f', h1, h2⟩ := key v m g hm hl
      rw [hn] at h1; cases h1
    · omega
/-- What holds while one goes out, the nearest first, of as near ones that with the least first hop. Q holds (router, length, first hop). -/
structure InvF (R : Nat → Nat → Nat → Prop) (id : Nat → Nat) (s lim : Nat) (d : Nat → Option (Nat × Nat)) (Q : List (Nat × Nat × Nat)) : Prop where
  settled : ∀ v n f, d v = some (n, f) → WayF R id s v n f ∧ n < lim
  queued : ∀ v n f, (v, n, f) ∈ Q → WayF R id s v n f ∧ n < lim
  out : ∀ u n f v w, d u = some (n, f) → R u v w → n + w < lim → (∃ m g, d v = some (m, g) ∧ Le m g (n + w) (hop id v f)) ∨ (v, n + w, hop id v f) ∈ Q
  start : d s = some (0, 0) ∨ (s, 0, 0) ∈ Q
  low : ∀ u n f v m g, d u = some (n, f) → (v, m, g) ∈ Q → Le n f m g
theorem invF_start (R : Nat → Nat → Nat → Prop) (id : Nat → Nat) (s lim : Nat) (hl : 0 < lim) : InvF R id s lim (fun _ => none) [(s, 0, 0)] :=
  ⟨(fun v n f h => by cases h), (fun v n f h => by rw [List.mem_singleton] at h; cases h; exact ⟨.nil, hl⟩), (fun u n f v w h => by cases h), Or.inr (List.mem_singleton.2 rfl), (fun u n f v m g h => by cases h)⟩
theorem InvF.skip {R : Nat → Nat → Nat → Prop} {id : Nat → Nat} {s lim : Nat} {d : Nat → Option (Nat × Nat)} {Q Q' : List (Nat × Nat × Nat)} {v n f m g : Nat} (h : InvF R id s lim d Q) (hq : ∀ x, x ∈ Q ↔ x = (v, n, f) ∨ x ∈ Q') (hd : d v = some (m, g)) : InvF R id s lim d Q' := by
  have hm : Le m g n f := h.low v m g v n f hd ((hq _).2 (Or.inl rfl))
  refine ⟨h.settled, fun a b c hab => h.queued a b c ((hq _).2 (Or.inr hab)), fun u k e a w hu hr hl => ?_, ?_, fun u k e a b c hu hab => h.low u k e a b c hu ((hq _).2 (Or.inr hab))⟩
  · rcases h.out u k e a w hu hr hl with e1 | e1
    · exact Or.inl e1
    · rcases (hq _).1 e1 with e2 | e2
      · cases e2; exact Or.inl ⟨m, g, hd, hm⟩
      · exact Or.inr e2
  · rcases h.start with e | e
    · exact Or.inl e
    · rcases (hq _).1 e with e | e
      · cases e
        left; rw [hd]
        unfold Le at hm
        congr 2 <;> omega
      · exact Or.inr e
theorem InvF.settle {R : Nat → Nat → Nat → Prop} {id : Nat → Nat} {s lim : Nat} {d d' : Nat → Option (Nat × Nat)} {Q Q' Q'' : List (Nat × Nat × Nat)} {v n f : Nat} (hgood : Good R id) (h : InvF R id s lim d Q) (hq : ∀ x, x ∈ Q ↔ x = (v, n, f) ∨ x ∈ Q') (hd : d v = none) (hmin : ∀ a b c, (a, b, c) ∈ Q' → Le n f b c) (hd' : ∀ u, d' u = if u = v then some (n, f) else d u)
    (hq' : ∀ x, x ∈ Q'' ↔ x ∈ Q' ∨ ∃ a w, R v a w ∧ n + w < lim ∧ d' a = none ∧ x = (a, n + w, hop id a f)) : InvF R id s lim d' Q'' := by
  have hv := h.queued v n f ((hq _).2 (Or.inl rfl))
  have hlow : ∀ u k e, d u = some (k, e) → Le k e n f := fun u k e hu => h.low u k e v n f hu ((hq _).2 (Or.inl rfl))
  have hold : ∀ u k e, d' u = some (k, e) → (u = v ∧ k = n ∧ e = f) ∨ d u = some (k, e) := fun u k e hu => by
    rw [hd'] at hu
    split at hu
    · left; cases hu; exact ⟨by assumption, rfl, rfl⟩
    · exact Or.inr hu
  have hext : ∀ u k e, d u = some (k, e) → d' u = some (k, e) := fun u k e hu => by
    rw [hd', if_neg (fun e2 => by subst e2; rw [hd] at hu; cases hu)]; exact hu
  have hvn : d' v = some (n, f) := by rw [hd', if_pos rfl]
  refine ⟨fun u k e hu => ?_, fun a b c hab => ?_, fun u k e a w hu hr hl => ?_, ?_, fun u k e a b c hu hab => ?_⟩
  · rcases hold u k e hu with ⟨rfl, rfl, rfl⟩ | e1
    · exact hv
    · exact h.settled u k e e1
  · rcases (hq' _).1 hab with e1 | ⟨c2, w, hr, hl, -, e1⟩
    · exact h.queued a b c ((hq _).2 (Or.inr e1))
    · cases e1; exact ⟨.cons hv.1 hr, hl⟩
  · rcases hold u k e hu with ⟨rfl, rfl, rfl⟩ | e1
    · cases hda : d' a with
      | none => exact Or.inr ((hq' _).2 (Or.inr ⟨a, w, hr, hl, hda, rfl⟩))
      | some p =>
        obtain ⟨m, g⟩ := p
        left
        have hw := hgood.pos _ _ _ hr
        rcases hold a m g hda with ⟨-, rfl, rfl⟩ | e1
        · exact ⟨m, g, rfl, Or.inl (by omega)⟩
        · have := (hlow a m g e1).le
          exact ⟨m, g, rfl, Or.inl (by omega)⟩
    · rcases h.out u k e a w e1 hr hl with ⟨m, g, hm, hle⟩ | e2
      · exact Or.inl ⟨m, g, hext a m g hm, hle⟩
      · rcases (hq _).1 e2 with e3 | e3
        · cases e3; exact Or.inl ⟨_, _, hvn, Le.refl _ _⟩
        · exact Or.inr ((hq' _).2 (Or.inl e3))
  · rcases h.start with e | e
    · exact Or.inl (hext s 0 0 e)
    · rcases (hq _).1 e with e2 | e2
      · cases e2; exact Or.inl hvn
      · exact Or.inr ((hq' _).2 (Or.inl e2))
  · have hk : Le k e n f := by
      rcases hold u k e hu with ⟨-, rfl, rfl⟩ | e1
      · exact Le.refl _ _
      · exact hlow u k e e1
    rcases (hq' _).1 hab with e1 | ⟨c2, w, hr, hl, -, e1⟩
    · exact hk.trans (hmin a b c e1)
    · cases e1
      have hw := hgood.pos _ _ _ hr
      have := hk.le
      exact Or.inl (by omega)
theorem InvF.least {R : Nat → Nat → Nat → Prop} {id : Nat → Nat} {s lim : Nat} {d : Nat → Option (Nat × Nat)} (hg : Good R id) (h : InvF R id s lim d []) : LeastF R id s lim d := by
  refine leastF_of_fixed hg ?_ h.settled (fun u v w n f hr hu hl => ?_)
  · rcases h.start with e | e
    · exact e
    · cases e
  · rcases h.out u n f v w hu hr hl with e | e
    · exact e
    · cases e
end Go.Pq
end

section
namespace Go.Pq
set_option linter.unusedVariables false
set_option linter.unusedSimpArgs false

theorem Way.join {R : Nat → Nat → Nat → Prop} {s u v n m : Nat} (h : Way R s u n) (k : Way R u v m) : Way R s v (n + m) := by
  induction k with
  | nil => exact h
  | cons hu hr ih => rw [← Nat.add_assoc]; exact .cons ih hr
theorem Way.one {R : Nat → Nat → Nat → Prop} {u v w : Nat} (h : R u v w) : Way R u v w := by
  have := Way.cons (R := R) (s := u) .nil h
  rwa [Nat.zero_add] at this
/-- Roads go both ways, so do ways. -/
theorem Way.back {R : Nat → Nat → Nat → Prop} (hs : ∀ u v w, R u v w → R v u w) {s v n : Nat} (h : Way R s v n) : Way R v s n := by
  induction h with
  | nil => exact .nil
  | cons hu hr ih => rw [Nat.add_comm]; exact (Way.one (hs _ _ _ hr)).join ih
/-- A way with a first hop goes by a road to that router, and on from there. -/
theorem WayF.parts {R : Nat → Nat → Nat → Prop} {id : Nat → Nat} {s v n f : Nat} (hg : Good R id) (h : WayF R id s v n f) (hf : f ≠ 0) : ∃ a w m, R s a w ∧ id a = f ∧ Way R a v m ∧ n = w + m := by
  induction h with
  | nil => exact absurd rfl hf
  | @cons u v n f w hu hr ih =>
    by_cases h0 : f = 0
    · have hn := (hu.zero hg).1 h0
      have hus : u = s := by
        cases hu with
        | nil => rfl
        | cons hu2 hr2 => have := hg.pos _ _ _ hr2; omega
      subst hus
      refine ⟨v, w, 0, hr, ?_, .nil, by omega⟩
      unfold hop; rw [if_pos h0]
    · obtain ⟨a, w2, m, h1, h2, h3, h4⟩ := ih h0
      exact ⟨a, w2, m + w, h1, by unfold hop; rw [if_neg h0]; exact h2, .cons h3 hr, by omega⟩
theorem WayF.make {R : Nat → Nat → Nat → Prop} {id : Nat → Nat} {s a v w m : Nat} (hg : Good R id) (h : R s a w) (k : Way R a v m) : WayF R id s v (w + m) (id a) := by
  have hid := hg.ids _ _ _ h
  induction k with
  | nil =>
    have := WayF.cons (id := id) (.nil : WayF R id s s 0 0) h
    rw [Nat.zero_add] at this
    exact this
  | @cons u v n x hu hr ih =>
    have := WayF.cons ih hr
    unfold hop at this
    rw [if_neg (by omega)] at this
    rw [← Nat.add_assoc]; exact this
/-- The first hop is the least number of a router behind which what is left makes the distance. -/
theorem LeastF.first {R : Nat → Nat → Nat → Prop} {id : Nat → Nat} {s lim : Nat} {d : Nat → Option (Nat × Nat)} (hg : Good R id) (h : LeastF R id s lim d) {v n f : Nat} (hd : d v = some (n, f)) (hn : 0 < n) :
    (∃ a w m, R s a w ∧ id a = f ∧ Way R a v m ∧ n = w + m) ∧ ∀ a w m, R s a w → Way R a v m → n = w + m → f ≤ id a := by
  obtain ⟨h1, h2, h3⟩ := (h v).1 n f hd
  have hf : f ≠ 0 := fun e => by have := (h1.zero hg).1 e; omega
  refine ⟨h1.parts hg hf, fun a w m hr hw e => ?_⟩
  have := h3 _ _ (WayF.make (id := id) hg hr hw)
  unfold Le at this
  omega
/-- What is left behind a first hop is least, too. -/
theorem Least.rest {R : Nat → Nat → Nat → Prop} {s lim : Nat} {d : Nat → Option Nat} (h : Least R s lim d) {a v w m n : Nat} (hd : d v = some n) (hr : R s a w) (hw : Way R a v m) (he : n = w + m) : ∀ k, Way R a v k → m ≤ k := by
  intro k hk
  have := ((h v).1 n hd).2.2 _ ((Way.one hr).join hk)
  omega
/-- Both ways alike. -/
theorem Least.both {R : Nat → Nat → Nat → Prop} (hs : ∀ u v w, R u v w → R v u w) {s t lim : Nat} {d e : Nat → Option Nat} (hd : Least R s lim d) (he : Least R t lim e) : d t = e s := by
  cases h1 : d t with
  | none =>
    cases h2 : e s with
    | none => rfl
    | some n => have a := (he s).1 n h2; have := (hd t).2 h1 n (a.1.back hs); omega
  | some m =>
    have a := (hd t).1 m h1
    cases h2 : e s with
    | none => have := (he s).2 h2 m (a.1.back hs); omega
    | some n =>
      have b := (he s).1 n h2
      have := a.2.2 n (b.1.back hs)
      have := b.2.2 m (a.1.back hs)
      congr 1; omega
end Go.Pq
end

section
namespace Go.Pq
open Go.Fq Ieee
set_option linter.unusedVariables false
set_option linter.unusedSimpArgs false

theorem ONE_q : (4607182418800017408 : Nat) = qw 4 := by decide +kernel
theorem WM_q : (4697254411347427328 : Nat) = qw 4194304 := by decide +kernel
/-- What lies within bounds is a number of quarters between them. -/
theorem within_q (f M : Nat) (hf : f < 2 ^ 64) (hM : M ≤ 4294967296) (h : withinF f (qw M) = 0) : ∃ q, 4 ≤ q ∧ q ≤ M ∧ f = qw q := by
  unfold withinF at h
  cases hn : nanB f
  case true => rw [hn] at h; cases h
  cases hi : infB f
  case true => rw [hn, hi] at h; cases h
  cases hg : ng f
  case true => rw [hn, hi, hg] at h; cases h
  cases h1 : (FloatKind.f64.format.order f 4607182418800017408 == some .lt)
  case true => rw [hn, hi, hg, h1] at h; cases h
  cases h2 : (FloatKind.f64.format.order f (qw M) == some .gt)
  case true => rw [hn, hi, hg, h1, h2] at h; cases h
  cases hq : qF f
  case false => rw [hn, hi, hg, h1, h2, hq] at h; cases h
  have hT : (FloatKind.f64.format.order f 4787326403894837248 == some .gt) = false := by
    rw [cmp_gt, hn, qw_nan (by omega)] at h2
    rw [cmp_gt, hn, T40_qw, qw_nan (by omega)]
    simp only [Bool.not_false, Bool.true_and, decide_eq_false_iff_not, Int.not_lt] at h2 ⊢
    have := (qw_lt (n := 4398046511104) (m := M) (by omega) (by omega))
    omega
  have ht : toldB f = true := by unfold toldB; rw [hn, hg, hT, hq]; rfl
  obtain ⟨q, hq2, rfl⟩ := told_qw f hf ht
  refine ⟨q, ?_, ?_, rfl⟩
  · rw [ONE_q, od_qw (by omega) (by omega), beq_eq_false_iff_ne] at h1
    by_cases hc : 4 ≤ q
    · exact hc
    · exact absurd (by rw [Option.some.injEq, Int.compare_eq_lt]; omega) h1
  · rw [od_qw (by omega) (by omega), beq_eq_false_iff_ne] at h2
    by_cases hc : q ≤ M
    · exact hc
    · exact absurd (by rw [Option.some.injEq, Int.compare_eq_gt]; omega) h2
theorem weight_q (f : Nat) (hf : f < 2 ^ 64) (h : weightF f = 0) : ∃ q, 4 ≤ q ∧ q ≤ 4194304 ∧ f = qw q := by
  unfold weightF at h; rw [WM_q] at h; exact within_q f _ hf (by omega) h
theorem limit_q (f : Nat) (hf : f < 2 ^ 64) (h : limitF f = 0) : ∃ q, 4 ≤ q ∧ q ≤ 4294967296 ∧ f = qw q := by
  unfold limitF at h; rw [LMAX_qw] at h; exact within_q f _ hf (by omega) h
/-- The number of quarters of a float. -/
def qn (f : Nat) : Nat := units (mg f) / UQ
theorem qn_qw {n : Nat} (h : n < 2 ^ 53) : qn (qw n) = n := by unfold qn; rw [units_qw h, Nat.mul_div_cancel _ UQ_pos]
/-- A sum of quarters under a limit. -/
theorem add_lim (w n lim : Nat) (hw : w ≤ 4294967296) (hn : n ≤ 4294967296) (hl : lim ≤ 4294967296) (hz : 0 < w) : addF (qw w) (qw n) (qw lim) = if w + n < lim then qw (w + n) else INF := by
  rw [addF_some _ (add_qw w n (by omega) (by omega)), od_qw (by omega) (by omega)]
  have hz' : FloatKind.f64.format.order (qw (w + n)) 0 = some (compare ((w + n : Nat) : Int) ((0 : Nat) : Int)) := by
    rw [zero_qw]; exact od_qw (by omega) (by omega)
  rw [hz']
  have e : (some (compare ((w + n : Nat) : Int) ((0 : Nat) : Int)) == some Ordering.eq) = false := by
    rw [beq_eq_false_iff_ne]; intro hc
    rw [Option.some.injEq, Int.compare_eq_eq] at hc
    omega
  rw [e]
  by_cases g : w + n < lim
  · rw [if_pos g, if_pos]
    · rw [if_neg (by simp)]
    · rw [beq_iff_eq, Option.some.injEq, Int.compare_eq_lt]; omega
  · rw [if_neg g, if_neg]
    · rfl
    rw [beq_iff_eq, Option.some.injEq, Int.compare_eq_lt]; omega
theorem inf_above (n : Nat) (h : n < 2 ^ 53) : (FloatKind.f64.format.order INF (qw n) == some .lt) = false := by
  rw [cmp_lt]
  have := ik_qw_inf n h
  have e : (INF : Nat) = 9218868437227405312 := rfl
  rw [e]
  rw [inf_nan, qw_nan h]
  simp; omega
theorem add_far (w lim : Nat) (hw : w ≤ 4294967296) (hl : lim ≤ 4294967296) : addF (qw w) INF (qw lim) = INF := by
  have e : (INF : Nat) = 9218868437227405312 := rfl
  rw [e, addF_some _ (add_qw_inf w (by omega)), ← e, inf_above lim (by omega)]
  rfl
theorem some_far (w : Nat) (hw : w ≤ 4294967296) : double.add (qw w) INF = some INF := add_qw_inf w (by omega)
/-- A distance, or too far. -/
def dw : Option Nat → Nat
  | some n => qw n
  | none => INF
def ltO : Option Nat → Option Nat → Bool
  | some a, some b => decide (a < b)
  | some _, none => true
  | none, _ => false
def eqO : Option Nat → Option Nat → Bool
  | some a, some b => decide (a = b)
  | none, none => true
  | _, _ => false
def Sm : Option Nat → Prop
  | some n => n ≤ 4294967296
  | none => True
theorem dw_nan {a : Option Nat} (h : Sm a) : nanB (dw a) = false := by
  cases a with
  | none => exact inf_nan
  | some n => exact qw_nan (by unfold Sm at h; omega)
theorem dw_lt {a b : Option Nat} (ha : Sm a) (hb : Sm b) : (FloatKind.f64.format.order (dw a) (dw b) == some .lt) = ltO a b := by
  have e : (INF : Nat) = 9218868437227405312 := rfl
  rw [cmp_lt, dw_nan ha, dw_nan hb]
  cases a with
  | none =>
    cases b with
    | none => simp [ltO]
    | some m =>
      have := ik_qw_inf m (by unfold Sm at hb; omega)
      simp only [dw, ltO, e, Bool.not_false, Bool.true_and, decide_eq_false_iff_not]; omega
  | some n =>
    cases b with
    | none =>
      have := ik_qw_inf n (by unfold Sm at ha; omega)
      simp only [dw, ltO, e, Bool.not_false, Bool.true_and, decide_eq_true_eq]; omega
    | some m =>
      unfold Sm at ha hb
      have := qw_lt (n := n) (m := m) (by omega) (by omega)
      show (!false && !false && decide (ik (qw n) < ik (qw m))) = decide (n < m)
      rw [Bool.not_false, Bool.true_and, Bool.true_and]
      exact decide_eq_decide.2 this
theorem ik_inj_qw {n m : Nat} (hn : n < 2 ^ 53) (hm : m < 2 ^ 53) (h : ik (qw n) = ik (qw m)) : n = m := by
  have h1 := qw_lt hn hm
  have h2 := qw_lt hm hn
  omega
theorem dw_eq {a b : Option Nat} (ha : Sm a) (hb : Sm b) : (FloatKind.f64.format.order (dw a) (dw b) == some .eq) = eqO a b := by
  have e : (INF : Nat) = 9218868437227405312 := rfl
  rw [od_num (dw_nan ha) (dw_nan hb), Bool.eq_iff_iff, beq_iff_eq, Option.some.injEq, Int.compare_eq_eq]
  cases a with
  | none =>
    cases b with
    | none => simp [eqO]
    | some m =>
      have := ik_qw_inf m (by unfold Sm at hb; omega)
      simp only [dw, eqO, e]; constructor
      · intro h; omega
      · intro h; cases h
  | some n =>
    cases b with
    | none =>
      have := ik_qw_inf n (by unfold Sm at ha; omega)
      simp only [dw, eqO, e]; constructor
      · intro h; omega
      · intro h; cases h
    | some m =>
      unfold Sm at ha hb
      simp only [dw, eqO, decide_eq_true_eq]
      exact ⟨ik_inj_qw (by omega) (by omega), fun h => by rw [h]⟩
theorem dw_inf {a : Option Nat} (h : Sm a) : infB (dw a) = a.isNone := by
  cases a with
  | none => show infB 9218868437227405312 = _; decide +kernel
  | some n => exact qw_inf (by unfold Sm at h; omega)
theorem dw_ng {a : Option Nat} (h : Sm a) : ng (dw a) = false := by
  cases a with
  | none => show ng 9218868437227405312 = _; decide +kernel
  | some n => exact (qw_fin (by unfold Sm at h; omega)).2.1
/-- One step on. -/
def addO (w : Nat) (a : Option Nat) (lim : Nat) : Option Nat := match a with
  | some n => if w + n < lim then some (w + n) else none
  | none => none
theorem dw_add (w : Nat) (a : Option Nat) (lim : Nat) (hw : w ≤ 4294967296) (ha : Sm a) (hl : lim ≤ 4294967296) (hz : 0 < w) : addF (qw w) (dw a) (qw lim) = dw (addO w a lim) := by
  cases a with
  | none => exact add_far w lim hw hl
  | some n =>
    show addF (qw w) (qw n) (qw lim) = _
    rw [add_lim w n lim hw (by exact ha) hl hz]
    unfold addO dw
    simp only
    split <;> rfl
theorem dw_some (w : Nat) (a : Option Nat) (hw : w ≤ 4294967296) (ha : Sm a) (hz : 0 < w) : ∃ s, double.add (qw w) (dw a) = some s := by
  cases a with
  | none => exact ⟨_, some_far w hw⟩
  | some n => exact ⟨_, add_qw w n (by unfold Sm at ha; omega) (by omega)⟩
theorem addO_sm (w : Nat) (a : Option Nat) (lim : Nat) (hl : lim ≤ 4294967296) : Sm (addO w a lim) := by
  cases a with
  | none => trivial
  | some n =>
    unfold addO
    simp only
    split
    · show w + n ≤ _; omega
    · trivial
end Go.Pq
end

section
namespace Go.Pq
open Go.Fq Go.Nq Go.Iq
set_option linter.unusedVariables false
set_option linter.unusedSimpArgs false

/-- A road: to which place, how long (in quarters). -/
abbrev Rd := Nat × Nat
def lkRd (ns : List Nd) (y : Lk) (u : Nat) : List Rd := (if Nq.ahead ns y.a = u then [(Nq.ahead ns y.b, qn y.w)] else []) ++ (if Nq.ahead ns y.b = u then [(Nq.ahead ns y.a, qn y.w)] else [])
def rds (ns : List Nd) (ls : List Lk) (u : Nat) : List Rd := ls.flatMap (fun y => lkRd ns y u)
def netL (ns : List Nd) (ls : List Lk) : List (List Rd) := (List.range ns.length).map (rds ns ls)
def addR (rows : List (List Rd)) (u : Nat) (r : Rd) : List (List Rd) := rows.set u (rows.getD u [] ++ [r])
theorem addR_len (rows : List (List Rd)) (u : Nat) (r : Rd) : (addR rows u r).length = rows.length := by simp [addR]
theorem addR_at {rows : List (List Rd)} {u : Nat} (r : Rd) (hu : u < rows.length) (j : Nat) : (addR rows u r).getD j [] = if j = u then rows.getD u [] ++ [r] else rows.getD j [] := by
  unfold addR
  simp only [List.getD_eq_getElem?_getD]
  by_cases e : j = u
  · subst e
    rw [if_pos rfl, List.getElem?_set_self hu]; rfl
  · rw [if_neg e, List.getElem?_set_ne (fun h => e h.symm)]
theorem netL_len (ns : List Nd) (ls : List Lk) : (netL ns ls).length = ns.length := by simp [netL]
theorem netL_at {ns : List Nd} (ls : List Lk) {u : Nat} (hu : u < ns.length) : (netL ns ls).getD u [] = rds ns ls u := by
  unfold netL
  rw [List.getD_eq_getElem?_getD, List.getElem?_map, List.getElem?_range hu]; rfl
theorem rows_ext {a b : List (List Rd)} (hl : a.length = b.length) (h : ∀ j, j < a.length → a.getD j [] = b.getD j []) : a = b := by
  apply List.ext_getElem hl
  intro j h1 h2
  have := h j h1
  simpa [List.getD_eq_getElem?_getD, h1, h2] using this
theorem rds_snoc (ns : List Nd) (ls : List Lk) (y : Lk) (u : Nat) : rds ns (ls ++ [y]) u = rds ns ls u ++ lkRd ns y u := by simp [rds]
/-- A link more: a road more at each end. -/
theorem netL_snoc {ns : List Nd} (ls : List Lk) {y : Lk} (ha : Nq.ahead ns y.a < ns.length) (hb : Nq.ahead ns y.b < ns.length) (hne : Nq.ahead ns y.a ≠ Nq.ahead ns y.b) :
    addR (addR (netL ns ls) (Nq.ahead ns y.a) (Nq.ahead ns y.b, qn y.w)) (Nq.ahead ns y.b) (Nq.ahead ns y.a, qn y.w) = netL ns (ls ++ [y]) := by
  refine rows_ext (by rw [addR_len, addR_len, netL_len, netL_len]) (fun j hj => ?_)
  rw [addR_len, addR_len, netL_len] at hj
  rw [addR_at _ (by rw [addR_len, netL_len]; exact hb), addR_at _ (by rw [netL_len]; exact ha), addR_at _ (by rw [netL_len]; exact ha), netL_at _ ha, netL_at _ hb, netL_at _ hj, netL_at _ hj, rds_snoc]
  unfold lkRd
  by_cases e1 : j = Nq.ahead ns y.b
  · rw [if_pos e1, if_neg (by omega), if_neg (by omega), if_pos e1.symm, e1]; rfl
  · rw [if_neg e1]
    by_cases e2 : j = Nq.ahead ns y.a
    · rw [if_pos e2, if_pos e2.symm, if_neg (fun h => e1 h.symm), e2, List.append_nil]
    · rw [if_neg e2, if_neg (fun h => e2 h.symm), if_neg (fun h => e1 h.symm)]; simp
theorem netL_nil (ns : List Nd) : netL ns [] = List.replicate ns.length [] := by
  refine rows_ext (by simp [netL]) (fun j hj => ?_)
  rw [netL_len] at hj
  rw [netL_at _ hj]
  simp [rds, List.getD_eq_getElem?_getD, hj]
theorem mem_rds {ns : List Nd} {ls : List Lk} {u v w : Nat} : (v, w) ∈ rds ns ls u ↔ ∃ y ∈ ls, qn y.w = w ∧ ((Nq.ahead ns y.a = u ∧ Nq.ahead ns y.b = v) ∨ (Nq.ahead ns y.b = u ∧ Nq.ahead ns y.a = v)) := by
  unfold rds
  rw [List.mem_flatMap]
  constructor
  · rintro ⟨y, hy, h⟩
    refine ⟨y, hy, ?_⟩
    unfold lkRd at h
    rcases List.mem_append.1 h with h | h
    · split at h
      · rw [List.mem_singleton] at h; cases h; exact ⟨rfl, Or.inl ⟨by assumption, rfl⟩⟩
      · cases h
    · split at h
      · rw [List.mem_singleton] at h; cases h; exact ⟨rfl, Or.inr ⟨by assumption, rfl⟩⟩
      · cases h
  · rintro ⟨y, hy, h1, h2⟩
    refine ⟨y, hy, ?_⟩
    unfold lkRd
    rcases h2 with ⟨e1, e2⟩ | ⟨e1, e2⟩
    · exact List.mem_append.2 (Or.inl (by rw [if_pos e1, h1, e2]; exact List.mem_singleton.2 rfl))
    · exact List.mem_append.2 (Or.inr (by rw [if_pos e1, h1, e2]; exact List.mem_singleton.2 rfl))
/-- There is a road from a place to another one, so long. -/
def Road (g : Gr) (u v w : Nat) : Prop := (v, w) ∈ rds g.nodes (liveG g).links u
def idf (ns : List Nd) (v : Nat) : Nat := (ns.getD v ⟨0, false, false⟩).id.toNat
def upAt (ns : List Nd) (v : Nat) : Bool := (ns.getD v ⟨0, false, false⟩).up
theorem idf_is {ns : List Nd} (h : NodesP ns) {v : Nat} (hv : v < ns.length) : ns[v].id = (idf ns v : Int) ∧ 1 ≤ idf ns v ∧ idf ns v ≤ 2147483647 := by
  have := idB_iff.1 (h v hv).1
  unfold idf
  simp only [List.getD_eq_getElem?_getD, hv, List.getElem?_eq_getElem, Option.getD_some]
  omega
theorem upAt_is {ns : List Nd} {v : Nat} (hv : v < ns.length) : upAt ns v = ns[v].up := by
  unfold upAt
  simp only [List.getD_eq_getElem?_getD, hv, List.getElem?_eq_getElem, Option.getD_some]
theorem up_place {ns : List Nd} (h : NodesP ns) {x : Int} (hu : upB ns x = true) : has ns x = true ∧ ∃ hk : Nq.ahead ns x < ns.length, (ns[Nq.ahead ns x]'hk).id = x ∧ (ns[Nq.ahead ns x]'hk).up = true := by
  rw [upB_at h] at hu
  split at hu
  · rename_i hk
    obtain ⟨h1, h2⟩ := (has_at h x).1 hk
    exact ⟨hk, h1, h2, hu⟩
  · cases hu
/-- What a live link's ends are. -/
theorem live_ends {g : Gr} (h : checkG g = 0) {y : Lk} (hy : y ∈ (liveG g).links) : has g.nodes y.a = true ∧ has g.nodes y.b = true ∧ Nq.ahead g.nodes y.a < g.nodes.length ∧ Nq.ahead g.nodes y.b < g.nodes.length ∧ Nq.ahead g.nodes y.a ≠ Nq.ahead g.nodes y.b ∧ upAt g.nodes (Nq.ahead g.nodes y.a) = true ∧ upAt g.nodes (Nq.ahead g.nodes y.b) = true ∧ weightF y.w = 0 ∧ y ∈ g.links := by
  obtain ⟨n1, n2, n3, n4⟩ := check_zero.1 h
  obtain ⟨b1, b2⟩ := links_iff.1 n4
  obtain ⟨hy1, hy2⟩ := List.mem_filter.1 hy
  unfold liveL at hy2
  simp only [Bool.and_eq_true] at hy2
  obtain ⟨a0, a1, a2, a3⟩ := up_place n3 hy2.1.2
  obtain ⟨c0, c1, c2, c3⟩ := up_place n3 hy2.2
  refine ⟨a0, c0, a1, c1, fun e => ?_, by rw [upAt_is a1]; exact a3, by rw [upAt_is c1]; exact c3, (b1 y hy1).2, hy1⟩
  have := (b1 y hy1).1.1
  have e2 : (g.nodes[Nq.ahead g.nodes y.a]'a1).id = (g.nodes[Nq.ahead g.nodes y.b]'c1).id := by simp only [e]
  omega
theorem road_sym {g : Gr} {u v w : Nat} (h : Road g u v w) : Road g v u w := by
  unfold Road at *
  rw [mem_rds] at *
  obtain ⟨y, h1, h2, h3⟩ := h
  exact ⟨y, h1, h2, by rcases h3 with ⟨a, b⟩ | ⟨a, b⟩; exact Or.inr ⟨b, a⟩; exact Or.inl ⟨b, a⟩⟩
theorem road_bd {g : Gr} (h : checkG g = 0) (hw : ∀ y ∈ g.links, y.w < 2 ^ 64) {u v w : Nat} (hr : Road g u v w) : u < g.nodes.length ∧ v < g.nodes.length ∧ 4 ≤ w ∧ w ≤ 4194304 ∧ upAt g.nodes u = true ∧ upAt g.nodes v = true := by
  unfold Road at hr
  rw [mem_rds] at hr
  obtain ⟨y, h1, h2, h3⟩ := hr
  obtain ⟨-, -, a1, a2, a3, a4, a5, a6, a7⟩ := live_ends h h1
  obtain ⟨q, q1, q2, q3⟩ := weight_q y.w (hw y a7) a6
  have e : qn y.w = q := by rw [q3]; exact qn_qw (by omega)
  rcases h3 with ⟨e1, e2⟩ | ⟨e1, e2⟩
  · subst e1; subst e2; exact ⟨a1, a2, by omega, by omega, a4, a5⟩
  · subst e1; subst e2; exact ⟨a2, a1, by omega, by omega, a5, a4⟩
theorem road_good {g : Gr} (h : checkG g = 0) (hw : ∀ y ∈ g.links, y.w < 2 ^ 64) : Good (Road g) (idf g.nodes) :=
  ⟨fun u v w hr => by have := road_bd h hw hr; omega, fun u v w hr => (idf_is (check_zero.1 h).2.2.1 (road_bd h hw hr).2.1).2.1⟩
/-- Sums over places. -/
def sumTo : Nat → (Nat → Nat) → Nat
  | 0, _ => 0
  | n + 1, f => sumTo n f + f n
theorem sumTo_congr {n : Nat} {f g : Nat → Nat} (h : ∀ u, u < n → f u = g u) : sumTo n f = sumTo n g := by
  induction n with
  | zero => rfl
  | succ n ih => unfold sumTo; rw [ih (fun u hu => h u (by omega)), h n (by omega)]
theorem sumTo_le {n : Nat} {f g : Nat → Nat} (h : ∀ u, u < n → f u ≤ g u) : sumTo n f ≤ sumTo n g := by
  induction n with
  | zero => exact Nat.le_refl _
  | succ n ih => unfold sumTo; have := ih (fun u hu => h u (by omega)); have := h n (by omega); omega
theorem sumTo_upd {n v : Nat} {f g : Nat → Nat} (hv : v < n) (h : ∀ u, u < n → u ≠ v → f u = g u) : sumTo n f + g v = sumTo n g + f v := by
  induction n with
  | zero => omega
  | succ n ih =>
    unfold sumTo
    by_cases e : v = n
    · subst e
      rw [sumTo_congr (fun u hu => h u (by omega) (by omega))]; omega
    · have := ih (by omega) (fun u hu hne => h u (by omega) hne)
      rw [h n (by omega) (fun e2 => e e2.symm)]; omega
theorem sumTo_add (n : Nat) (f g : Nat → Nat) : sumTo n (fun u => f u + g u) = sumTo n f + sumTo n g := by
  induction n with
  | zero => rfl
  | succ n ih => simp only [sumTo]; rw [ih]; omega
theorem sumTo_zero (n : Nat) : sumTo n (fun _ => 0) = 0 := by
  induction n with
  | zero => rfl
  | succ n ih => simp only [sumTo]; rw [ih]
theorem sumTo_one (n a : Nat) : sumTo n (fun u => if a = u then 1 else 0) ≤ 1 := by
  induction n with
  | zero => simp only [sumTo]; omega
  | succ n ih =>
    simp only [sumTo]
    by_cases e : a = n
    · have : sumTo n (fun u => if a = u then 1 else 0) = sumTo n (fun _ => 0) := sumTo_congr (fun u hu => by rw [if_neg (by omega)])
      rw [this, sumTo_zero, if_pos e]; omega
    · rw [if_neg e]; omega
/-- All roads together: two a link. -/
theorem deg_all (n : Nat) (ns : List Nd) : ∀ ls : List Lk, sumTo n (fun u => (rds ns ls u).length) ≤ 2 * ls.length
  | [] => by
    rw [sumTo_congr (g := fun _ => 0) (fun u _ => by simp [rds]), sumTo_zero]; omega
  | y :: r => by
    have ih := deg_all n ns r
    have e : sumTo n (fun u => (rds ns (y :: r) u).length) = sumTo n (fun u => ((if Nq.ahead ns y.a = u then 1 else 0) + (if Nq.ahead ns y.b = u then 1 else 0)) + (rds ns r u).length) := by
      refine sumTo_congr (fun u _ => ?_)
      unfold rds
      rw [List.flatMap_cons, List.length_append]
      congr 1
      unfold lkRd
      rw [List.length_append]
      congr 1 <;> split <;> rfl
    rw [e, sumTo_add, sumTo_add]
    have := sumTo_one n (Nq.ahead ns y.a)
    have := sumTo_one n (Nq.ahead ns y.b)
    simp only [List.length_cons]; omega
theorem deg_one (ns : List Nd) (ls : List Lk) (u : Nat) : ((netL ns ls).getD u []).length ≤ 2 * ls.length := by
  by_cases hu : u < ns.length
  · rw [netL_at _ hu]
    clear hu
    induction ls with
    | nil => simp [rds]
    | cons y r ih =>
      unfold rds at ih ⊢
      rw [List.flatMap_cons, List.length_append, List.length_cons]
      have : (lkRd ns y u).length ≤ 2 := by
        unfold lkRd
        rw [List.length_append]
        split <;> split <;> simp
      omega
  · rw [List.getD_eq_getElem?_getD, List.getElem?_eq_none (by rw [netL_len]; omega)]; simp
/-- How many roads lead away from those that one has not come to. -/
def pot {α : Type} (rows : List (List Rd)) (d : Nat → Option α) : Nat := sumTo rows.length (fun u => if (d u).isNone then (rows.getD u []).length else 0)
theorem pot_settle {α : Type} {rows : List (List Rd)} {d d' : Nat → Option α} {v : Nat} (hv : v < rows.length) {x : α} (hd : d v = none) (hd' : ∀ u, d' u = if u = v then some x else d u) : pot rows d = pot rows d' + (rows.getD v []).length := by
  have := sumTo_upd (n := rows.length) (v := v) (f := fun u => if (d u).isNone then (rows.getD u []).length else 0) (g := fun u => if (d' u).isNone then (rows.getD u []).length else 0) hv (fun u _ hne => by
    simp only [hd', if_neg hne])
  simp only [hd', hd, if_pos rfl, Option.isNone_none, Option.isNone_some, if_true] at this
  unfold pot
  simp only [Bool.false_eq_true, if_false] at this
  have e : (fun u => if (d' u).isNone = true then (rows.getD u []).length else 0) = (fun u => if (if u = v then some x else d u).isNone = true then (rows.getD u []).length else 0) := by funext u; rw [hd']
  rw [e]; omega
theorem pot_start {α : Type} (ns : List Nd) (ls : List Lk) : pot (α := α) (netL ns ls) (fun _ => none) ≤ 2 * ls.length := by
  unfold pot
  refine Nat.le_trans ?_ (deg_all ns.length ns ls)
  rw [netL_len]
  exact sumTo_le (fun u hu => by rw [netL_at _ hu]; simp)
end Go.Pq
end

section
namespace Go.Pq
set_option linter.unusedVariables false
set_option linter.unusedSimpArgs false

/-- A stop: where, how far, the first hop. -/
abbrev Sp := Nat × Nat × Nat
def lessS (a b : Sp) : Bool := decide (a.2.1 < b.2.1) || (decide (a.2.1 = b.2.1) && decide (a.2.2 < b.2.2))
def leS (a b : Sp) : Prop := lessS b a = false
theorem leS_iff {a b : Sp} : leS a b ↔ Le a.2.1 a.2.2 b.2.1 b.2.2 := by
  unfold leS lessS Le
  simp only [Bool.or_eq_false_iff, Bool.and_eq_false_iff, decide_eq_false_iff_not]
  omega
theorem leS_less {a b : Sp} (h : lessS a b = true) : leS a b := by
  rw [leS_iff]
  unfold lessS at h; unfold Le
  simp only [Bool.or_eq_true, Bool.and_eq_true, decide_eq_true_eq] at h
  omega
theorem leS_trans {a b c : Sp} (h : leS a b) (k : leS b c) : leS a c := leS_iff.2 ((leS_iff.1 h).trans (leS_iff.1 k))
theorem leS_refl (a : Sp) : leS a a := leS_iff.2 (Le.refl _ _)
/-- One's parent. -/
def par (c : Nat) : Nat := (c - 1) / 2
def at_ (l : List Sp) (j : Nat) : Sp := l.getD j (0, 0, 0)
theorem at_get {l : List Sp} {j : Nat} (h : j < l.length) : at_ l j = l[j] := by unfold at_; simp [h]
def swp (l : List Sp) (i k : Nat) : List Sp := (l.set i (at_ l k)).set k (at_ l i)
theorem swp_len (l : List Sp) (i k : Nat) : (swp l i k).length = l.length := by simp [swp]
theorem swp_at {l : List Sp} {i k : Nat} (hi : i < l.length) (hk : k < l.length) (j : Nat) : at_ (swp l i k) j = if j = k then at_ l i else if j = i then at_ l k else at_ l j := by
  unfold swp at_
  simp only [List.getD_eq_getElem?_getD]
  by_cases e1 : j = k
  · subst e1
    rw [if_pos rfl, List.getElem?_set_self (by simpa using hk)]; rfl
  · rw [if_neg e1, List.getElem?_set_ne (fun e => e1 e.symm)]
    by_cases e2 : j = i
    · subst e2
      rw [if_pos rfl, List.getElem?_set_self hi]; rfl
    · rw [if_neg e2, List.getElem?_set_ne (fun e => e2 e.symm)]
theorem mem_at {l : List Sp} {x : Sp} : x ∈ l ↔ ∃ j, j < l.length ∧ at_ l j = x := by
  constructor
  · intro h
    obtain ⟨j, hj, rfl⟩ := List.getElem_of_mem h
    exact ⟨j, hj, at_get hj⟩
  · rintro ⟨j, hj, rfl⟩
    rw [at_get hj]; exact List.getElem_mem hj
theorem swp_mem {l : List Sp} {i k : Nat} (hi : i < l.length) (hk : k < l.length) {x : Sp} : x ∈ swp l i k ↔ x ∈ l := by
  rw [mem_at, mem_at, swp_len]
  constructor
  · rintro ⟨j, hj, rfl⟩
    rw [swp_at hi hk]
    split
    · exact ⟨i, hi, rfl⟩
    · split
      · exact ⟨k, hk, rfl⟩
      · exact ⟨j, hj, rfl⟩
  · rintro ⟨j, hj, rfl⟩
    by_cases e1 : j = i
    · subst e1
      exact ⟨k, hk, by rw [swp_at hi hk, if_pos rfl]⟩
    · by_cases e2 : j = k
      · subst e2
        exact ⟨i, hi, by rw [swp_at hi hk, if_neg (fun e => e1 e.symm), if_pos rfl]⟩
      · exact ⟨j, hj, by rw [swp_at hi hk, if_neg e2, if_neg e1]⟩
/-- The first n are a heap. -/
def HeapP (l : List Sp) (n : Nat) : Prop := ∀ c, 0 < c → c < n → leS (at_ l (par c)) (at_ l c)
def UpI (l : List Sp) (n j : Nat) : Prop := (∀ c, 0 < c → c < n → c ≠ j → leS (at_ l (par c)) (at_ l c)) ∧ (0 < j → ∀ c, 0 < c → c < n → par c = j → leS (at_ l (par j)) (at_ l c))
def DownI (l : List Sp) (n i : Nat) : Prop := (∀ c, 0 < c → c < n → par c ≠ i → leS (at_ l (par c)) (at_ l c)) ∧ (0 < i → ∀ c, 0 < c → c < n → par c = i → leS (at_ l (par i)) (at_ l c))
theorem par_lt {c : Nat} (h : 0 < c) : par c < c := by unfold par; omega
theorem up_start {l : List Sp} (s : Sp) (h : HeapP l l.length) : UpI (l ++ [s]) (l.length + 1) l.length := by
  have old : ∀ j, j < l.length → at_ (l ++ [s]) j = at_ l j := fun j hj => by unfold at_; simp [List.getD_eq_getElem?_getD, List.getElem?_append_left hj]
  refine ⟨fun c h0 hc hne => ?_, fun h0 c hc0 hc hp => ?_⟩
  · have := par_lt h0
    rw [old c (by omega), old (par c) (by omega)]
    exact h c h0 (by omega)
  · have := par_lt hc0; omega
theorem up_step {l : List Sp} {n j : Nat} (hn : n ≤ l.length) (hj : j < n) (h0 : 0 < j) (h : UpI l n j) (hl : lessS (at_ l j) (at_ l (par j)) = true) : UpI (swp l (par j) j) n (par j) := by
  have hpj := par_lt h0
  have hi : par j < l.length := by omega
  have hjl : j < l.length := by omega
  have A := swp_at hi hjl
  have hle := leS_less hl
  obtain ⟨h1, h2⟩ := h
  refine ⟨fun c hc0 hc hne => ?_, fun hi0 c hc0 hc hp => ?_⟩
  · have hpc := par_lt hc0
    by_cases e : c = j
    · subst e
      rw [A, if_neg (by omega), if_pos rfl, A, if_pos rfl]; exact hle
    · rw [A c, if_neg e, if_neg hne, A (par c)]
      by_cases e1 : par c = j
      · rw [if_pos e1]; exact h2 h0 c hc0 hc e1
      · rw [if_neg e1]
        by_cases e2 : par c = par j
        · rw [if_pos e2]
          have := h1 c hc0 hc e
          rw [e2] at this
          exact leS_trans hle this
        · rw [if_neg e2]; exact h1 c hc0 hc e
  · have hpi := par_lt hi0
    have hpc := par_lt hc0
    rw [A (par (par j)), if_neg (by omega), if_neg (by omega)]
    have hg := h1 (par j) hi0 (by omega) (by omega)
    by_cases e : c = j
    · subst e
      rw [A, if_pos rfl]; exact hg
    · rw [A c, if_neg e, if_neg (by omega)]
      have := h1 c hc0 hc e
      rw [hp] at this
      exact leS_trans hg this
theorem up_end0 {l : List Sp} {n : Nat} (h : UpI l n 0) : HeapP l n := fun c h0 hc => h.1 c h0 hc (by omega)
theorem up_end {l : List Sp} {n j : Nat} (h : UpI l n j) (hl : lessS (at_ l j) (at_ l (par j)) = false) : HeapP l n := fun c h0 hc => by
  by_cases e : c = j
  · subst e; exact hl
  · exact h.1 c h0 hc e
theorem down_start {l : List Sp} {n : Nat} (hn : n + 1 = l.length) (h : HeapP l (n + 1)) : DownI (swp l 0 n) n 0 := by
  have A := swp_at (l := l) (i := 0) (k := n) (by omega) (by omega)
  refine ⟨fun c h0 hc hp => ?_, fun h0 => absurd h0 (by omega)⟩
  have := par_lt h0
  rw [A c, if_neg (by omega), if_neg (by omega), A (par c), if_neg (by omega), if_neg hp]
  exact h c h0 (by omega)
theorem down_step {l : List Sp} {n i j : Nat} (hn : n ≤ l.length) (hj : j < n) (hp : par j = i) (h0 : 0 < j) (h : DownI l n i) (hleast : ∀ c, 0 < c → c < n → par c = i → leS (at_ l j) (at_ l c)) (hl : lessS (at_ l j) (at_ l i) = true) : DownI (swp l i j) n j := by
  have hpj := par_lt h0
  have hi : i < l.length := by omega
  have hjl : j < l.length := by omega
  have A := swp_at hi hjl
  have hle := leS_less hl
  obtain ⟨h1, h2⟩ := h
  refine ⟨fun c hc0 hc hne => ?_, fun _ c hc0 hc hpc => ?_⟩
  · have hpc := par_lt hc0
    by_cases e1 : par c = i
    · rw [A (par c), if_neg hne, if_pos e1]
      by_cases e : c = j
      · subst e; rw [A, if_pos rfl]; exact hle
      · rw [A c, if_neg e, if_neg (by omega)]; exact hleast c hc0 hc e1
    · rw [A (par c), if_neg hne, if_neg e1]
      by_cases e2 : c = i
      · subst e2
        rw [A, if_neg (by omega), if_pos rfl]
        exact h2 hc0 j h0 hj hp
      · by_cases e3 : c = j
        · subst e3; exact absurd hp e1
        · rw [A c, if_neg e3, if_neg e2]; exact h1 c hc0 hc e1
  · have hpc2 := par_lt hc0
    rw [hp, A i, if_neg (by omega), if_pos rfl, A c, if_neg (by omega), if_neg (by omega)]
    have := h1 c hc0 hc (by omega)
    rw [hpc] at this; exact this
theorem down_leaf {l : List Sp} {n i : Nat} (hl : n ≤ 2 * i + 1) (h : DownI l n i) : HeapP l n := fun c h0 hc => h.1 c h0 hc (by unfold par; omega)
theorem down_end {l : List Sp} {n i j : Nat} (h : DownI l n i) (hleast : ∀ c, 0 < c → c < n → par c = i → leS (at_ l j) (at_ l c)) (hl : lessS (at_ l j) (at_ l i) = false) : HeapP l n := fun c h0 hc => by
  by_cases e : par c = i
  · rw [e]; exact leS_trans hl (hleast c h0 hc e)
  · exact h.1 c h0 hc e
/-- Which child is the less. -/
theorem child_one {l : List Sp} {n i : Nat} (h : n ≤ 2 * i + 2) : ∀ c, 0 < c → c < n → par c = i → leS (at_ l (2 * i + 1)) (at_ l c) := fun c h0 hc hp => by
  have : c = 2 * i + 1 := by unfold par at hp; omega
  rw [this]; exact leS_refl _
theorem child_left {l : List Sp} {n i : Nat} (h : lessS (at_ l (2 * i + 2)) (at_ l (2 * i + 1)) = false) : ∀ c, 0 < c → c < n → par c = i → leS (at_ l (2 * i + 1)) (at_ l c) := fun c h0 hc hp => by
  have : c = 2 * i + 1 ∨ c = 2 * i + 2 := by unfold par at hp; omega
  rcases this with e | e <;> rw [e]
  · exact leS_refl _
  · exact h
theorem child_right {l : List Sp} {n i : Nat} (h : lessS (at_ l (2 * i + 2)) (at_ l (2 * i + 1)) = true) : ∀ c, 0 < c → c < n → par c = i → leS (at_ l (2 * i + 2)) (at_ l c) := fun c h0 hc hp => by
  have : c = 2 * i + 1 ∨ c = 2 * i + 2 := by unfold par at hp; omega
  rcases this with e | e <;> rw [e]
  · exact leS_less h
  · exact leS_refl _
/-- The first of a heap is the least. -/
theorem heap_least {l : List Sp} {n : Nat} (h : HeapP l n) : ∀ c, c < n → leS (at_ l 0) (at_ l c) := by
  intro c
  induction c using Nat.strongRecOn with
  | _ c ih =>
    intro hc
    by_cases h0 : 0 < c
    · have := par_lt h0
      exact leS_trans (ih (par c) this (by omega)) (h c h0 hc)
    · have : c = 0 := by omega
      subst this; exact leS_refl _
theorem heap_nil : HeapP [] 0 := fun c h0 hc => absurd hc (by omega)
theorem heap_dropLast {l : List Sp} {n : Nat} (hn : n + 1 = l.length) (h : HeapP l n) : HeapP l.dropLast l.dropLast.length := fun c h0 hc => by
  have hl : l.dropLast.length = n := by rw [List.length_dropLast]; omega
  have D : ∀ j, j < n → at_ l.dropLast j = at_ l j := fun j hj => by rw [at_get (by omega), at_get (by omega), List.getElem_dropLast]
  have := par_lt h0
  rw [D c (by omega), D (par c) (by omega)]
  exact h c h0 (by omega)
/-- The same ones among the first n, in whatever order. -/
def Mix (l l' : List Sp) (n : Nat) : Prop := l'.length = l.length ∧ (∀ j, n ≤ j → at_ l' j = at_ l j) ∧ ∀ x, (∃ j, j < n ∧ at_ l' j = x) ↔ (∃ j, j < n ∧ at_ l j = x)
theorem Mix.refl (l : List Sp) (n : Nat) : Mix l l n := ⟨rfl, fun _ _ => rfl, fun _ => Iff.rfl⟩
theorem Mix.trans {a b c : List Sp} {n : Nat} (h : Mix a b n) (k : Mix b c n) : Mix a c n := ⟨k.1.trans h.1, fun j hj => (k.2.1 j hj).trans (h.2.1 j hj), fun x => (k.2.2 x).trans (h.2.2 x)⟩
theorem mix_swp {l : List Sp} {n i k : Nat} (hn : n ≤ l.length) (hi : i < n) (hk : k < n) : Mix l (swp l i k) n := by
  have A := swp_at (l := l) (i := i) (k := k) (by omega) (by omega)
  refine ⟨swp_len _ _ _, fun j hj => by rw [A, if_neg (by omega), if_neg (by omega)], fun x => ⟨?_, ?_⟩⟩
  · rintro ⟨j, hj, rfl⟩
    rw [A]
    split
    · exact ⟨i, hi, rfl⟩
    · split
      · exact ⟨k, hk, rfl⟩
      · exact ⟨j, hj, rfl⟩
  · rintro ⟨j, hj, rfl⟩
    by_cases e1 : j = i
    · subst e1
      exact ⟨k, hk, by rw [A, if_pos rfl]⟩
    · by_cases e2 : j = k
      · subst e2
        exact ⟨i, hi, by rw [A, if_neg (fun e => e1 e.symm), if_pos rfl]⟩
      · exact ⟨j, hj, by rw [A, if_neg e2, if_neg e1]⟩
theorem Mix.mem {l l' : List Sp} {n : Nat} (h : Mix l l' n) (hn : n = l.length) (x : Sp) : x ∈ l' ↔ x ∈ l := by
  have := h.2.2 x
  rw [mem_at, mem_at, h.1, ← hn]; exact this
/-- What a pop leaves: the least comes out, the others stay. -/
theorem pop_mem {l l' : List Sp} {n : Nat} (hn : n + 1 = l.length) (hm : Mix (swp l 0 n) l' n) (x : Sp) : x ∈ l ↔ x = at_ l 0 ∨ x ∈ l'.dropLast := by
  have A := swp_at (l := l) (i := 0) (k := n) (by omega) (by omega)
  have hl' : l'.length = n + 1 := by rw [hm.1, swp_len]; omega
  have hd : l'.dropLast.length = n := by rw [List.length_dropLast]; omega
  have D : ∀ j, j < n → at_ l'.dropLast j = at_ l' j := fun j hj => by rw [at_get (by omega), at_get (by omega), List.getElem_dropLast]
  have e1 : x ∈ l'.dropLast ↔ ∃ j, j < n ∧ at_ (swp l 0 n) j = x := by
    rw [← hm.2.2 x, mem_at, hd]
    constructor
    · rintro ⟨j, hj, e⟩; exact ⟨j, hj, by rw [← D j hj]; exact e⟩
    · rintro ⟨j, hj, e⟩; exact ⟨j, hj, by rw [D j hj]; exact e⟩
  rw [e1, ← swp_mem (l := l) (i := 0) (k := n) (by omega) (by omega), mem_at, swp_len, ← hn]
  constructor
  · rintro ⟨j, hj, e⟩
    by_cases q : j = n
    · subst q
      rw [A, if_pos rfl] at e; exact Or.inl e.symm
    · exact Or.inr ⟨j, by omega, e⟩
  · rintro (h | ⟨j, hj, e⟩)
    · exact ⟨n, by omega, by rw [A, if_pos rfl]; exact h.symm⟩
    · exact ⟨j, by omega, e⟩
theorem pop_last {l l' : List Sp} {n : Nat} (hn : n + 1 = l.length) (hm : Mix (swp l 0 n) l' n) : at_ l' n = at_ l 0 := by
  rw [hm.2.1 n (Nat.le_refl _), swp_at (by omega) (by omega), if_pos rfl]
theorem pop_heap {l l' : List Sp} {n : Nat} (hn : n + 1 = l.length) (hm : Mix (swp l 0 n) l' n) (h : HeapP l' n) : HeapP l'.dropLast l'.dropLast.length :=
  heap_dropLast (by rw [hm.1, swp_len]; exact hn) h
theorem pop_min {l l' : List Sp} {n : Nat} (hn : n + 1 = l.length) (hm : Mix (swp l 0 n) l' n) (h : HeapP l (n + 1)) {x : Sp} (hx : x ∈ l'.dropLast) : leS (at_ l 0) x := by
  have := (pop_mem hn hm x).2 (Or.inr hx)
  obtain ⟨j, hj, rfl⟩ := mem_at.1 this
  exact heap_least h j (by omega)
end Go.Pq
end

section
namespace Go.Pq
open Go.Fq Go.Nq Go.Iq
set_option linter.unusedVariables false
set_option linter.unusedSimpArgs false

def g_ (l : List (Option Nat)) (v : Nat) : Option Nat := l.getD v none
theorem g_set {l : List (Option Nat)} {v : Nat} (x : Option Nat) (hv : v < l.length) (u : Nat) : g_ (l.set v x) u = if u = v then x else g_ l u := by
  unfold g_
  simp only [List.getD_eq_getElem?_getD]
  by_cases e : u = v
  · subst e
    rw [if_pos rfl, List.getElem?_set_self hv]; rfl
  · rw [if_neg e, List.getElem?_set_ne (fun h => e h.symm)]
theorem g_at {l : List (Option Nat)} {v : Nat} (hv : v < l.length) : l[v] = g_ l v := by unfold g_; simp [hv]
theorem g_far {l : List (Option Nat)} {v : Nat} (hv : ¬ v < l.length) : g_ l v = none := by unfold g_; rw [List.getD_eq_getElem?_getD, List.getElem?_eq_none (by omega)]; rfl
/-- One is come to by a road, if that is nearer. -/
def rlx (l : List (Option Nat)) (u v w lim : Nat) : List (Option Nat) := if ltO (addO w (g_ l u) lim) (g_ l v) then l.set v (addO w (g_ l u) lim) else l
theorem rlx_len (l : List (Option Nat)) (u v w lim : Nat) : (rlx l u v w lim).length = l.length := by unfold rlx; split <;> simp
/-- What holds of distances that were come to. -/
structure BfI (R : Nat → Nat → Nat → Prop) (s lim : Nat) (l : List (Option Nat)) : Prop where
  start : g_ l s = some 0
  way : ∀ v n, g_ l v = some n → Way R s v n ∧ n < lim
theorem BfI.sm {R : Nat → Nat → Nat → Prop} {s lim : Nat} {l : List (Option Nat)} (h : BfI R s lim l) (hl : lim ≤ 4294967296) (v : Nat) : Sm (g_ l v) := by
  cases e : g_ l v with
  | none => trivial
  | some n => have := (h.way v n e).2; show n ≤ _; omega
theorem addO_some {w lim : Nat} {a : Option Nat} {m : Nat} (h : addO w a lim = some m) : ∃ n, a = some n ∧ m = n + w ∧ n + w < lim := by
  cases a with
  | none => cases h
  | some n =>
    unfold addO at h
    simp only at h
    split at h
    · cases h; exact ⟨n, rfl, by omega, by omega⟩
    · cases h
theorem BfI.rlx {R : Nat → Nat → Nat → Prop} {s lim u v w : Nat} {l : List (Option Nat)} (h : BfI R s lim l) (hr : R u v w) (hv : v < l.length) : BfI R s lim (rlx l u v w lim) := by
  unfold Pq.rlx
  split
  · rename_i hlt
    refine ⟨?_, fun a n ha => ?_⟩
    · rw [g_set _ hv]
      split
      · rename_i e
        rw [← e, h.start] at hlt
        cases hx : addO w (g_ l u) lim with
        | none => rw [hx] at hlt; cases hlt
        | some m => rw [hx] at hlt; simp [ltO] at hlt
      · exact h.start
    · rw [g_set _ hv] at ha
      split at ha
      · rename_i e
        subst e
        obtain ⟨k, h1, h2, h3⟩ := addO_some ha
        subst h2
        exact ⟨.cons (h.way u k h1).1 hr, h3⟩
      · exact h.way a n ha
  · exact h
/-- All distances together, what is too far as the limit. -/
def msum (lim : Nat) (l : List (Option Nat)) : Nat := sumTo l.length (fun v => (g_ l v).getD lim)
theorem msum_rlx {R : Nat → Nat → Nat → Prop} {s lim u v w : Nat} {l : List (Option Nat)} (h : BfI R s lim l) (hv : v < l.length) (hlt : ltO (addO w (g_ l u) lim) (g_ l v) = true) : msum lim (rlx l u v w lim) < msum lim l := by
  unfold rlx
  rw [if_pos hlt]
  have := sumTo_upd (n := l.length) (v := v) (f := fun a => (g_ l a).getD lim) (g := fun a => (g_ (l.set v (addO w (g_ l u) lim)) a).getD lim) hv (fun a _ hne => by simp only [g_set _ hv, if_neg hne])
  simp only [g_set _ hv, ↓reduceIte] at this
  unfold msum
  rw [List.length_set]
  have e : (fun a => (g_ (l.set v (addO w (g_ l u) lim)) a).getD lim) = (fun a => (if a = v then addO w (g_ l u) lim else g_ l a).getD lim) := by funext a; rw [g_set _ hv]
  rw [e]
  cases hx : addO w (g_ l u) lim with
  | none => rw [hx] at hlt; cases hlt
  | some m =>
    obtain ⟨n, h1, h2, h3⟩ := addO_some hx
    rw [hx] at this hlt
    cases hy : g_ l v with
    | none => rw [hy] at this; simp only [Option.getD_some, Option.getD_none] at this; omega
    | some k => rw [hy] at this hlt; simp [ltO] at hlt; simp only [Option.getD_some] at this; omega
/-- No road makes anything nearer. -/
theorem fixed_least {R : Nat → Nat → Nat → Prop} {s lim : Nat} {l : List (Option Nat)} (h : BfI R s lim l) (hf : ∀ u v w, R u v w → ltO (addO w (g_ l u) lim) (g_ l v) = false) : Least R s lim (g_ l) := by
  refine least_of_fixed h.start h.way (fun u v w n hr hu hl => ?_)
  have := hf u v w hr
  rw [hu] at this
  unfold addO at this
  simp only at this
  rw [if_pos (by omega)] at this
  cases hv : g_ l v with
  | none => rw [hv] at this; cases this
  | some m => rw [hv] at this; simp [ltO] at this; exact ⟨m, rfl, by omega⟩
/-- A link at which nothing turns. -/
def FixY (ns : List Nd) (lim : Nat) (l : List (Option Nat)) (y : Lk) : Prop := ltO (addO (qn y.w) (g_ l (Nq.ahead ns y.a)) lim) (g_ l (Nq.ahead ns y.b)) = false ∧ ltO (addO (qn y.w) (g_ l (Nq.ahead ns y.b)) lim) (g_ l (Nq.ahead ns y.a)) = false
/-- While one goes over the links, k of them behind: l0 at first, now l; t: has anything turned? -/
structure Pass (g : Gr) (s lim : Nat) (l0 l : List (Option Nat)) (t : Bool) (k : Nat) : Prop where
  len : l.length = g.nodes.length
  bf : BfI (Road g) s lim l
  still : t = false → l = l0 ∧ ∀ i (hi : i < g.links.length), i < k → liveL g.nodes g.links[i] = true → FixY g.nodes lim l0 g.links[i]
  less : t = true → msum lim l < msum lim l0
theorem pass_start {g : Gr} {s lim : Nat} {l : List (Option Nat)} (hl : l.length = g.nodes.length) (h : BfI (Road g) s lim l) : Pass g s lim l l false 0 := ⟨hl, h, fun _ => ⟨rfl, fun i hi h0 => absurd h0 (by omega)⟩, fun h => by cases h⟩
theorem live_mem {g : Gr} {k : Nat} (hk : k < g.links.length) (hl : liveL g.nodes g.links[k] = true) : g.links[k] ∈ (liveG g).links := List.mem_filter.2 ⟨List.getElem_mem hk, hl⟩
theorem road_ab {g : Gr} {k : Nat} (hk : k < g.links.length) (hl : liveL g.nodes g.links[k] = true) : Road g (Nq.ahead g.nodes g.links[k].a) (Nq.ahead g.nodes g.links[k].b) (qn g.links[k].w) ∧ Road g (Nq.ahead g.nodes g.links[k].b) (Nq.ahead g.nodes g.links[k].a) (qn g.links[k].w) :=
  ⟨mem_rds.2 ⟨_, live_mem hk hl, rfl, Or.inl ⟨rfl, rfl⟩⟩, mem_rds.2 ⟨_, live_mem hk hl, rfl, Or.inr ⟨rfl, rfl⟩⟩⟩
theorem Pass.dead {g : Gr} {s lim : Nat} {l0 l : List (Option Nat)} {t : Bool} {k : Nat} (h : Pass g s lim l0 l t k) (hk : k < g.links.length) (hl : liveL g.nodes g.links[k] = false) : Pass g s lim l0 l t (k + 1) :=
  ⟨h.len, h.bf, fun ht => ⟨(h.still ht).1, fun i hi h0 hv => by
    by_cases e : i = k
    · subst e; rw [hl] at hv; cases hv
    · exact (h.still ht).2 i hi (by omega) hv⟩, h.less⟩
/-- A live link: both its ends in turn. -/
theorem Pass.live {g : Gr} {s lim : Nat} {l0 l l1 l2 : List (Option Nat)} {t t1 t2 : Bool} {k : Nat} (hc : checkG g = 0) (h : Pass g s lim l0 l t k) (hk : k < g.links.length) (hl : liveL g.nodes g.links[k] = true)
    (h1 : l1 = rlx l (Nq.ahead g.nodes g.links[k].a) (Nq.ahead g.nodes g.links[k].b) (qn g.links[k].w) lim)
    (k1 : t1 = (t || ltO (addO (qn g.links[k].w) (g_ l (Nq.ahead g.nodes g.links[k].a)) lim) (g_ l (Nq.ahead g.nodes g.links[k].b))))
    (h2 : l2 = rlx l1 (Nq.ahead g.nodes g.links[k].b) (Nq.ahead g.nodes g.links[k].a) (qn g.links[k].w) lim)
    (k2 : t2 = (t1 || ltO (addO (qn g.links[k].w) (g_ l1 (Nq.ahead g.nodes g.links[k].b)) lim) (g_ l1 (Nq.ahead g.nodes g.links[k].a)))) : Pass g s lim l0 l2 t2 (k + 1) := by
  obtain ⟨-, -, a1, a2, a3, -⟩ := live_ends hc (live_mem hk hl)
  obtain ⟨r1, r2⟩ := road_ab hk hl
  have len1 : l1.length = g.nodes.length := by rw [h1, rlx_len]; exact h.len
  have b1 : BfI (Road g) s lim l1 := by rw [h1]; exact h.bf.rlx r1 (by rw [h.len]; exact a2)
  have b2 : BfI (Road g) s lim l2 := by rw [h2]; exact b1.rlx r2 (by rw [len1]; exact a1)
  refine ⟨by rw [h2, rlx_len]; exact len1, b2, fun ht => ?_, fun ht => ?_⟩
  · rw [k2, Bool.or_eq_false_iff] at ht
    obtain ⟨e1, e2⟩ := ht
    rw [k1, Bool.or_eq_false_iff] at e1
    obtain ⟨e0, e1⟩ := e1
    have q1 : l1 = l := by rw [h1]; unfold rlx; rw [if_neg (by rw [e1]; decide)]
    rw [q1] at e2
    have q2 : l2 = l := by rw [h2, q1]; unfold rlx; rw [if_neg (by rw [e2]; decide)]
    obtain ⟨s1, s2⟩ := h.still e0
    refine ⟨q2.trans s1, fun i hi h0 hv => ?_⟩
    by_cases e : i = k
    · subst e
      rw [← s1]; exact ⟨e1, e2⟩
    · exact s2 i hi (by omega) hv
  · have m1 : msum lim l1 ≤ msum lim l ∧ (ltO (addO (qn g.links[k].w) (g_ l (Nq.ahead g.nodes g.links[k].a)) lim) (g_ l (Nq.ahead g.nodes g.links[k].b)) = true → msum lim l1 < msum lim l) := by
      cases e : ltO (addO (qn g.links[k].w) (g_ l (Nq.ahead g.nodes g.links[k].a)) lim) (g_ l (Nq.ahead g.nodes g.links[k].b)) with
      | true => have := msum_rlx h.bf (by rw [h.len]; exact a2) e; rw [← h1] at this; exact ⟨by omega, fun _ => this⟩
      | false => exact ⟨by rw [h1]; unfold rlx; rw [if_neg (by rw [e]; decide)]; exact Nat.le_refl _, fun h => by cases h⟩
    have m2 : msum lim l2 ≤ msum lim l1 ∧ (ltO (addO (qn g.links[k].w) (g_ l1 (Nq.ahead g.nodes g.links[k].b)) lim) (g_ l1 (Nq.ahead g.nodes g.links[k].a)) = true → msum lim l2 < msum lim l1) := by
      cases e : ltO (addO (qn g.links[k].w) (g_ l1 (Nq.ahead g.nodes g.links[k].b)) lim) (g_ l1 (Nq.ahead g.nodes g.links[k].a)) with
      | true => have := msum_rlx b1 (by rw [len1]; exact a1) e; rw [← h2] at this; exact ⟨by omega, fun _ => this⟩
      | false => exact ⟨by rw [h2]; unfold rlx; rw [if_neg (by rw [e]; decide)]; exact Nat.le_refl _, fun h => by cases h⟩
    have m0 : msum lim l ≤ msum lim l0 ∧ (t = true → msum lim l < msum lim l0) := by
      cases e : t with
      | true => have := h.less e; exact ⟨by omega, fun _ => this⟩
      | false => exact ⟨by rw [(h.still e).1]; exact Nat.le_refl _, fun h => by cases h⟩
    rw [k2, Bool.or_eq_true] at ht
    rcases ht with ht | ht
    · rw [k1, Bool.or_eq_true] at ht
      rcases ht with ht | ht
      · have := m0.2 ht; omega
      · have := m1.2 ht; omega
    · have := m2.2 ht; omega
/-- Nothing has turned: it is least. -/
theorem Pass.least {g : Gr} {s lim : Nat} {l0 l : List (Option Nat)} {k : Nat} (h : Pass g s lim l0 l false k) (hk : g.links.length ≤ k) : Least (Road g) s lim (g_ l) := by
  obtain ⟨s1, s2⟩ := h.still rfl
  refine fixed_least h.bf (fun u v w hr => ?_)
  unfold Road at hr
  rw [mem_rds] at hr
  obtain ⟨y, h1, h2, h3⟩ := hr
  obtain ⟨hy1, hy2⟩ := List.mem_filter.1 h1
  obtain ⟨i, hi, rfl⟩ := List.getElem_of_mem hy1
  have := s2 i hi (by omega) hy2
  rw [← s1] at this
  unfold FixY at this
  rcases h3 with ⟨e1, e2⟩ | ⟨e1, e2⟩
  · rw [← e1, ← e2, ← h2]; exact this.1
  · rw [← e1, ← e2, ← h2]; exact this.2
/-- How far all are from a place, told one by one. -/
def DistsP (g : Gr) (s lim : Nat) (l : List (Option Nat)) : Prop := l.length = g.nodes.length ∧ if upAt g.nodes s = true then Least (Road g) s lim (g_ l) else ∀ v, g_ l v = none
theorem list_g_ext {a b : List (Option Nat)} (hl : a.length = b.length) (h : ∀ v, g_ a v = g_ b v) : a = b := by
  apply List.ext_getElem hl
  intro j h1 h2
  rw [g_at h1, g_at h2]; exact h j
theorem DistsP.unique {g : Gr} {s lim : Nat} {a b : List (Option Nat)} (ha : DistsP g s lim a) (hb : DistsP g s lim b) : a = b := by
  obtain ⟨a1, a2⟩ := ha
  obtain ⟨b1, b2⟩ := hb
  refine list_g_ext (a1.trans b1.symm) (fun v => ?_)
  split at a2
  · rename_i hu
    rw [if_pos hu] at b2
    exact congrFun (a2.unique b2) v
  · rename_i hu
    rw [if_neg hu] at b2
    rw [a2 v, b2 v]
theorem DistsP.sm {g : Gr} {s lim : Nat} {l : List (Option Nat)} (h : DistsP g s lim l) (hl : lim ≤ 4294967296) (v : Nat) : Sm (g_ l v) := by
  obtain ⟨-, h2⟩ := h
  cases e : g_ l v with
  | none => trivial
  | some n =>
    split at h2
    · have := ((h2 v).1 n e).2.1; show n ≤ _; omega
    · rw [h2 v] at e; cases e
end Go.Pq
end

section
namespace Go.Pq
open Go.Fq Go.Nq Go.Iq
set_option linter.unusedVariables false
set_option linter.unusedSimpArgs false

def dd (D : List (Option (Nat × Nat))) (v : Nat) : Option (Nat × Nat) := D.getD v none
theorem dd_set {D : List (Option (Nat × Nat))} {v : Nat} (x : Option (Nat × Nat)) (hv : v < D.length) (u : Nat) : dd (D.set v x) u = if u = v then x else dd D u := by
  unfold dd
  simp only [List.getD_eq_getElem?_getD]
  by_cases e : u = v
  · subst e
    rw [if_pos rfl, List.getElem?_set_self hv]; rfl
  · rw [if_neg e, List.getElem?_set_ne (fun h => e h.symm)]
theorem dd_at {D : List (Option (Nat × Nat))} {v : Nat} (hv : v < D.length) : D[v] = dd D v := by unfold dd; simp [hv]
theorem dd_none (n v : Nat) : dd (List.replicate n none) v = none := by
  unfold dd
  rw [List.getD_eq_getElem?_getD]
  by_cases h : v < n
  · simp [h]
  · rw [List.getElem?_eq_none (by simpa using h)]; rfl
/-- What a walk from a place tells. -/
def StopsP (g : Gr) (s lim : Nat) (D : List (Option (Nat × Nat))) : Prop := D.length = g.nodes.length ∧ if upAt g.nodes s = true then LeastF (Road g) (idf g.nodes) s lim (dd D) else ∀ v, dd D v = none
def dOf (D : List (Option (Nat × Nat))) : List (Option Nat) := D.map (fun o => o.map Prod.fst)
theorem dOf_at (D : List (Option (Nat × Nat))) (v : Nat) : g_ (dOf D) v = (dd D v).map Prod.fst := by
  unfold g_ dOf dd
  simp only [List.getD_eq_getElem?_getD, List.getElem?_map]
  cases D[v]? <;> rfl
theorem StopsP.dists {g : Gr} {s lim : Nat} {D : List (Option (Nat × Nat))} (h : StopsP g s lim D) : DistsP g s lim (dOf D) := by
  obtain ⟨h1, h2⟩ := h
  refine ⟨by unfold dOf; rw [List.length_map]; exact h1, ?_⟩
  split
  · rename_i hu
    rw [if_pos hu] at h2
    have e : g_ (dOf D) = fun v => (dd D v).map Prod.fst := by funext v; exact dOf_at D v
    rw [e]; exact h2.least
  · rename_i hu
    rw [if_neg hu] at h2
    intro v
    rw [dOf_at, h2 v]; rfl
theorem wayF_lt {g : Gr} (h : checkG g = 0) (hw : ∀ y ∈ g.links, y.w < 2 ^ 64) {s v n f : Nat} (hs : s < g.nodes.length) (k : WayF (Road g) (idf g.nodes) s v n f) : v < g.nodes.length := by
  cases k with
  | nil => exact hs
  | cons h1 h2 => exact (road_bd h hw h2).2.1
theorem StopsP.at {g : Gr} (hc : checkG g = 0) (hw : ∀ y ∈ g.links, y.w < 2 ^ 64) {s lim : Nat} {D : List (Option (Nat × Nat))} (h : StopsP g s lim D) {v n f : Nat} (hv : dd D v = some (n, f)) : n < lim ∧ WayF (Road g) (idf g.nodes) s v n f ∧ upAt g.nodes s = true := by
  obtain ⟨-, h2⟩ := h
  split at h2
  · rename_i hu
    have := (h2 v).1 n f hv
    exact ⟨this.2.1, this.1, hu⟩
  · rw [h2 v] at hv; cases hv
/-- What is pushed behind k roads. -/
def Pushed (id : Nat → Nat) (rd : List Rd) (d : Nat → Option (Nat × Nat)) (n f lim k : Nat) (L0 L : List Sp) : Prop :=
  ∀ x, x ∈ L ↔ x ∈ L0 ∨ ∃ j, ∃ hj : j < rd.length, j < k ∧ d rd[j].1 = none ∧ rd[j].2 + n < lim ∧ x = (rd[j].1, rd[j].2 + n, hop id rd[j].1 f)
theorem pushed_start (id : Nat → Nat) (rd : List Rd) (d : Nat → Option (Nat × Nat)) (n f lim : Nat) (L : List Sp) : Pushed id rd d n f lim 0 L L := fun x => ⟨Or.inl, fun h => h.resolve_right (by rintro ⟨j, hj, h0, -⟩; omega)⟩
theorem Pushed.no {id : Nat → Nat} {rd : List Rd} {d : Nat → Option (Nat × Nat)} {n f lim k : Nat} {L0 L : List Sp} (h : Pushed id rd d n f lim k L0 L) (hk : k < rd.length) (hc : ¬ (d rd[k].1 = none ∧ rd[k].2 + n < lim)) : Pushed id rd d n f lim (k + 1) L0 L := fun x => by
  rw [h x]
  constructor
  · rintro (e | ⟨j, hj, h0, h1⟩)
    · exact Or.inl e
    · exact Or.inr ⟨j, hj, by omega, h1⟩
  · rintro (e | ⟨j, hj, h0, h1, h2, h3⟩)
    · exact Or.inl e
    · by_cases e : j = k
      · subst e; exact absurd ⟨h1, h2⟩ hc
      · exact Or.inr ⟨j, hj, by omega, h1, h2, h3⟩
theorem Pushed.yes {id : Nat → Nat} {rd : List Rd} {d : Nat → Option (Nat × Nat)} {n f lim k : Nat} {L0 L L' : List Sp} (h : Pushed id rd d n f lim k L0 L) (hk : k < rd.length) (h1 : d rd[k].1 = none) (h2 : rd[k].2 + n < lim) (hm : ∀ x, x ∈ L' ↔ x = (rd[k].1, rd[k].2 + n, hop id rd[k].1 f) ∨ x ∈ L) : Pushed id rd d n f lim (k + 1) L0 L' := fun x => by
  rw [hm x, h x]
  constructor
  · rintro (e | e | ⟨j, hj, h0, h1⟩)
    · exact Or.inr ⟨k, hk, by omega, h1, h2, e⟩
    · exact Or.inl e
    · exact Or.inr ⟨j, hj, by omega, h1⟩
  · rintro (e | ⟨j, hj, h0, h3, h4, h5⟩)
    · exact Or.inr (Or.inl e)
    · by_cases e : j = k
      · subst e; exact Or.inl h5
      · exact Or.inr (Or.inr ⟨j, hj, by omega, h3, h4, h5⟩)
theorem Pushed.end {g : Gr} {d : Nat → Option (Nat × Nat)} {v n f lim k : Nat} {L0 L : List Sp} (h : Pushed (idf g.nodes) (rds g.nodes (liveG g).links v) d n f lim k L0 L) (hk : (rds g.nodes (liveG g).links v).length ≤ k) :
    ∀ x, x ∈ L ↔ x ∈ L0 ∨ ∃ a w, Road g v a w ∧ n + w < lim ∧ d a = none ∧ x = (a, n + w, hop (idf g.nodes) a f) := fun x => by
  rw [h x]
  constructor
  · rintro (e | ⟨j, hj, h0, h1, h2, h3⟩)
    · exact Or.inl e
    · exact Or.inr ⟨(rds g.nodes (liveG g).links v)[j].1, (rds g.nodes (liveG g).links v)[j].2, List.getElem_mem hj, by omega, h1, by rw [h3, Nat.add_comm]⟩
  · rintro (e | ⟨a, w, hr, h2, h1, h3⟩)
    · exact Or.inl e
    · obtain ⟨j, hj, e⟩ := List.getElem_of_mem hr
      refine Or.inr ⟨j, hj, by omega, ?_⟩
      rw [e]
      exact ⟨h1, by omega, by rw [h3, Nat.add_comm]⟩
theorem le_leS {a b : Sp} (h : leS a b) : Le a.2.1 a.2.2 b.2.1 b.2.2 := leS_iff.1 h
/-- While one goes out: cur is taken, L waits. -/
abbrev Out (g : Gr) (s lim : Nat) (D : List (Option (Nat × Nat))) (Q : List Sp) : Prop := InvF (Road g) (idf g.nodes) s lim (dd D) Q
theorem out_skip {g : Gr} {s lim : Nat} {D : List (Option (Nat × Nat))} {cur : Sp} {L : List Sp} (h : Out g s lim D (cur :: L)) {o : Nat × Nat} (hd : dd D cur.1 = some o) : Out g s lim D L :=
  InvF.skip (v := cur.1) (n := cur.2.1) (f := cur.2.2) (m := o.1) (g := o.2) h (fun x => by rw [List.mem_cons]) hd
theorem out_settle {g : Gr} (hc : checkG g = 0) (hw : ∀ y ∈ g.links, y.w < 2 ^ 64) {s lim k : Nat} {D : List (Option (Nat × Nat))} {cur : Sp} {L L2 : List Sp} (h : Out g s lim D (cur :: L)) (hd : dd D cur.1 = none) (hv : cur.1 < D.length) (hmin : ∀ x, x ∈ L → leS cur x)
    (hp : Pushed (idf g.nodes) (rds g.nodes (liveG g).links cur.1) (dd (D.set cur.1 (some (cur.2.1, cur.2.2)))) cur.2.1 cur.2.2 lim k L L2) (hk : (rds g.nodes (liveG g).links cur.1).length ≤ k) : Out g s lim (D.set cur.1 (some (cur.2.1, cur.2.2))) L2 :=
  InvF.settle (v := cur.1) (n := cur.2.1) (f := cur.2.2) (Q' := L) (road_good hc hw) h (fun x => by rw [List.mem_cons]) hd (fun a b c hx => le_leS (hmin _ hx)) (fun u => dd_set _ hv u) (hp.end hk)
theorem out_start (g : Gr) (s lim : Nat) (n : Nat) (hl : 0 < lim) {L : List Sp} (hL : ∀ x, x ∈ L ↔ x = (s, 0, 0)) : Out g s lim (List.replicate n none) L := by
  have e : dd (List.replicate n none) = fun _ => none := by funext v; exact dd_none n v
  unfold Out
  rw [e]
  have h := invF_start (Road g) (idf g.nodes) s lim hl
  exact InvF.mk h.settled (fun v n f hm => h.queued v n f (List.mem_singleton.2 ((hL _).1 hm))) (fun u n f v w hd => by cases hd) (Or.inr ((hL _).2 rfl)) (fun u n f v m k hd => by cases hd)
theorem out_pop {g : Gr} {s lim : Nat} {D : List (Option (Nat × Nat))} {cur : Sp} {L L2 : List Sp} (h : Out g s lim D L) (hm : ∀ x, x ∈ L ↔ x = cur ∨ x ∈ L2) : Out g s lim D (cur :: L2) := by
  have e : ∀ x, x ∈ cur :: L2 ↔ x ∈ L := fun x => by rw [List.mem_cons, hm x]
  exact ⟨h.settled, fun v n f hq => h.queued v n f ((e _).1 hq), fun u n f v w hd hr hl => (h.out u n f v w hd hr hl).imp id (fun hq => (e _).2 hq), h.start.imp id (fun hq => (e _).2 hq), fun u n f v m k hd hq => h.low u n f v m k hd ((e _).1 hq)⟩
theorem out_bd {g : Gr} (hc : checkG g = 0) (hw : ∀ y ∈ g.links, y.w < 2 ^ 64) {s lim : Nat} {D : List (Option (Nat × Nat))} {Q : List Sp} (h : Out g s lim D Q) (hs : s < g.nodes.length) {x : Sp} (hx : x ∈ Q) : x.1 < g.nodes.length ∧ x.2.1 < lim := by
  have := h.queued x.1 x.2.1 x.2.2 hx
  exact ⟨wayF_lt hc hw hs this.1, this.2⟩
end Go.Pq
end

section
namespace Go.Pq
open Go.Fq Go.Nq Go.Iq
set_option linter.unusedVariables false
set_option linter.unusedSimpArgs false

theorem aw_limit : limitF 4621819117588971520 = 0 := by decide +kernel
theorem aw_qn : qn 4621819117588971520 = 40 := by decide +kernel
end Go.Pq
end
