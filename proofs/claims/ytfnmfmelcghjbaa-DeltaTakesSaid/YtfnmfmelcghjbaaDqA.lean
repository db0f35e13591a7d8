/- Deltas, plainly: two lists side by side; what makes one of another; a list behind news; as the document has them. -/
import Derived.Test.YtfnmfmelcghjbaaKqA
import Derived.Test.YtfnmfmelcghjbaaKqB
namespace Go.Dq
open Go.Mq Go.Fq Go.Kq
set_option linter.unusedVariables false
set_option linter.unusedSimpArgs false

abbrev topN : Nat := 9218868437227405312
/-- A destination that is no more. -/
def goneN (n : Nw) : Nw := ⟨n.dest, n.kind, topN, 0, 0⟩
def noN : Nw := ⟨0, 0, 0, 0, 0⟩
theorem ky_gone (n : Nw) : ky (goneN n) = ky n := rfl
theorem inf_gone (n : Nw) : infP (goneN n).dist = true := by show infP topN = true; decide +kernel
/-- Two lists side by side. -/
def sbs : List Nw → List Nw → List (Nw × Nw)
  | [], [] => []
  | x :: a, [] => (x, noN) :: sbs a []
  | [], y :: b => (noN, y) :: sbs [] b
  | x :: a, y :: b => if ky x < ky y then (x, noN) :: sbs a (y :: b) else if ky y < ky x then (noN, y) :: sbs (x :: a) b else (x, y) :: sbs a b
termination_by a b => a.length + b.length
/-- Lists that rise, of destinations that are some. -/
structure Ls (l : List Nw) : Prop where
  rise : Rise l
  some : ∀ x ∈ l, x.dest ≠ 0
theorem Ls.tail {x : Nw} {l : List Nw} (h : Ls (x :: l)) : Ls l := ⟨(rise_cons h.rise).2, fun y hy => h.some y (List.mem_cons_of_mem _ hy)⟩
theorem Ls.head {x : Nw} {l : List Nw} (h : Ls (x :: l)) : x.dest ≠ 0 := h.some x (List.mem_cons_self ..)
theorem Ls.lt {x : Nw} {l : List Nw} (h : Ls (x :: l)) : ∀ y ∈ l, ky x < ky y := (rise_cons h.rise).1
/-- What a pair may be. -/
def Pr (a b : List Nw) (p : Nw × Nw) : Prop := (p.1 ∈ a ∧ p.2 ∈ b ∧ ky p.1 = ky p.2) ∨ (p.1 ∈ a ∧ p.2 = noN ∧ ∀ z ∈ b, ky z ≠ ky p.1) ∨ (p.1 = noN ∧ p.2 ∈ b ∧ ∀ z ∈ a, ky z ≠ ky p.2)
def kp (p : Nw × Nw) : Int := if p.2.dest = 0 then ky p.1 else ky p.2
theorem sbs_spec (n : Nat) : ∀ (a b : List Nw), a.length + b.length ≤ n → Ls a → Ls b →
    (∀ p, p ∈ sbs a b ↔ Pr a b p) ∧ (sbs a b).Pairwise (fun p q => kp p < kp q) ∧ (∀ k : Int, (∀ z ∈ a, k < ky z) → (∀ z ∈ b, k < ky z) → ∀ p ∈ sbs a b, k < kp p) := by
  induction n with
  | zero =>
    intro a b hn ha hb
    have e1 : a = [] := List.length_eq_zero_iff.1 (by omega)
    have e2 : b = [] := List.length_eq_zero_iff.1 (by omega)
    subst e1 e2
    refine ⟨fun p => ?_, ?_, ?_⟩
    · simp [sbs, Pr]
    · simp [sbs]
    · simp [sbs]
  | succ n ih =>
    intro a b hn ha hb
    match a, b, hn, ha, hb with
    | [], [], _, _, _ => exact ⟨fun p => by simp [sbs, Pr], by simp [sbs], by simp [sbs]⟩
    | x :: a, [], hn, ha, hb =>
      obtain ⟨i1, i2, i3⟩ := ih a [] (by simp at hn ⊢; omega) ha.tail hb
      have hk : kp (x, noN) = ky x := by simp [kp, noN]
      refine ⟨fun p => ?_, ?_, fun k h1 h2 p hp => ?_⟩
      · rw [sbs, List.mem_cons, i1]
        unfold Pr
        constructor
        · rintro (rfl | h)
          · exact Or.inr (Or.inl ⟨by simp, rfl, by simp⟩)
          · rcases h with ⟨h1, h2, _⟩ | ⟨h1, h2, h3⟩ | ⟨h1, h2, _⟩
            · simp at h2
            · exact Or.inr (Or.inl ⟨List.mem_cons_of_mem _ h1, h2, by simp⟩)
            · simp at h2
        · rintro (⟨h1, h2, _⟩ | ⟨h1, h2, h3⟩ | ⟨h1, h2, _⟩)
          · simp at h2
          · rcases List.mem_cons.1 h1 with e | h1
            · exact Or.inl (by obtain ⟨p1, p2⟩ := p; simp only at e h2; rw [e, h2])
            · exact Or.inr (Or.inr (Or.inl ⟨h1, h2, by simp⟩))
          · simp at h2
      · rw [sbs]
        refine List.pairwise_cons.2 ⟨fun q hq => ?_, i2⟩
        rw [hk]
        exact i3 (ky x) ha.lt (by simp) q hq
      · rw [sbs] at hp
        rcases List.mem_cons.1 hp with rfl | hp
        · rw [hk]; exact h1 x (List.mem_cons_self ..)
        · exact i3 k (fun z hz => h1 z (List.mem_cons_of_mem _ hz)) (by simp) p hp
    | [], y :: b, hn, ha, hb =>
      obtain ⟨i1, i2, i3⟩ := ih [] b (by simp at hn ⊢; omega) ha hb.tail
      have hk : kp (noN, y) = ky y := by simp only [kp]; rw [if_neg hb.head]
      refine ⟨fun p => ?_, ?_, fun k h1 h2 p hp => ?_⟩
      · rw [sbs, List.mem_cons, i1]
        unfold Pr
        constructor
        · rintro (rfl | h)
          · exact Or.inr (Or.inr ⟨rfl, by simp, by simp⟩)
          · rcases h with ⟨h1, h2, _⟩ | ⟨h1, h2, h3⟩ | ⟨h1, h2, _⟩
            · simp at h1
            · simp at h1
            · exact Or.inr (Or.inr ⟨h1, List.mem_cons_of_mem _ h2, by simp⟩)
        · rintro (⟨h1, h2, _⟩ | ⟨h1, h2, h3⟩ | ⟨h1, h2, _⟩)
          · simp at h1
          · simp at h1
          · rcases List.mem_cons.1 h2 with e | h2
            · exact Or.inl (by obtain ⟨p1, p2⟩ := p; simp only at e h1; rw [e, h1])
            · exact Or.inr (Or.inr (Or.inr ⟨h1, h2, by simp⟩))
      · rw [sbs]
        refine List.pairwise_cons.2 ⟨fun q hq => ?_, i2⟩
        rw [hk]
        exact i3 (ky y) (by simp) hb.lt q hq
      · rw [sbs] at hp
        rcases List.mem_cons.1 hp with rfl | hp
        · rw [hk]; exact h2 y (List.mem_cons_self ..)
        · exact i3 k (by simp) (fun z hz => h2 z (List.mem_cons_of_mem _ hz)) p hp
    | x :: a, y :: b, hn, ha, hb =>
      have hal := ha.lt
      have hbl := hb.lt
      rw [sbs]
      by_cases c1 : ky x < ky y
      · rw [if_pos c1]
        obtain ⟨i1, i2, i3⟩ := ih a (y :: b) (by simp at hn ⊢; omega) ha.tail hb
        have hk : kp (x, noN) = ky x := by simp [kp, noN]
        have hyb : ∀ z ∈ y :: b, ky x < ky z := fun z hz => by
          rcases List.mem_cons.1 hz with rfl | hz
          · exact c1
          · have := hbl z hz; omega
        refine ⟨fun p => ?_, List.pairwise_cons.2 ⟨fun q hq => by rw [hk]; exact i3 (ky x) hal hyb q hq, i2⟩, fun k h1 h2 p hp => ?_⟩
        · rw [List.mem_cons, i1]
          unfold Pr
          constructor
          · rintro (rfl | h)
            · exact Or.inr (Or.inl ⟨by simp, rfl, fun z hz => by have := hyb z hz; simp only; omega⟩)
            · rcases h with ⟨h1, h2, h3⟩ | ⟨h1, h2, h3⟩ | ⟨h1, h2, h3⟩
              · exact Or.inl ⟨List.mem_cons_of_mem _ h1, h2, h3⟩
              · exact Or.inr (Or.inl ⟨List.mem_cons_of_mem _ h1, h2, h3⟩)
              · refine Or.inr (Or.inr ⟨h1, h2, fun z hz => ?_⟩)
                rcases List.mem_cons.1 hz with rfl | hz
                · have := hyb _ h2; omega
                · exact h3 z hz
          · rintro (⟨h1, h2, h3⟩ | ⟨h1, h2, h3⟩ | ⟨h1, h2, h3⟩)
            · rcases List.mem_cons.1 h1 with e | h1
              · have := hyb _ h2; rw [e] at h3; omega
              · exact Or.inr (Or.inl ⟨h1, h2, h3⟩)
            · rcases List.mem_cons.1 h1 with e | h1
              · exact Or.inl (by obtain ⟨p1, p2⟩ := p; simp only at e h2; rw [e, h2])
              · exact Or.inr (Or.inr (Or.inl ⟨h1, h2, h3⟩))
            · exact Or.inr (Or.inr (Or.inr ⟨h1, h2, fun z hz => h3 z (List.mem_cons_of_mem _ hz)⟩))
        · rcases List.mem_cons.1 hp with rfl | hp
          · rw [hk]; exact h1 x (List.mem_cons_self ..)
          · exact i3 k (fun z hz => h1 z (List.mem_cons_of_mem _ hz)) h2 p hp
      · rw [if_neg c1]
        by_cases c2 : ky y < ky x
        · rw [if_pos c2]
          obtain ⟨i1, i2, i3⟩ := ih (x :: a) b (by simp at hn ⊢; omega) ha hb.tail
          have hk : kp (noN, y) = ky y := by simp only [kp]; rw [if_neg hb.head]
          have hxa : ∀ z ∈ x :: a, ky y < ky z := fun z hz => by
            rcases List.mem_cons.1 hz with rfl | hz
            · exact c2
            · have := hal z hz; omega
          refine ⟨fun p => ?_, List.pairwise_cons.2 ⟨fun q hq => by rw [hk]; exact i3 (ky y) hxa hbl q hq, i2⟩, fun k h1 h2 p hp => ?_⟩
          · rw [List.mem_cons, i1]
            unfold Pr
            constructor
            · rintro (rfl | h)
              · exact Or.inr (Or.inr ⟨rfl, by simp, fun z hz => by have := hxa z hz; simp only; omega⟩)
              · rcases h with ⟨h1, h2, h3⟩ | ⟨h1, h2, h3⟩ | ⟨h1, h2, h3⟩
                · exact Or.inl ⟨h1, List.mem_cons_of_mem _ h2, h3⟩
                · refine Or.inr (Or.inl ⟨h1, h2, fun z hz => ?_⟩)
                  rcases List.mem_cons.1 hz with rfl | hz
                  · have := hxa _ h1; omega
                  · exact h3 z hz
                · exact Or.inr (Or.inr ⟨h1, List.mem_cons_of_mem _ h2, h3⟩)
            · rintro (⟨h1, h2, h3⟩ | ⟨h1, h2, h3⟩ | ⟨h1, h2, h3⟩)
              · rcases List.mem_cons.1 h2 with e | h2
                · have := hxa _ h1; rw [e] at h3; omega
                · exact Or.inr (Or.inl ⟨h1, h2, h3⟩)
              · exact Or.inr (Or.inr (Or.inl ⟨h1, h2, fun z hz => h3 z (List.mem_cons_of_mem _ hz)⟩))
              · rcases List.mem_cons.1 h2 with e | h2
                · exact Or.inl (by obtain ⟨p1, p2⟩ := p; simp only at e h1; rw [e, h1])
                · exact Or.inr (Or.inr (Or.inr ⟨h1, h2, h3⟩))
          · rcases List.mem_cons.1 hp with rfl | hp
            · rw [hk]; exact h2 y (List.mem_cons_self ..)
            · exact i3 k h1 (fun z hz => h2 z (List.mem_cons_of_mem _ hz)) p hp
        · rw [if_neg c2]
          have c3 : ky x = ky y := by omega
          obtain ⟨i1, i2, i3⟩ := ih a b (by simp at hn ⊢; omega) ha.tail hb.tail
          have hk : kp (x, y) = ky y := by simp only [kp]; rw [if_neg hb.head]
          refine ⟨fun p => ?_, List.pairwise_cons.2 ⟨fun q hq => by rw [hk]; exact i3 (ky y) (fun z hz => by rw [← c3]; exact hal z hz) hbl q hq, i2⟩, fun k h1 h2 p hp => ?_⟩
          · rw [List.mem_cons, i1]
            unfold Pr
            constructor
            · rintro (rfl | h)
              · exact Or.inl ⟨by simp, by simp, c3⟩
              · rcases h with ⟨h1, h2, h3⟩ | ⟨h1, h2, h3⟩ | ⟨h1, h2, h3⟩
                · exact Or.inl ⟨List.mem_cons_of_mem _ h1, List.mem_cons_of_mem _ h2, h3⟩
                · refine Or.inr (Or.inl ⟨List.mem_cons_of_mem _ h1, h2, fun z hz => ?_⟩)
                  rcases List.mem_cons.1 hz with rfl | hz
                  · have := hal _ h1; omega
                  · exact h3 z hz
                · refine Or.inr (Or.inr ⟨h1, List.mem_cons_of_mem _ h2, fun z hz => ?_⟩)
                  rcases List.mem_cons.1 hz with rfl | hz
                  · have := hbl _ h2; omega
                  · exact h3 z hz
            · rintro (⟨h1, h2, h3⟩ | ⟨h1, h2, h3⟩ | ⟨h1, h2, h3⟩)
              · rcases List.mem_cons.1 h1 with e | h1
                · rcases List.mem_cons.1 h2 with e2 | h2
                  · exact Or.inl (by obtain ⟨p1, p2⟩ := p; simp only at e e2; rw [e, e2])
                  · have := hbl _ h2; rw [e] at h3; omega
                · rcases List.mem_cons.1 h2 with e2 | h2
                  · have := hal _ h1; rw [e2] at h3; omega
                  · exact Or.inr (Or.inl ⟨h1, h2, h3⟩)
              · rcases List.mem_cons.1 h1 with e | h1
                · exact absurd (by rw [e]; exact c3.symm) (h3 y (List.mem_cons_self ..))
                · exact Or.inr (Or.inr (Or.inl ⟨h1, h2, fun z hz => h3 z (List.mem_cons_of_mem _ hz)⟩))
              · rcases List.mem_cons.1 h2 with e | h2
                · exact absurd (by rw [e]; exact c3) (h3 x (List.mem_cons_self ..))
                · exact Or.inr (Or.inr (Or.inr ⟨h1, h2, fun z hz => h3 z (List.mem_cons_of_mem _ hz)⟩))
          · rcases List.mem_cons.1 hp with rfl | hp
            · rw [hk]; exact h2 y (List.mem_cons_self ..)
            · exact i3 k (fun z hz => h1 z (List.mem_cons_of_mem _ hz)) (fun z hz => h2 z (List.mem_cons_of_mem _ hz)) p hp
theorem sbs_mem {a b : List Nw} (ha : Ls a) (hb : Ls b) (p : Nw × Nw) : p ∈ sbs a b ↔ Pr a b p := (sbs_spec _ a b (Nat.le_refl _) ha hb).1 p
theorem sbs_rise {a b : List Nw} (ha : Ls a) (hb : Ls b) : (sbs a b).Pairwise (fun p q => kp p < kp q) := (sbs_spec _ a b (Nat.le_refl _) ha hb).2.1
theorem sbs_len (n : Nat) : ∀ (a b : List Nw), a.length + b.length ≤ n → (sbs a b).length ≤ a.length + b.length := by
  induction n with
  | zero =>
    intro a b hn
    have e1 : a = [] := List.length_eq_zero_iff.1 (by omega)
    have e2 : b = [] := List.length_eq_zero_iff.1 (by omega)
    subst e1 e2
    simp [sbs]
  | succ n ih =>
    intro a b hn
    match a, b, hn with
    | [], [], _ => simp [sbs]
    | x :: a, [], hn =>
      have := ih a [] (by simp at hn ⊢; omega)
      rw [sbs]; simp at this ⊢; omega
    | [], y :: b, hn =>
      have := ih [] b (by simp at hn ⊢; omega)
      rw [sbs]; simp at this ⊢; omega
    | x :: a, y :: b, hn =>
      rw [sbs]
      split
      · have := ih a (y :: b) (by simp at hn ⊢; omega)
        simp at this ⊢; omega
      · split
        · have := ih (x :: a) b (by simp at hn ⊢; omega)
          simp at this ⊢; omega
        · have := ih a b (by simp at hn ⊢; omega)
          simp at this ⊢; omega
def dOne (p : Nw × Nw) : List Nw := if p.2.dest = 0 then [goneN p.1] else if nwE p.1 p.2 then [] else [p.2]
def mOne (p : Nw × Nw) : List Nw := if p.2.dest = 0 then [p.1] else fins p.2
/-- The news that make one list of another one. -/
def diffL (a b : List Nw) : List Nw := (sbs a b).flatMap dOne
def mergL (a b : List Nw) : List Nw := (sbs a b).flatMap mOne
theorem flat_rise {S : List (Nw × Nw)} {f : Nw × Nw → List Nw} (hS : S.Pairwise (fun p q => kp p < kp q)) (h1 : ∀ p, (f p).length ≤ 1) (hf : ∀ p ∈ S, ∀ y ∈ f p, ky y = kp p) : Rise (S.flatMap f) := by
  induction S with
  | nil => simp [Rise]
  | cons p S ih =>
    rw [List.flatMap_cons]
    obtain ⟨g1, g2⟩ := List.pairwise_cons.1 hS
    refine List.pairwise_append.2 ⟨?_, ih g2 (fun q hq => hf q (List.mem_cons_of_mem _ hq)), fun y hy z hz => ?_⟩
    · match e : f p, h1 p with
      | [], _ => simp
      | [y], _ => simp
      | _ :: _ :: _, h => simp at h
    · obtain ⟨q, hq, hzq⟩ := List.mem_flatMap.1 hz
      have := g1 q hq
      rw [hf p (List.mem_cons_self ..) y hy, hf q (List.mem_cons_of_mem _ hq) z hzq]
      exact this
theorem dOne_len (p : Nw × Nw) : (dOne p).length ≤ 1 := by unfold dOne; split; simp; split <;> simp
theorem mOne_len (p : Nw × Nw) : (mOne p).length ≤ 1 := by unfold mOne fins; split; simp; split <;> simp
theorem flat_le {S : List (Nw × Nw)} {f : Nw × Nw → List Nw} (h1 : ∀ p, (f p).length ≤ 1) : (S.flatMap f).length ≤ S.length := by
  induction S with
  | nil => simp
  | cons p S ih => rw [List.flatMap_cons, List.length_append, List.length_cons]; have := h1 p; omega
theorem diff_le (a b : List Nw) : (diffL a b).length ≤ a.length + b.length := Nat.le_trans (flat_le dOne_len) (sbs_len _ a b (Nat.le_refl _))
theorem dOne_ky (p : Nw × Nw) : ∀ y ∈ dOne p, ky y = kp p := by
  intro y hy
  unfold dOne at hy
  unfold kp
  split at hy
  · next h => rw [if_pos h]; simp at hy; rw [hy]; rfl
  · next h =>
    rw [if_neg h]
    split at hy
    · simp at hy
    · simp at hy; rw [hy]
theorem mOne_ky (p : Nw × Nw) : ∀ y ∈ mOne p, ky y = kp p := by
  intro y hy
  unfold mOne at hy
  unfold kp
  split at hy
  · next h => rw [if_pos h]; simp at hy; rw [hy]
  · next h => rw [if_neg h, (mem_fins.1 hy).1]
theorem rise_diff {a b : List Nw} (ha : Ls a) (hb : Ls b) : Rise (diffL a b) := flat_rise (sbs_rise ha hb) dOne_len (fun p _ => dOne_ky p)
theorem mem_diff {a b : List Nw} (ha : Ls a) (hb : Ls b) (y : Nw) : y ∈ diffL a b ↔ (y ∈ b ∧ y ∉ a) ∨ ∃ x ∈ a, (∀ z ∈ b, ky z ≠ ky x) ∧ y = goneN x := by
  unfold diffL
  rw [List.mem_flatMap]
  constructor
  · rintro ⟨p, hp, hy⟩
    unfold dOne at hy
    rcases (sbs_mem ha hb p).1 hp with ⟨h1, h2, h3⟩ | ⟨h1, h2, h3⟩ | ⟨h1, h2, h3⟩
    · rw [if_neg (hb.some _ h2)] at hy
      split at hy
      · simp at hy
      · next hne =>
        simp at hy
        subst hy
        refine Or.inl ⟨h2, fun hm => hne (nwE_iff.2 ?_)⟩
        have := ha.rise
        rcases Classical.em (p.1 = p.2) with e | e
        · exact e
        · exact absurd h3 (by
            have hp2 := this
            have : ∀ l : List Nw, Rise l → ∀ u ∈ l, ∀ v ∈ l, ky u = ky v → u = v := by
              intro l
              induction l with
              | nil => intro _ u hu; simp at hu
              | cons t l ih =>
                intro hr u hu v hv hk
                obtain ⟨r1, r2⟩ := rise_cons hr
                rcases List.mem_cons.1 hu with rfl | hu2
                · rcases List.mem_cons.1 hv with rfl | hv2
                  · rfl
                  · have := r1 v hv2; omega
                · rcases List.mem_cons.1 hv with rfl | hv2
                  · have := r1 u hu2; omega
                  · exact ih r2 u hu2 v hv2 hk
            intro hk
            exact e (this a hp2 _ h1 _ hm hk))
    · rw [if_pos (by rw [h2]; rfl)] at hy
      simp at hy
      exact Or.inr ⟨p.1, h1, h3, hy⟩
    · rw [if_neg (hb.some _ h2)] at hy
      split at hy
      · simp at hy
      · simp at hy
        subst hy
        exact Or.inl ⟨h2, fun hm => h3 _ hm rfl⟩
  · rintro (⟨h1, h2⟩ | ⟨x, hx, h1, rfl⟩)
    · by_cases hk : ∃ x ∈ a, ky x = ky y
      · obtain ⟨x, hx, hxy⟩ := hk
        refine ⟨(x, y), (sbs_mem ha hb _).2 (Or.inl ⟨hx, h1, hxy⟩), ?_⟩
        unfold dOne
        rw [if_neg (hb.some _ h1), if_neg (fun e => h2 (by have := nwE_iff.1 e; simp only at this; rw [← this]; exact hx))]
        simp
      · refine ⟨(noN, y), (sbs_mem ha hb _).2 (Or.inr (Or.inr ⟨rfl, h1, fun z hz e => hk ⟨z, hz, e⟩⟩)), ?_⟩
        unfold dOne
        rw [if_neg (hb.some _ h1), if_neg (fun e => hb.some _ h1 (by have := nwE_iff.1 e; simp only at this; rw [← this]; rfl))]
        simp
    · refine ⟨(x, noN), (sbs_mem ha hb _).2 (Or.inr (Or.inl ⟨hx, rfl, h1⟩)), ?_⟩
      unfold dOne
      rw [if_pos (show (x, noN).2.dest = 0 from rfl)]
      simp
theorem merg_eq {a b : List Nw} (ha : Ls a) (hb : Ls b) : mergL a b = mrg a b := by
  refine rise_ext _ _ (flat_rise (sbs_rise ha hb) mOne_len (fun p _ => mOne_ky p)) (rise_mrg b a hb.rise ha.rise) (fun y => ?_)
  rw [mem_mrg b a hb.rise y]
  unfold mergL
  rw [List.mem_flatMap]
  constructor
  · rintro ⟨p, hp, hy⟩
    unfold mOne at hy
    rcases (sbs_mem ha hb p).1 hp with ⟨h1, h2, h3⟩ | ⟨h1, h2, h3⟩ | ⟨h1, h2, h3⟩
    · rw [if_neg (hb.some _ h2)] at hy
      obtain ⟨e, hf⟩ := mem_fins.1 hy
      exact Or.inl ⟨by rw [e]; exact h2, by rw [e]; exact hf⟩
    · rw [if_pos (by rw [h2]; rfl)] at hy
      simp at hy
      exact Or.inr ⟨by rw [hy]; exact h1, by rw [hy]; exact h3⟩
    · rw [if_neg (hb.some _ h2)] at hy
      obtain ⟨e, hf⟩ := mem_fins.1 hy
      exact Or.inl ⟨by rw [e]; exact h2, by rw [e]; exact hf⟩
  · rintro (⟨h1, h2⟩ | ⟨h1, h2⟩)
    · by_cases hk : ∃ x ∈ a, ky x = ky y
      · obtain ⟨x, hx, hxy⟩ := hk
        refine ⟨(x, y), (sbs_mem ha hb _).2 (Or.inl ⟨hx, h1, hxy⟩), ?_⟩
        unfold mOne
        rw [if_neg (hb.some _ h1)]
        exact mem_fins.2 ⟨rfl, h2⟩
      · refine ⟨(noN, y), (sbs_mem ha hb _).2 (Or.inr (Or.inr ⟨rfl, h1, fun z hz e => hk ⟨z, hz, e⟩⟩)), ?_⟩
        unfold mOne
        rw [if_neg (hb.some _ h1)]
        exact mem_fins.2 ⟨rfl, h2⟩
    · refine ⟨(y, noN), (sbs_mem ha hb _).2 (Or.inr (Or.inl ⟨h1, rfl, h2⟩)), ?_⟩
      unfold mOne
      rw [if_pos (show (y, noN).2.dest = 0 from rfl)]
      simp
/-- One put into its place. -/
def putN : List Nw → Nw → List Nw
  | [], n => [n]
  | x :: l, n => if ky n < ky x then n :: x :: l else x :: putN l n
theorem mem_put (n y : Nw) : ∀ l : List Nw, y ∈ putN l n ↔ y = n ∨ y ∈ l
  | [] => by simp [putN]
  | x :: l => by
    unfold putN
    split
    · simp
    · rw [List.mem_cons, mem_put n y l, List.mem_cons]
      constructor
      · rintro (h | h | h)
        · exact Or.inr (Or.inl h)
        · exact Or.inl h
        · exact Or.inr (Or.inr h)
      · rintro (h | h | h)
        · exact Or.inr (Or.inl h)
        · exact Or.inl h
        · exact Or.inr (Or.inr h)
theorem rise_put (n : Nw) : ∀ {l : List Nw}, Rise l → (∀ x ∈ l, ky x ≠ ky n) → Rise (putN l n)
  | [], _, _ => by simp [putN, Rise]
  | x :: l, h, hn => by
    obtain ⟨h1, h2⟩ := rise_cons h
    have hx := hn x (List.mem_cons_self ..)
    unfold putN
    split
    · next c =>
      refine List.pairwise_cons.2 ⟨fun y hy => ?_, h⟩
      rcases List.mem_cons.1 hy with rfl | hy
      · exact c
      · have := h1 y hy; omega
    · next c =>
      refine List.pairwise_cons.2 ⟨fun y hy => ?_, rise_put n h2 (fun y hy => hn y (List.mem_cons_of_mem _ hy))⟩
      rcases (mem_put n y l).1 hy with rfl | hy
      · omega
      · exact h1 y hy
theorem len_put (n : Nw) : ∀ l : List Nw, (putN l n).length = l.length + 1
  | [] => rfl
  | x :: l => by
    unfold putN
    split
    · rfl
    · simp [len_put n l]
/-- Several, one behind the other. -/
def puts (l : List Nw) (ns : List Nw) : List Nw := ns.foldl putN l
theorem puts_spec : ∀ (ns l : List Nw), Rise l → Rise ns → (∀ n ∈ ns, ∀ x ∈ l, ky x ≠ ky n) → Rise (puts l ns) ∧ (∀ y, y ∈ puts l ns ↔ y ∈ ns ∨ y ∈ l) ∧ (puts l ns).length = l.length + ns.length
  | [], l, h, _, _ => ⟨h, fun y => by simp [puts], by simp [puts]⟩
  | n :: ns, l, h, hn, hd => by
    obtain ⟨h1, h2⟩ := rise_cons hn
    obtain ⟨g1, g2, g3⟩ := puts_spec ns (putN l n) (rise_put n h (hd n (List.mem_cons_self ..))) h2 (fun m hm x hx => by
      rcases (mem_put n x l).1 hx with rfl | hx
      · have := h1 m hm; omega
      · exact hd m (List.mem_cons_of_mem _ hm) x hx)
    refine ⟨g1, fun y => ?_, ?_⟩
    · rw [show puts l (n :: ns) = puts (putN l n) ns from rfl, g2, mem_put, List.mem_cons]
      constructor
      · rintro (h | h | h)
        · exact Or.inl (Or.inr h)
        · exact Or.inl (Or.inl h)
        · exact Or.inr h
      · rintro ((h | h) | h)
        · exact Or.inr (Or.inl h)
        · exact Or.inl h
        · exact Or.inr (Or.inr h)
    · rw [show puts l (n :: ns) = puts (putN l n) ns from rfl, g3, len_put, List.length_cons]; omega
/-- The document's: what is other or new, then what is gone, each put in its place. -/
def keepD (a : List Nw) (y : Nw) : Bool := !(hasE a y)
def goneD (b : List Nw) (x : Nw) : Bool := !(hasK b x)
def diffD (a b : List Nw) : List Nw := puts (b.filter (keepD a)) ((a.filter (goneD b)).map goneN)
theorem rise_gone {l : List Nw} (h : Rise l) : Rise (l.map goneN) := by
  unfold Rise
  rw [List.pairwise_map]
  exact h
theorem goneD_iff {b : List Nw} {x : Nw} : goneD b x = true ↔ ∀ z ∈ b, ky z ≠ ky x := by
  unfold goneD
  rw [Bool.not_eq_true', Bool.eq_false_iff]
  constructor
  · intro h z hz e; exact h (hasK_mem.2 ⟨z, hz, e⟩)
  · intro h e
    obtain ⟨z, hz, e2⟩ := hasK_mem.1 e
    exact h z hz e2
theorem keepD_iff {a : List Nw} {y : Nw} : keepD a y = true ↔ y ∉ a := by
  unfold keepD
  rw [Bool.not_eq_true', Bool.eq_false_iff]
  exact not_congr hasE_mem
theorem diffD_spec {a b : List Nw} (ha : Ls a) (hb : Ls b) : Rise (diffD a b) ∧ (∀ y, y ∈ diffD a b ↔ y ∈ (a.filter (goneD b)).map goneN ∨ y ∈ b.filter (keepD a)) ∧ (diffD a b).length = (b.filter (keepD a)).length + ((a.filter (goneD b)).map goneN).length :=
  puts_spec _ _ (rise_filter hb.rise _) (rise_gone (rise_filter ha.rise _)) (fun n hn x hx => by
    obtain ⟨z, hz, rfl⟩ := List.mem_map.1 hn
    obtain ⟨h1, h2⟩ := List.mem_filter.1 hz
    exact goneD_iff.1 h2 x (List.mem_filter.1 hx).1)
theorem diffD_eq {a b : List Nw} (ha : Ls a) (hb : Ls b) : diffD a b = diffL a b := by
  obtain ⟨h1, h2, -⟩ := diffD_spec ha hb
  refine rise_ext _ _ h1 (rise_diff ha hb) (fun y => ?_)
  rw [h2, mem_diff ha hb]
  constructor
  · rintro (h | h)
    · obtain ⟨x, hx, rfl⟩ := List.mem_map.1 h
      obtain ⟨g1, g2⟩ := List.mem_filter.1 hx
      exact Or.inr ⟨x, g1, goneD_iff.1 g2, rfl⟩
    · obtain ⟨g1, g2⟩ := List.mem_filter.1 h
      exact Or.inl ⟨g1, keepD_iff.1 g2⟩
  · rintro (⟨g1, g2⟩ | ⟨x, hx, g, rfl⟩)
    · exact Or.inr (List.mem_filter.2 ⟨g1, keepD_iff.2 g2⟩)
    · exact Or.inl (List.mem_map.2 ⟨x, List.mem_filter.2 ⟨hx, goneD_iff.2 g⟩, rfl⟩)
def finB (n : Nw) : Bool := !(infP n.dist)
def mergD (l ns : List Nw) : List Nw := puts (l.filter (goneD ns)) (ns.filter finB)
theorem mergD_eq {l ns : List Nw} (hl : Rise l) (hn : Rise ns) : mergD l ns = mrg l ns := by
  obtain ⟨h1, h2, -⟩ := puts_spec (ns.filter finB) (l.filter (goneD ns)) (rise_filter hl _) (rise_filter hn _) (fun n hn x hx => fun e => goneD_iff.1 (List.mem_filter.1 hx).2 n (List.mem_filter.1 hn).1 e.symm)
  refine rise_ext _ _ h1 (rise_mrg ns l hn hl) (fun y => ?_)
  rw [mem_mrg ns l hn y]
  unfold mergD
  rw [h2]
  constructor
  · rintro (h | h)
    · obtain ⟨g1, g2⟩ := List.mem_filter.1 h
      exact Or.inl ⟨g1, by unfold finB at g2; simpa using g2⟩
    · obtain ⟨g1, g2⟩ := List.mem_filter.1 h
      exact Or.inr ⟨g1, goneD_iff.1 g2⟩
  · rintro (⟨g1, g2⟩ | ⟨g1, g2⟩)
    · exact Or.inl (List.mem_filter.2 ⟨g1, by unfold finB; simp [g2]⟩)
    · exact Or.inr (List.mem_filter.2 ⟨g1, goneD_iff.2 g2⟩)
theorem puts_le : ∀ (ns l : List Nw), (puts l ns).length = l.length + ns.length
  | [], l => by simp [puts]
  | n :: ns, l => by rw [show puts l (n :: ns) = puts (putN l n) ns from rfl, puts_le ns, len_put, List.length_cons]; omega
end Go.Dq
