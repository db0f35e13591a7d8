/- Balls, plainly, by numbers: how far two routers are, homes, neighbours, entries, tables; that what is live says all. Balls, plainly: the table of a path of four. Balls: who knows whom, by homes and distances. -/
import Derived.Test.YtjlfpjjfldbknaaGreatPqT
import Derived.Test.YtjlfpjjfldbknaaGreatNqG
section
namespace Go.Bq
open Go.Fq Go.Nq Go.Iq Go.Pq
set_option linter.unusedVariables false
set_option linter.unusedSimpArgs false

/-- All weights are words. -/
def Wts (g : Gr) : Prop := ∀ y ∈ g.links, y.w < 2 ^ 64
theorem Wts.live {g : Gr} (h : Wts g) : Wts (liveG g) := fun y hy => h y (List.mem_filter.1 hy).1
theorem least_nat (p : Nat → Prop) : ∀ n, p n → ∃ m, p m ∧ ∀ k, p k → m ≤ k := by
  intro n
  induction n using Nat.strongRecOn with
  | ind n ih =>
    intro h
    by_cases hk : ∃ k, k < n ∧ p k
    · obtain ⟨k, hk, hp⟩ := hk
      exact ih k hk hp
    · refine ⟨n, h, fun k hp => ?_⟩
      refine Classical.byContradiction fun hn => hk ⟨k, by omega, hp⟩
theorem way_low {g : Gr} (hz : checkG g = 0) (hw : Wts g) {s v m : Nat} (hs : s < g.nodes.length) (h : Pq.Way (Road g) s v m) : v < g.nodes.length := by
  cases h with
  | nil => exact hs
  | cons hu hr => exact (road_bd hz hw hr).2.1
theorem up_low {g : Gr} {s : Nat} (h : upAt g.nodes s = true) : s < g.nodes.length := by
  refine Classical.byContradiction fun hn => ?_
  unfold upAt at h
  rw [List.getD_eq_getElem?_getD, List.getElem?_eq_none (by omega)] at h
  cases h
theorem dists_exist {g : Gr} (hz : checkG g = 0) (hw : Wts g) (lim s : Nat) : ∃ l, DistsP g s lim l := by
  cases hu : upAt g.nodes s with
  | false =>
    refine ⟨List.replicate g.nodes.length none, by simp, ?_⟩
    rw [if_neg (by rw [hu]; decide)]
    intro v
    unfold g_
    rw [List.getD_eq_getElem?_getD, List.getElem?_replicate]
    split <;> rfl
  | true =>
    have hs := up_low hu
    have key : ∀ v, ∃ o : Option Nat, (∀ n, o = some n → Pq.Way (Road g) s v n ∧ n < lim ∧ ∀ m, Pq.Way (Road g) s v m → n ≤ m) ∧ (o = none → ∀ m, Pq.Way (Road g) s v m → lim ≤ m) := by
      intro v
      by_cases h : ∃ n, n < lim ∧ Pq.Way (Road g) s v n
      · obtain ⟨n0, h1, h2⟩ := h
        obtain ⟨n, k1, k2⟩ := least_nat (fun n => Pq.Way (Road g) s v n) n0 h2
        refine ⟨some n, fun m hm => ?_, fun h => by cases h⟩
        cases hm
        exact ⟨k1, by have := k2 n0 h2; omega, k2⟩
      · refine ⟨none, (fun n h => by cases h), fun _ m hm => ?_⟩
        refine Classical.byContradiction fun hn => h ⟨m, by omega, hm⟩
    refine ⟨(List.range g.nodes.length).map (fun v => Classical.choose (key v)), by simp, ?_⟩
    rw [if_pos hu]
    intro v
    by_cases hv : v < g.nodes.length
    · have e : g_ ((List.range g.nodes.length).map (fun v => Classical.choose (key v))) v = Classical.choose (key v) := by
        unfold g_
        simp [List.getD_eq_getElem?_getD, hv]
      rw [e]
      exact Classical.choose_spec (key v)
    · rw [g_far (by simpa using hv)]
      refine ⟨(fun n h => by cases h), fun _ m hm => ?_⟩
      exact absurd (way_low hz hw hs hm) hv
/-- How far all are from a place. -/
noncomputable def dst (g : Gr) (lim s : Nat) : List (Option Nat) := Classical.epsilon (fun l => DistsP g s lim l)
theorem dst_p {g : Gr} (hz : checkG g = 0) (hw : Wts g) (lim s : Nat) : DistsP g s lim (dst g lim s) := Classical.epsilon_spec (dists_exist hz hw lim s)
theorem dst_is {g : Gr} (hz : checkG g = 0) (hw : Wts g) {lim s : Nat} {l : List (Option Nat)} (h : DistsP g s lim l) : l = dst g lim s := h.unique (dst_p hz hw lim s)
theorem dst_len {g : Gr} (hz : checkG g = 0) (hw : Wts g) (lim s : Nat) : (dst g lim s).length = g.nodes.length := (dst_p hz hw lim s).1
theorem dst_sym {g : Gr} (hz : checkG g = 0) (hw : Wts g) (lim s t : Nat) : g_ (dst g lim s) t = g_ (dst g lim t) s := (tri_sym hz hw (dst_p hz hw lim t) (dst_p hz hw lim s))
theorem dst_sm {g : Gr} (hz : checkG g = 0) (hw : Wts g) {lim : Nat} (hl : lim ≤ 4294967296) (s v : Nat) : Sm (g_ (dst g lim s) v) := (dst_p hz hw lim s).sm hl v
/-- How far the one is from the other, by numbers. -/
noncomputable def dI (g : Gr) (lim : Nat) (x y : Int) : Option Nat := g_ (dst g lim (Nq.ahead g.nodes y)) (Nq.ahead g.nodes x)
theorem dI_sm {g : Gr} (hz : checkG g = 0) (hw : Wts g) {lim : Nat} (hl : lim ≤ 4294967296) (x y : Int) : Sm (dI g lim x y) := dst_sm hz hw hl _ _
theorem dI_at {g : Gr} (hz : checkG g = 0) (lim : Nat) {s t : Nat} (hs : s < g.nodes.length) (ht : t < g.nodes.length) : dI g lim (idf g.nodes s : Int) (idf g.nodes t : Int) = g_ (dst g lim t) s := by
  have n3 := (check_zero.1 hz).2.2.1
  unfold dI
  rw [(aheadOf n3 hs).2, (aheadOf n3 ht).2]
/-- Roads by numbers. -/
def RN (ls : List Lk) (a b w : Nat) : Prop := ∃ y ∈ ls, qn y.w = w ∧ ((y.a = (a : Int) ∧ y.b = (b : Int)) ∨ (y.b = (a : Int) ∧ y.a = (b : Int)))
theorem road_rn {g : Gr} (hz : checkG g = 0) {u v w : Nat} (hu : u < g.nodes.length) (hv : v < g.nodes.length) : Road g u v w ↔ RN (liveG g).links (idf g.nodes u) (idf g.nodes v) w := by
  have n3 := (check_zero.1 hz).2.2.1
  obtain ⟨u1, u2⟩ := aheadOf n3 hu
  obtain ⟨v1, v2⟩ := aheadOf n3 hv
  unfold Road
  rw [mem_rds]
  unfold RN
  constructor
  · rintro ⟨y, h1, h2, h3⟩
    refine ⟨y, h1, h2, ?_⟩
    obtain ⟨l1, l2, -⟩ := liveAt hz (List.mem_filter.1 h1).1
    have ia := (id_at n3 l1).1
    have ib := (id_at n3 l2).1
    rcases h3 with ⟨e1, e2⟩ | ⟨e1, e2⟩
    · rw [e1] at ia; rw [e2] at ib; exact Or.inl ⟨ia.symm, ib.symm⟩
    · rw [e1] at ib; rw [e2] at ia; exact Or.inr ⟨ib.symm, ia.symm⟩
  · rintro ⟨y, h1, h2, h3⟩
    refine ⟨y, h1, h2, ?_⟩
    rcases h3 with ⟨e1, e2⟩ | ⟨e1, e2⟩
    · exact Or.inl ⟨by rw [e1, u2], by rw [e2, v2]⟩
    · exact Or.inr ⟨by rw [e1, u2], by rw [e2, v2]⟩
theorem way_rn {g : Gr} (hz : checkG g = 0) (hw : Wts g) {s v m : Nat} (hs : s < g.nodes.length) (h : Pq.Way (Road g) s v m) : Pq.Way (RN (liveG g).links) (idf g.nodes s) (idf g.nodes v) m := by
  induction h with
  | nil => exact .nil
  | cons hu hr ih =>
    obtain ⟨b1, b2, -⟩ := road_bd hz hw hr
    exact .cons ih ((road_rn hz b1 b2).1 hr)
theorem rn_place {g : Gr} (hz : checkG g = 0) {a b w : Nat} (h : RN (liveG g).links a b w) : ∃ v, v < g.nodes.length ∧ idf g.nodes v = b := by
  have n3 := (check_zero.1 hz).2.2.1
  obtain ⟨y, h1, -, h3⟩ := h
  obtain ⟨l1, l2, l3, l4, -⟩ := liveAt hz (List.mem_filter.1 h1).1
  have ia := (id_at n3 l1).1
  have ib := (id_at n3 l2).1
  rcases h3 with ⟨-, e2⟩ | ⟨-, e2⟩
  · exact ⟨_, l4, by omega⟩
  · exact ⟨_, l3, by omega⟩
theorem idf_inj {g : Gr} (hz : checkG g = 0) {u v : Nat} (hu : u < g.nodes.length) (hv : v < g.nodes.length) (h : idf g.nodes u = idf g.nodes v) : u = v := by
  have n3 := (check_zero.1 hz).2.2.1
  have h1 := (aheadOf n3 hu).2
  rw [h, (aheadOf n3 hv).2] at h1
  exact h1.symm
theorem rn_way {g : Gr} (hz : checkG g = 0) (hw : Wts g) {s : Nat} (hs : s < g.nodes.length) {b m : Nat} (h : Pq.Way (RN (liveG g).links) (idf g.nodes s) b m) : ∃ v, v < g.nodes.length ∧ idf g.nodes v = b ∧ Pq.Way (Road g) s v m := by
  induction h with
  | nil => exact ⟨s, hs, rfl, .nil⟩
  | @cons u v' n w hu hr ih =>
    obtain ⟨u', k1, k2, k3⟩ := ih
    obtain ⟨v, k4, k5⟩ := rn_place hz hr
    subst k2; subst k5
    exact ⟨v, k4, rfl, .cons k3 ((road_rn hz k1 k4).2 hr)⟩
theorem up_id {g : Gr} (hz : checkG g = 0) {x : Int} (h : upB g.nodes x = true) : ∃ s, s < g.nodes.length ∧ Nq.ahead g.nodes x = s ∧ (idf g.nodes s : Int) = x ∧ upAt g.nodes s = true := by
  have n3 := (check_zero.1 hz).2.2.1
  obtain ⟨h1, h2, h3, h4⟩ := up_place n3 h
  exact ⟨_, h2, rfl, (id_at n3 h1).1, by rw [upAt_is h2]; exact h4⟩
theorem least_only {R : Nat → Nat → Nat → Prop} {R2 : Nat → Nat → Nat → Prop} {s s2 lim v v2 : Nat} {d d2 : Nat → Option Nat} (h : Least R s lim d) (h2 : Least R2 s2 lim d2) (hw : ∀ m, Pq.Way R s v m ↔ Pq.Way R2 s2 v2 m) : d v = d2 v2 := by
  cases e : d v with
  | none =>
    cases e2 : d2 v2 with
    | none => rfl
    | some n => have a := (h2 v2).1 n e2; have := (h v).2 e n ((hw n).2 a.1); omega
  | some m =>
    have b := (h v).1 m e
    cases e2 : d2 v2 with
    | none => have := (h2 v2).2 e2 m ((hw m).1 b.1); omega
    | some n =>
      have a := (h2 v2).1 n e2
      have := b.2.2 n ((hw n).2 a.1)
      have := a.2.2 m ((hw m).1 b.1)
      congr 1; omega
/-- Of what is live it is as far. -/
theorem dI_live {g : Gr} (hz : checkG g = 0) (hw : Wts g) (lim : Nat) {x y : Int} (hx : upB g.nodes x = true) (hy : upB g.nodes y = true) : dI g lim x y = dI (liveG g) lim x y := by
  obtain ⟨hz2, hll⟩ := live_keeps hz
  have hx2 : upB (liveG g).nodes x = true := by show upB (g.nodes.filter (·.up)) x = true; rw [(up_live _ _).1]; exact hx
  have hy2 : upB (liveG g).nodes y = true := by show upB (g.nodes.filter (·.up)) y = true; rw [(up_live _ _).1]; exact hy
  obtain ⟨a, a1, a2, a3, a4⟩ := up_id hz hx
  obtain ⟨b, b1, b2, b3, b4⟩ := up_id hz hy
  obtain ⟨c, c1, c2, c3, c4⟩ := up_id hz2 hx2
  obtain ⟨d, d1, d2, d3, d4⟩ := up_id hz2 hy2
  unfold dI
  rw [a2, b2, c2, d2]
  obtain ⟨-, p⟩ := dst_p hz hw lim b
  obtain ⟨-, q⟩ := dst_p hz2 hw.live lim d
  rw [if_pos b4] at p
  rw [if_pos d4] at q
  have e1 : idf g.nodes b = idf (liveG g).nodes d := by have := b3.trans d3.symm; omega
  have e2 : idf g.nodes a = idf (liveG g).nodes c := by have := a3.trans c3.symm; omega
  refine least_only p q (fun m => ?_)
  constructor
  · intro h
    have h1 := way_rn hz hw b1 h
    rw [e1, e2] at h1
    have h2 : Pq.Way (RN (liveG (liveG g)).links) (idf (liveG g).nodes d) (idf (liveG g).nodes c) m := by rw [hll]; exact h1
    obtain ⟨v, v1, v2, v3⟩ := rn_way hz2 hw.live d1 h2
    rw [idf_inj hz2 c1 v1 v2.symm]; exact v3
  · intro h
    have h1 := way_rn hz2 hw.live d1 h
    rw [hll, ← e1, ← e2] at h1
    obtain ⟨v, v1, v2, v3⟩ := rn_way hz hw b1 h1
    rw [idf_inj hz a1 v1 v2.symm]; exact v3
/-- One step on the way to a router's home. -/
noncomputable def homeS (g : Gr) (lim : Nat) (x : Int) (r : Int × Option Nat) (m : Nd) : Int × Option Nat := if m.up = true ∧ m.mark = true ∧ ltO (dI g lim m.id x) r.2 = true then (m.id, dI g lim m.id x) else r
noncomputable def homeK (g : Gr) (lim : Nat) (x : Int) (k : Nat) : Int × Option Nat := (g.nodes.take k).foldl (homeS g lim x) (0, none)
noncomputable def homeI (g : Gr) (lim : Nat) (x : Int) : Int × Option Nat := g.nodes.foldl (homeS g lim x) (0, none)
theorem homeK_go (g : Gr) (lim : Nat) (x : Int) {k : Nat} (hk : k < g.nodes.length) : homeK g lim x (k + 1) = homeS g lim x (homeK g lim x k) g.nodes[k] := by
  unfold homeK
  rw [List.take_succ_eq_append_getElem hk, List.foldl_append]; rfl
theorem homeK_all (g : Gr) (lim : Nat) (x : Int) {k : Nat} (hk : g.nodes.length ≤ k) : homeK g lim x k = homeI g lim x := by
  unfold homeK homeI
  rw [List.take_of_length_le hk]
theorem foldl_filter' {α β : Type} (p : α → Bool) (f : β → α → β) (hf : ∀ b a, p a = false → f b a = b) : ∀ (l : List α) (b : β), (l.filter p).foldl f b = l.foldl f b
  | [], _ => rfl
  | a :: l, b => by
    rw [List.foldl_cons]
    cases h : p a with
    | true => rw [List.filter_cons_of_pos h, List.foldl_cons, foldl_filter' p f hf l]
    | false => rw [List.filter_cons_of_neg (by simp [h]), hf b a h, foldl_filter' p f hf l]
theorem foldl_congr' {α β : Type} {f f2 : β → α → β} : ∀ (l : List α) (b : β), (∀ a ∈ l, ∀ b, f b a = f2 b a) → l.foldl f b = l.foldl f2 b
  | [], _, _ => rfl
  | a :: l, b, h => by
    rw [List.foldl_cons, List.foldl_cons, h a List.mem_cons_self b]
    exact foldl_congr' l _ (fun a ha b => h a (List.mem_cons_of_mem _ ha) b)
theorem mem_up {g : Gr} {m : Nd} (hm : m ∈ g.nodes) (hu : m.up = true) : upB g.nodes m.id = true := by
  unfold upB; rw [List.any_eq_true]; exact ⟨m, hm, by simp [hu]⟩
theorem home_live {g : Gr} (hz : checkG g = 0) (hw : Wts g) (lim : Nat) {x : Int} (hx : upB g.nodes x = true) : homeI g lim x = homeI (liveG g) lim x := by
  unfold homeI
  show _ = (g.nodes.filter (·.up)).foldl _ _
  rw [foldl_filter' (fun n : Nd => n.up) _ (fun b a ha => by unfold homeS; rw [if_neg (by rw [ha]; simp)])]
  refine foldl_congr' _ _ (fun m hm b => ?_)
  unfold homeS
  cases hu : m.up with
  | false => simp
  | true => rw [dI_live hz hw lim (mem_up hm hu) hx]
/-- What is known of a home: a landmark at that distance, or none. -/
theorem home_fact {g : Gr} (lim : Nat) (x : Int) : ∀ k, k ≤ g.nodes.length → ((homeK g lim x k).1 = 0 ∧ (homeK g lim x k).2 = none) ∨ ∃ m ∈ g.nodes, m.up = true ∧ m.mark = true ∧ (homeK g lim x k).1 = m.id ∧ (homeK g lim x k).2 = dI g lim m.id x ∧ (dI g lim m.id x).isSome = true := by
  intro k
  induction k with
  | zero => intro _; exact Or.inl ⟨rfl, rfl⟩
  | succ k ih =>
    intro hk
    rw [homeK_go g lim x (by omega)]
    unfold homeS
    split
    · rename_i h
      refine Or.inr ⟨_, List.getElem_mem (by omega), h.1, h.2.1, rfl, rfl, ?_⟩
      have h3 := h.2.2
      unfold ltO at h3
      cases e : dI g lim (g.nodes[k]).id x with
      | none => rw [e] at h3; simp at h3
      | some n => rfl
    · exact ih (by omega)
theorem home_is {g : Gr} (lim : Nat) (x : Int) : ((homeI g lim x).1 = 0 ∧ (homeI g lim x).2 = none) ∨ ∃ m ∈ g.nodes, m.up = true ∧ m.mark = true ∧ (homeI g lim x).1 = m.id ∧ (homeI g lim x).2 = dI g lim m.id x ∧ (dI g lim m.id x).isSome = true := by
  have := home_fact (g := g) lim x g.nodes.length (Nat.le_refl _)
  rw [homeK_all g lim x (Nat.le_refl _)] at this
  exact this
/-- The other end of a link. -/
def othE (y : Lk) (u : Int) : Int := y.a + y.b - u
theorem neigh_live {g : Gr} (hz : checkG g = 0) (x : Int) : neighL (liveG g) x = neighL g x := by
  unfold neighL
  show (g.links.filter (liveL g.nodes)).filter _ = _
  rw [List.filter_filter]
  apply List.filter_congr
  intro y hy
  have e : liveL (liveG g).nodes y = liveL g.nodes y := by
    show liveL (g.nodes.filter (·.up)) y = _
    unfold liveL; rw [(up_live _ _).1, (up_live _ _).1]
  rw [e]
  cases liveL g.nodes y <;> simp
theorem neigh_mem {g : Gr} (hz : checkG g = 0) {x : Int} {y : Lk} (h : y ∈ neighL g x) : y ∈ g.links ∧ y.up = true ∧ upB g.nodes y.a = true ∧ upB g.nodes y.b = true ∧ ((y.a = x ∧ othE y x = y.b) ∨ (y.b = x ∧ othE y x = y.a)) := by
  unfold neighL at h
  obtain ⟨h1, h2⟩ := List.mem_filter.1 h
  simp only [Bool.and_eq_true, Bool.or_eq_true, beq_iff_eq] at h2
  obtain ⟨h3, h4⟩ := h2
  unfold liveL at h4
  simp only [Bool.and_eq_true] at h4
  refine ⟨h1, h4.1.1, h4.1.2, h4.2, ?_⟩
  unfold othE
  rcases h3 with e | e
  · exact Or.inl ⟨e, by omega⟩
  · exact Or.inr ⟨e, by omega⟩
theorem oth_up {g : Gr} (hz : checkG g = 0) {x : Int} {y : Lk} (h : y ∈ neighL g x) : upB g.nodes (othE y x) = true := by
  obtain ⟨-, -, h3, h4, h5⟩ := neigh_mem hz h
  rcases h5 with ⟨-, e⟩ | ⟨-, e⟩ <;> rw [e] <;> assumption
/-- The first hop: the least neighbour by which one is nearer. -/
noncomputable def fitN (g : Gr) (lim : Nat) (u w : Int) (n : Nat) (y : Lk) : Bool := sumIs (dI g lim (othE y u) w) (qn y.w) n
noncomputable def nextI (g : Gr) (lim : Nat) (u w : Int) : Int := match dI g lim u w with
  | none => 0
  | some n => match (neighL g u).find? (fitN g lim u w n) with
    | some y => othE y u
    | none => 0
/-- Is a neighbour not too far? -/
noncomputable def nearI (g : Gr) (lim : Nat) (u w : Int) : Bool := (neighL g u).any (fun y => (dI g lim (othE y u) w).isSome)
theorem find_congr' {α : Type} {p q : α → Bool} : ∀ (l : List α), (∀ a ∈ l, p a = q a) → l.find? p = l.find? q
  | [], _ => rfl
  | a :: l, h => by
    rw [List.find?_cons, List.find?_cons, h a List.mem_cons_self, find_congr' l (fun b hb => h b (List.mem_cons_of_mem _ hb))]
theorem next_live {g : Gr} (hz : checkG g = 0) (hw : Wts g) (lim : Nat) {u w : Int} (hu : upB g.nodes u = true) (hww : upB g.nodes w = true) : nextI g lim u w = nextI (liveG g) lim u w := by
  unfold nextI
  rw [← dI_live hz hw lim hu hww, neigh_live hz]
  cases dI g lim u w with
  | none => rfl
  | some n =>
    simp only
    rw [find_congr' (q := fitN (liveG g) lim u w n) (neighL g u) (fun y hy => by unfold fitN; rw [dI_live hz hw lim (oth_up hz hy) hww])]
theorem any_congr' {α : Type} {p q : α → Bool} (l : List α) (h : ∀ a ∈ l, p a = q a) : l.any p = l.any q := by
  induction l with
  | nil => rfl
  | cons a l ih => rw [List.any_cons, List.any_cons, h a List.mem_cons_self, ih (fun b hb => h b (List.mem_cons_of_mem _ hb))]
theorem near_live {g : Gr} (hz : checkG g = 0) (hw : Wts g) (lim : Nat) {u w : Int} (hww : upB g.nodes w = true) : nearI g lim u w = nearI (liveG g) lim u w := by
  unfold nearI
  rw [neigh_live hz]
  exact any_congr' _ (fun y hy => by rw [dI_live hz hw lim (oth_up hz hy) hww])
/-- An entry. -/
structure En where
  dest : Int
  kind : Int
  dist : Option Nat
  next : Int
  radius : Option Nat
  home : Int
/-- What u's table has of a router. -/
noncomputable def kindI (g : Gr) (lim : Nat) (u : Int) (w : Nd) : Int :=
  if w.mark = true then (if dI g lim u w.id = none ∧ nearI g lim u w.id = false then 0 else 1)
  else if ltO (dI g lim u w.id) (homeI g lim w.id).2 = true then 2
  else if u = (homeI g lim w.id).1 then 3 else 0
noncomputable def enI (g : Gr) (lim : Nat) (u : Int) (w : Nd) : En := if w.mark = true then ⟨w.id, kindI g lim u w, dI g lim u w.id, nextI g lim u w.id, some 0, 0⟩ else ⟨w.id, kindI g lim u w, dI g lim u w.id, nextI g lim u w.id, (homeI g lim w.id).2, (homeI g lim w.id).1⟩
noncomputable def pickI (g : Gr) (lim : Nat) (u : Int) (k : Int) (w : Nd) : List En := if w.up = true ∧ w.id ≠ u ∧ kindI g lim u w = k then [enI g lim u w] else []
noncomputable def tabK (g : Gr) (lim : Nat) (u : Int) (k : Int) (i : Nat) : List En := (g.nodes.take i).flatMap (pickI g lim u k)
noncomputable def tabI (g : Gr) (lim : Nat) (u : Int) : List En := tabK g lim u 1 g.nodes.length ++ tabK g lim u 2 g.nodes.length ++ tabK g lim u 3 g.nodes.length
theorem tabK_go (g : Gr) (lim : Nat) (u k : Int) {i : Nat} (hi : i < g.nodes.length) : tabK g lim u k (i + 1) = tabK g lim u k i ++ pickI g lim u k g.nodes[i] := by
  unfold tabK
  rw [List.take_succ_eq_append_getElem hi, List.flatMap_append, List.flatMap_singleton]
theorem kind_live {g : Gr} (hz : checkG g = 0) (hw : Wts g) (lim : Nat) {u : Int} (hu : upB g.nodes u = true) {w : Nd} (hm : w ∈ g.nodes) (hup : w.up = true) : kindI g lim u w = kindI (liveG g) lim u w := by
  have hx := mem_up hm hup
  unfold kindI
  rw [dI_live hz hw lim hu hx, near_live hz hw lim hx, home_live hz hw lim hx]
theorem en_live {g : Gr} (hz : checkG g = 0) (hw : Wts g) (lim : Nat) {u : Int} (hu : upB g.nodes u = true) {w : Nd} (hm : w ∈ g.nodes) (hup : w.up = true) : enI g lim u w = enI (liveG g) lim u w := by
  have hx := mem_up hm hup
  unfold enI
  rw [kind_live hz hw lim hu hm hup, dI_live hz hw lim hu hx, next_live hz hw lim hu hx, home_live hz hw lim hx]
theorem flat_filter' {α β : Type} (p : α → Bool) (f : α → List β) (hf : ∀ a, p a = false → f a = []) : ∀ l : List α, (l.filter p).flatMap f = l.flatMap f
  | [] => rfl
  | a :: l => by
    rw [List.flatMap_cons]
    cases h : p a with
    | true => rw [List.filter_cons_of_pos h, List.flatMap_cons, flat_filter' p f hf l]
    | false => rw [List.filter_cons_of_neg (by simp [h]), hf a h, flat_filter' p f hf l, List.nil_append]
theorem flat_congr' {α β : Type} {f f2 : α → List β} (l : List α) (h : ∀ a ∈ l, f a = f2 a) : l.flatMap f = l.flatMap f2 := by
  induction l with
  | nil => rfl
  | cons a l ih => rw [List.flatMap_cons, List.flatMap_cons, h a List.mem_cons_self, ih (fun b hb => h b (List.mem_cons_of_mem _ hb))]
theorem tab_all (g : Gr) (lim : Nat) (u k : Int) {i : Nat} (hi : g.nodes.length ≤ i) : tabK g lim u k i = g.nodes.flatMap (pickI g lim u k) := by
  unfold tabK; rw [List.take_of_length_le hi]
theorem tab_live {g : Gr} (hz : checkG g = 0) (hw : Wts g) (lim : Nat) {u : Int} (hu : upB g.nodes u = true) : tabI g lim u = tabI (liveG g) lim u := by
  have key : ∀ k, tabK g lim u k g.nodes.length = tabK (liveG g) lim u k (liveG g).nodes.length := by
    intro k
    rw [tab_all g lim u k (Nat.le_refl _), tab_all (liveG g) lim u k (Nat.le_refl _)]
    show _ = (g.nodes.filter (·.up)).flatMap _
    rw [flat_filter' (fun n : Nd => n.up) _ (fun a ha => by unfold pickI; rw [if_neg (by rw [ha]; simp)])]
    refine flat_congr' _ (fun w hm => ?_)
    unfold pickI
    cases hup : w.up with
    | false => simp
    | true => rw [kind_live hz hw lim hu hm hup, en_live hz hw lim hu hm hup]
  unfold tabI
  rw [key, key, key]
theorem flat_if {α β : Type} (p : α → Bool) (f : α → β) : ∀ l : List α, l.flatMap (fun y => if p y = true then [f y] else []) = (l.filter p).map f
  | [] => rfl
  | a :: l => by
    rw [List.flatMap_cons, flat_if p f l]
    cases h : p a with
    | true => rw [List.filter_cons_of_pos h]; simp
    | false => rw [List.filter_cons_of_neg (by simp [h])]; simp
/-- The hops of a router are its live links. -/
theorem rds_neigh {g : Gr} (hz : checkG g = 0) {u : Nat} (hu : u < g.nodes.length) : rds g.nodes (liveG g).links u = (neighL g (idf g.nodes u : Int)).map (fun y => (Nq.ahead g.nodes (othE y (idf g.nodes u : Int)), qn y.w)) := by
  have n3 := (check_zero.1 hz).2.2.1
  have e : neighL g (idf g.nodes u : Int) = (liveG g).links.filter (fun y => y.a == (idf g.nodes u : Int) || y.b == (idf g.nodes u : Int)) := by
    unfold neighL
    show _ = (g.links.filter (liveL g.nodes)).filter _
    rw [List.filter_filter]
  rw [e, ← flat_if]
  unfold rds
  refine flat_congr' _ (fun y hy => ?_)
  obtain ⟨l1, l2, l3, l4, l5, -⟩ := live_ends hz hy
  have ia := (id_at n3 l1).1
  have ib := (id_at n3 l2).1
  obtain ⟨u1, u2⟩ := aheadOf n3 hu
  unfold lkRd othE
  by_cases ea : Nq.ahead g.nodes y.a = u
  · have e1 : y.a = (idf g.nodes u : Int) := by rw [← ea]; exact ia.symm
    have e2 : y.a + y.b - (idf g.nodes u : Int) = y.b := by omega
    rw [if_pos ea, if_neg (by omega), if_pos (by simp [e1]), e2, List.append_nil]
  · have e1 : y.a ≠ (idf g.nodes u : Int) := fun h => ea (by rw [h, u2])
    rw [if_neg ea]
    by_cases eb : Nq.ahead g.nodes y.b = u
    · have e3 : y.b = (idf g.nodes u : Int) := by rw [← eb]; exact ib.symm
      have e2 : y.a + y.b - (idf g.nodes u : Int) = y.a := by omega
      rw [if_pos eb, if_pos (by simp [e3]), e2, List.nil_append]
    · have e3 : y.b ≠ (idf g.nodes u : Int) := fun h => eb (by rw [h, u2])
      rw [if_neg eb, if_neg (by simp [e1, e3]), List.nil_append]
/-- The first hop that fits, of a row. -/
noncomputable def nxR (g : Gr) (d : List (Option Nat)) (n : Nat) : List Rd → Int
  | [] => 0
  | r :: l => if sumIs (g_ d r.1) r.2 n = true then (idf g.nodes r.1 : Int) else nxR g d n l
theorem next_rds {g : Gr} (hz : checkG g = 0) (lim : Nat) {s t : Nat} (hs : s < g.nodes.length) (ht : t < g.nodes.length) : nextI g lim (idf g.nodes s : Int) (idf g.nodes t : Int) = match g_ (dst g lim t) s with
    | none => 0
    | some n => nxR g (dst g lim t) n (rds g.nodes (liveG g).links s) := by
  have n3 := (check_zero.1 hz).2.2.1
  unfold nextI
  rw [dI_at hz lim hs ht]
  cases g_ (dst g lim t) s with
  | none => rfl
  | some n =>
    simp only
    rw [rds_neigh hz hs]
    have key : ∀ l : List Lk, (∀ y ∈ l, y ∈ neighL g (idf g.nodes s : Int)) → (match l.find? (fitN g lim (idf g.nodes s : Int) (idf g.nodes t : Int) n) with | some y => othE y (idf g.nodes s : Int) | none => 0) = nxR g (dst g lim t) n (l.map (fun y => (Nq.ahead g.nodes (othE y (idf g.nodes s : Int)), qn y.w))) := by
      intro l
      induction l with
      | nil => intro _; rfl
      | cons y l ih =>
        intro hl
        have hy := hl y List.mem_cons_self
        obtain ⟨o, o1, o2, o3, -⟩ := up_id hz (oth_up hz hy)
        rw [List.find?_cons, List.map_cons]
        show _ = (if sumIs (g_ (dst g lim t) (Nq.ahead g.nodes (othE y (idf g.nodes s : Int)))) (qn y.w) n = true then (idf g.nodes (Nq.ahead g.nodes (othE y (idf g.nodes s : Int))) : Int) else _)
        have e : fitN g lim (idf g.nodes s : Int) (idf g.nodes t : Int) n y = sumIs (g_ (dst g lim t) (Nq.ahead g.nodes (othE y (idf g.nodes s : Int)))) (qn y.w) n := by
          unfold fitN dI
          rw [(aheadOf n3 ht).2]
        rw [e]
        cases hq : sumIs (g_ (dst g lim t) (Nq.ahead g.nodes (othE y (idf g.nodes s : Int)))) (qn y.w) n with
        | true => simp only [if_true]; rw [o2, o3]
        | false => simp only [Bool.false_eq_true, if_false]; exact ih (fun z hz' => hl z (List.mem_cons_of_mem _ hz'))
    exact key _ (fun y h => h)
theorem near_rds {g : Gr} (hz : checkG g = 0) (lim : Nat) {s t : Nat} (hs : s < g.nodes.length) (ht : t < g.nodes.length) : nearI g lim (idf g.nodes s : Int) (idf g.nodes t : Int) = (rds g.nodes (liveG g).links s).any (fun r => (g_ (dst g lim t) r.1).isSome) := by
  have n3 := (check_zero.1 hz).2.2.1
  unfold nearI
  rw [rds_neigh hz hs, List.any_map]
  refine any_congr' _ (fun y hy => ?_)
  unfold dI
  rw [(aheadOf n3 ht).2]; rfl
theorem tabK_len (g : Gr) (lim : Nat) (u k : Int) (i : Nat) : (tabK g lim u k i).length ≤ i := by
  unfold tabK
  have : ∀ l : List Nd, (l.flatMap (pickI g lim u k)).length ≤ l.length := fun l => by
    induction l with
    | nil => exact Nat.le_refl _
    | cons n r ih =>
      rw [List.flatMap_cons, List.length_append, List.length_cons]
      have : (pickI g lim u k n).length ≤ 1 := by unfold pickI; split <;> simp
      omega
  refine Nat.le_trans (this _) ?_
  rw [List.length_take]; omega
theorem kind_cases (g : Gr) (lim : Nat) (u : Int) (w : Nd) : (kindI g lim u w = 0) ∨ (kindI g lim u w = 1 ∧ w.mark = true) ∨ (kindI g lim u w = 2 ∧ w.mark = false) ∨ (kindI g lim u w = 3 ∧ w.mark = false) := by
  unfold kindI
  cases w.mark with
  | true =>
    simp only [if_true]
    split
    · exact Or.inl rfl
    · exact Or.inr (Or.inl ⟨rfl, trivial⟩)
  | false =>
    simp only [Bool.false_eq_true, if_false]
    split
    · exact Or.inr (Or.inr (Or.inl ⟨rfl, trivial⟩))
    · split
      · exact Or.inr (Or.inr (Or.inr ⟨rfl, trivial⟩))
      · exact Or.inl rfl
end Go.Bq
end

section
namespace Go.Bq
open Go.Fq Go.Nq Go.Iq Go.Pq
set_option linter.unusedVariables false
set_option linter.unusedSimpArgs false

def paG : Gr := ⟨[⟨1, true, true⟩, ⟨2, true, false⟩, ⟨3, true, false⟩, ⟨4, true, false⟩], [⟨1, 2, 4607182418800017408, true⟩, ⟨2, 3, 4607182418800017408, true⟩, ⟨3, 4, 4607182418800017408, true⟩]⟩
theorem pa_check : checkG paG = 0 := by decide +kernel
theorem pa_wts : Wts paG := by
  have : ∀ y ∈ paG.links, y.w < 2 ^ 64 := by decide
  exact this
theorem pa_live : liveG paG = paG := by
  have h1 : (liveG paG).nodes = paG.nodes := by decide +kernel
  have h2 : (liveG paG).links = paG.links := by decide +kernel
  cases h : liveG paG with
  | mk a b => rw [h] at h1 h2; simp only at h1 h2; rw [h1, h2]
theorem pa_r0 : rds paG.nodes (liveG paG).links 0 = [(1, 4)] := by decide +kernel
theorem pa_r1 : rds paG.nodes (liveG paG).links 1 = [(0, 4), (2, 4)] := by decide +kernel
theorem pa_r2 : rds paG.nodes (liveG paG).links 2 = [(1, 4), (3, 4)] := by decide +kernel
theorem pa_r3 : rds paG.nodes (liveG paG).links 3 = [(2, 4)] := by decide +kernel
theorem pa_road {u v w : Nat} (h : Pq.Road paG u v w) : w = 4 ∧ u < 4 ∧ v < 4 ∧ (v = u + 1 ∨ u = v + 1) := by
  have hb := (road_bd pa_check pa_wts h).1
  have hb1 : u < 4 := hb
  have hc : u = 0 ∨ u = 1 ∨ u = 2 ∨ u = 3 := by omega
  unfold Pq.Road at h
  rcases hc with rfl | rfl | rfl | rfl
  · rw [pa_r0] at h
    simp only [List.mem_cons, Prod.mk.injEq, List.not_mem_nil, or_false] at h
    omega
  · rw [pa_r1] at h
    simp only [List.mem_cons, Prod.mk.injEq, List.not_mem_nil, or_false] at h
    omega
  · rw [pa_r2] at h
    simp only [List.mem_cons, Prod.mk.injEq, List.not_mem_nil, or_false] at h
    omega
  · rw [pa_r3] at h
    simp only [List.mem_cons, Prod.mk.injEq, List.not_mem_nil, or_false] at h
    omega
theorem pa_on {u : Nat} (h : u < 3) : Pq.Road paG u (u + 1) 4 := by
  have hc : u = 0 ∨ u = 1 ∨ u = 2 := by omega
  unfold Pq.Road
  rcases hc with rfl | rfl | rfl
  · rw [pa_r0]; decide
  · rw [pa_r1]; decide
  · rw [pa_r2]; decide
theorem pa_up (s : Nat) : ∀ k, s + k < 4 → Pq.Way (Pq.Road paG) s (s + k) (4 * k) := by
  intro k
  induction k with
  | zero => intro _; exact .nil
  | succ k ih =>
    intro h
    have := Pq.Way.cons (ih (by omega)) (pa_on (u := s + k) (by omega))
    exact this
theorem pa_way {s v : Nat} (hs : s < 4) (hv : v < 4) : Pq.Way (Pq.Road paG) s v (4 * (s - v + (v - s))) := by
  by_cases h : s ≤ v
  · have := pa_up s (v - s) (by omega)
    rw [show s + (v - s) = v by omega] at this
    rw [show s - v + (v - s) = v - s by omega]
    exact this
  · have := pa_up v (s - v) (by omega)
    rw [show v + (s - v) = s by omega] at this
    rw [show s - v + (v - s) = s - v by omega]
    exact Pq.Way.back (R := Pq.Road paG) (fun u v w hr => road_sym hr) this
def paD (s : Nat) : List (Option Nat) := (List.range 4).map (fun v => some (4 * (s - v + (v - s))))
theorem paD_at (s : Nat) {v : Nat} (h : v < 4) : g_ (paD s) v = some (4 * (s - v + (v - s))) := by
  unfold paD g_; simp [List.getD_eq_getElem?_getD, h]
theorem pa_dists {s : Nat} (hs : s < 4) : DistsP paG s 40 (paD s) := by
  refine ⟨by simp [paD, paG], ?_⟩
  have hu : upAt paG.nodes s = true := by
    have hc : s = 0 ∨ s = 1 ∨ s = 2 ∨ s = 3 := by omega
    rcases hc with rfl | rfl | rfl | rfl <;> decide
  rw [if_pos hu]
  have key : ∀ v n, g_ (paD s) v = some n → v < 4 ∧ n = 4 * (s - v + (v - s)) := by
    intro v n h
    by_cases hv : v < 4
    · rw [paD_at s hv] at h; simp only [Option.some.injEq] at h; exact ⟨hv, h.symm⟩
    · rw [g_far (by simpa [paD] using hv)] at h; cases h
  refine least_of_fixed ?_ (fun v n hv => ?_) (fun u v w n hr hd hl => ?_)
  · rw [paD_at s hs]; simp
  · obtain ⟨h1, rfl⟩ := key v n hv
    exact ⟨pa_way hs h1, by omega⟩
  · obtain ⟨h1, rfl⟩ := key u n hd
    obtain ⟨rfl, -, h3, h4⟩ := pa_road hr
    exact ⟨_, paD_at s h3, by omega⟩
theorem pa_dst {s : Nat} (hs : s < 4) : dst paG 40 s = paD s := (dst_is pa_check pa_wts (pa_dists hs)).symm
theorem pa_ahead : Nq.ahead paG.nodes 1 = 0 ∧ Nq.ahead paG.nodes 2 = 1 ∧ Nq.ahead paG.nodes 3 = 2 ∧ Nq.ahead paG.nodes 4 = 3 := by decide
theorem pa_home3 : homeI paG 40 3 = (1, some 8) := by
  obtain ⟨e1, e2, e3, e4⟩ := pa_ahead
  unfold homeI homeS dI
  rw [e3, pa_dst (by omega)]
  show (List.foldl _ _ [_, _, _, _]) = _
  simp only [List.foldl_cons, List.foldl_nil, e1, paD_at 2 (show 0 < 4 by omega)]
  simp [ltO]
theorem pa_home4 : homeI paG 40 4 = (1, some 12) := by
  obtain ⟨e1, e2, e3, e4⟩ := pa_ahead
  unfold homeI homeS dI
  rw [e4, pa_dst (by omega)]
  show (List.foldl _ _ [_, _, _, _]) = _
  simp only [List.foldl_cons, List.foldl_nil, e1, paD_at 3 (show 0 < 4 by omega)]
  simp [ltO]
theorem pa_d {x y : Int} {s t : Nat} (hs : Nq.ahead paG.nodes x = s) (ht : Nq.ahead paG.nodes y = t) (h1 : s < 4) (h2 : t < 4) : dI paG 40 x y = some (4 * (t - s + (s - t))) := by
  unfold dI
  rw [hs, ht, pa_dst h2, paD_at t h1]
theorem pa_k1 : kindI paG 40 2 ⟨1, true, true⟩ = 1 := by
  unfold kindI
  rw [if_pos rfl]
  simp only
  rw [pa_d pa_ahead.2.1 pa_ahead.1 (by omega) (by omega)]
  simp
theorem pa_k3 : kindI paG 40 2 ⟨3, true, false⟩ = 2 := by
  unfold kindI
  simp only
  rw [if_neg (by decide), pa_d pa_ahead.2.1 pa_ahead.2.2.1 (by omega) (by omega), pa_home3]
  simp [ltO]
theorem pa_k4 : kindI paG 40 2 ⟨4, true, false⟩ = 2 := by
  unfold kindI
  simp only
  rw [if_neg (by decide), pa_d pa_ahead.2.1 pa_ahead.2.2.2 (by omega) (by omega), pa_home4]
  simp [ltO]
theorem pa_pick (k : Int) : tabK paG 40 2 k 4 = pickI paG 40 2 k ⟨1, true, true⟩ ++ (pickI paG 40 2 k ⟨2, true, false⟩ ++ (pickI paG 40 2 k ⟨3, true, false⟩ ++ (pickI paG 40 2 k ⟨4, true, false⟩ ++ []))) := rfl
theorem pa_table : ∃ e1 e2 e3 : En, tabI paG 40 2 = [e1, e2, e3] ∧ e1.kind = 1 ∧ e1.dest = 1 ∧ e2.kind = 2 ∧ e2.dest = 3 ∧ e3.dest = 4 := by
  refine ⟨enI paG 40 2 ⟨1, true, true⟩, enI paG 40 2 ⟨3, true, false⟩, enI paG 40 2 ⟨4, true, false⟩, ?_, ?_, ?_, ?_, ?_, ?_⟩
  · unfold tabI
    show tabK paG 40 2 1 4 ++ tabK paG 40 2 2 4 ++ tabK paG 40 2 3 4 = _
    rw [pa_pick, pa_pick, pa_pick]
    unfold pickI
    simp only [pa_k1, pa_k3, pa_k4]
    simp
  · unfold enI; rw [if_pos rfl]; exact pa_k1
  · unfold enI; rw [if_pos rfl]
  · unfold enI; rw [if_neg (by decide)]; exact pa_k3
  · unfold enI; rw [if_neg (by decide)]
  · unfold enI; rw [if_neg (by decide)]
end Go.Bq
end

section
namespace Go.Bq
open Go.Fq Go.Nq Go.Iq Go.Pq

theorem dI_self {g : Gr} (hz : checkG g = 0) (hw : Wts g) {lim : Nat} (hl : 0 < lim) {x : Int} (hx : upB g.nodes x = true) : dI g lim x x = some 0 := by
  obtain ⟨a, a1, a2, a3, a4⟩ := up_id hz hx
  obtain ⟨-, p⟩ := dst_p hz hw lim a
  rw [if_pos a4] at p
  unfold dI; rw [a2]
  cases e : g_ (dst g lim a) a with
  | none => have := (p a).2 e 0 .nil; omega
  | some n => have := ((p a).1 n e).2.2 0 .nil; congr 1; omega
/-- Does u know a router? -/
noncomputable def knI (g : Gr) (lim : Nat) (u : Int) (m : Nd) : Bool := decide (u = m.id) || (kindI g lim u m != 0 && (dI g lim u m.id).isSome)
end Go.Bq
end
