/- Balls: who knows a router tells the next hop, and that one knows it, too, nearer by the link's weight. -/
import Derived.Test.YtjlfpjjfldbknaaGreatBqA
namespace Go.Bq
open Go.Fq Go.Nq Go.Iq Go.Pq Ieee
set_option linter.unusedVariables false
set_option linter.unusedSimpArgs false

theorem fit_exists {g : Gr} (hz : checkG g = 0) (hw : Wts g) {lim s t n : Nat} (hup : upAt g.nodes t = true) (h : g_ (dst g lim t) s = some n) (hne : s ≠ t) : ∃ r ∈ rds g.nodes (liveG g).links s, sumIs (g_ (dst g lim t) r.1) r.2 n = true := by
  obtain ⟨-, p⟩ := dst_p hz hw lim t
  rw [if_pos hup] at p
  obtain ⟨hway, hlt, hle⟩ := (p s).1 n h
  cases hway with
  | nil => exact absurd rfl hne
  | @cons u v n' w' h1 hr =>
    refine ⟨(u, w'), road_sym hr, ?_⟩
    show sumIs (g_ (dst g lim t) u) w' (n' + w') = true
    cases e : g_ (dst g lim t) u with
    | none => have := (p u).2 e n' h1; omega
    | some m =>
      obtain ⟨m1, m2, m3⟩ := (p u).1 m e
      have a1 := m3 n' h1
      have a2 := hle (m + w') (.cons m1 hr)
      unfold sumIs
      simp only [decide_eq_true_eq]; omega
theorem neigh_rise {g : Gr} (hz : checkG g = 0) {u : Int} (hu : upB g.nodes u = true) : (neighL g u).Pairwise (fun y z => othE y u < othE z u) := by
  obtain ⟨s, s1, s2, s3, s4⟩ := up_id hz hu
  have h := rds_rise hz s
  rw [rds_neigh hz s1, s3] at h
  rw [List.pairwise_map] at h
  refine h.imp_of_mem (fun {y z} hy hz' hlt => ?_)
  obtain ⟨a, a1, a2, a3, -⟩ := up_id hz (oth_up hz hy)
  obtain ⟨b, b1, b2, b3, -⟩ := up_id hz (oth_up hz hz')
  simp only at hlt
  rw [a2, b2] at hlt
  rw [← a3, ← b3]; omega
theorem find_rise {α : Type} (f : α → Int) : ∀ (l : List α) (y : α), l.Pairwise (fun a b => f a < f b) → y ∈ l → l.find? (fun z => f z == f y) = some y
  | [], y, _, h => by cases h
  | a :: l, y, hp, h => by
    rw [List.pairwise_cons] at hp
    rw [List.find?_cons]
    rcases List.mem_cons.1 h with rfl | h
    · simp
    · have := hp.1 y h
      have e : (f a == f y) = false := by simp; omega
      rw [e]
      exact find_rise f l y hp.2 h
/-- The weight of the link to a neighbour. -/
def wtO (g : Gr) (u b : Int) : Nat := match (neighL g u).find? (fun z => othE z u == b) with
  | some y => y.w
  | none => 0
theorem next_fact {g : Gr} (hz : checkG g = 0) (hw : Wts g) {lim : Nat} {u w : Int} (hu : upB g.nodes u = true) (hww : upB g.nodes w = true) (hne : u ≠ w) {n : Nat} (h : dI g lim u w = some n) :
    upB g.nodes (nextI g lim u w) = true ∧ ∃ c m, wtO g u (nextI g lim u w) = qw c ∧ 0 < c ∧ c ≤ 4294967296 ∧ dI g lim (nextI g lim u w) w = some m ∧ m + c = n := by
  obtain ⟨s, s1, s2, s3, s4⟩ := up_id hz hu
  obtain ⟨t, t1, t2, t3, t4⟩ := up_id hz hww
  have hst : s ≠ t := fun e => hne (by rw [← s3, ← t3, e])
  have hd : g_ (dst g lim t) s = some n := by unfold dI at h; rwa [s2, t2] at h
  obtain ⟨r, r1, r2⟩ := fit_exists hz hw t4 hd hst
  rw [rds_neigh hz s1, s3, List.mem_map] at r1
  obtain ⟨y, y1, rfl⟩ := r1
  have hfit : fitN g lim u w n y = true := by unfold fitN dI; rw [t2]; exact r2
  have hnx : nextI g lim u w = match (neighL g u).find? (fitN g lim u w n) with | some y => othE y u | none => 0 := by unfold nextI; rw [h]; rfl
  cases hf : (neighL g u).find? (fitN g lim u w n) with
  | none => rw [List.find?_eq_none] at hf; exact absurd hfit (hf y y1)
  | some z =>
    rw [hf] at hnx
    have hzm := List.mem_of_find?_eq_some hf
    have hzf := List.find?_some hf
    rw [hnx]
    refine ⟨oth_up hz hzm, qn z.w, ?_⟩
    have hq : ∃ q, 0 < q ∧ q ≤ 4294967296 ∧ z.w = qw q ∧ qn z.w = q := by
      obtain ⟨h1, h2, h3, h4, -⟩ := neigh_mem hz hzm
      have hl : z ∈ (liveG g).links := List.mem_filter.2 ⟨h1, by unfold liveL; rw [h2, h3, h4]; rfl⟩
      obtain ⟨-, -, -, -, -, -, -, a6, a7⟩ := live_ends hz hl
      obtain ⟨q, q1, q2, q3⟩ := weight_q z.w (hw z a7) a6
      exact ⟨q, by omega, by omega, q3, by rw [q3]; exact qn_qw (by omega)⟩
    obtain ⟨q, q1, q2, q3, q4⟩ := hq
    unfold fitN sumIs at hzf
    cases e : dI g lim (othE z u) w with
    | none => rw [e] at hzf; cases hzf
    | some m =>
      rw [e] at hzf
      simp only [decide_eq_true_eq] at hzf
      refine ⟨m, ?_, by omega, by omega, rfl, hzf⟩
      unfold wtO
      rw [find_rise (fun z => othE z u) _ z (neigh_rise hz hu) hzm, q4]
      exact q3
/-- What an entry is. -/
theorem tab_mem {g : Gr} {lim : Nat} {u : Int} {e : En} (h : e ∈ tabI g lim u) : ∃ m ∈ g.nodes, m.up = true ∧ m.id ≠ u ∧ kindI g lim u m ≠ 0 ∧ e = enI g lim u m := by
  have key : ∀ k : Int, k ≠ 0 → ∀ e ∈ tabK g lim u k g.nodes.length, ∃ m ∈ g.nodes, m.up = true ∧ m.id ≠ u ∧ kindI g lim u m ≠ 0 ∧ e = enI g lim u m := by
    intro k hk e he
    rw [tab_all g lim u k (Nat.le_refl _)] at he
    obtain ⟨m, m1, m2⟩ := List.mem_flatMap.1 he
    unfold pickI at m2
    split at m2
    · rename_i h
      rw [List.mem_singleton] at m2
      exact ⟨m, m1, h.1, h.2.1, by rw [h.2.2]; exact hk, m2⟩
    · cases m2
  unfold tabI at h
  rcases List.mem_append.1 h with h | h
  · rcases List.mem_append.1 h with h | h
    · exact key 1 (by decide) e h
    · exact key 2 (by decide) e h
  · exact key 3 (by decide) e h
theorem mem_tab {g : Gr} {lim : Nat} {u : Int} {m : Nd} (hm : m ∈ g.nodes) (hup : m.up = true) (hne : m.id ≠ u) (hk : kindI g lim u m ≠ 0) : enI g lim u m ∈ tabI g lim u := by
  have key : ∀ k : Int, kindI g lim u m = k → enI g lim u m ∈ tabK g lim u k g.nodes.length := by
    intro k hk
    rw [tab_all g lim u k (Nat.le_refl _)]
    refine List.mem_flatMap.2 ⟨m, hm, ?_⟩
    unfold pickI
    rw [if_pos ⟨hup, hne, hk⟩]; simp
  unfold tabI
  rcases kind_cases g lim u m with h | ⟨h, -⟩ | ⟨h, -⟩ | ⟨h, -⟩
  · exact absurd h hk
  · exact List.mem_append_left _ (List.mem_append_left _ (key 1 h))
  · exact List.mem_append_left _ (List.mem_append_right _ (key 2 h))
  · exact List.mem_append_right _ (key 3 h)
theorem en_parts (g : Gr) (lim : Nat) (u : Int) (m : Nd) : (enI g lim u m).dest = m.id ∧ (enI g lim u m).dist = dI g lim u m.id ∧ (enI g lim u m).next = nextI g lim u m.id ∧ (enI g lim u m).kind = kindI g lim u m := by
  unfold enI; split <;> exact ⟨rfl, rfl, rfl, rfl⟩
/-- What the law asks of each entry. -/
theorem on_fact {g : Gr} (hz : checkG g = 0) (hw : Wts g) {lim : Nat} (hl : 0 < lim) {u : Int} (hu : upB g.nodes u = true) {e : En} (he : e ∈ tabI g lim u) :
    (e.dist = none ∧ e.kind = 1 ∧ e.next = 0) ∨ ∃ n c m, e.dist = some n ∧ upB g.nodes e.next = true ∧ wtO g u e.next = qw c ∧ 0 < c ∧ c ≤ 4294967296 ∧ m + c = n ∧
      ((e.next = e.dest ∧ m = 0) ∨ (e.next ≠ e.dest ∧ ∃ x ∈ tabI g lim e.next, x.dest = e.dest ∧ x.dist = some m)) := by
  obtain ⟨d, d1, d2, d3, d4, rfl⟩ := tab_mem he
  obtain ⟨p1, p2, p3, p4⟩ := en_parts g lim u d
  have hdu := mem_up d1 d2
  rw [p1, p2, p3, p4]
  cases hd : dI g lim u d.id with
  | none =>
    refine Or.inl ⟨rfl, ?_, by unfold nextI; rw [hd]⟩
    unfold kindI at d4 ⊢
    rw [hd] at d4 ⊢
    by_cases hk : d.mark = true
    · rw [if_pos hk] at d4 ⊢
      by_cases hn : nearI g lim u d.id = false
      · rw [if_pos ⟨rfl, hn⟩] at d4; exact absurd rfl d4
      · rw [if_neg (fun h => hn h.2)]
    · rw [if_neg hk] at d4
      have e1 : ltO none (homeI g lim d.id).2 = false := rfl
      rw [e1, if_neg (by decide)] at d4
      by_cases hh : u = (homeI g lim d.id).1
      · rcases home_is (g := g) lim d.id with ⟨h1, -⟩ | ⟨k, k1, k2, k3, k4, k5, k6⟩
        · have := (idf_is (check_zero.1 hz).2.2.1 (up_id hz hu).choose_spec.1).2.1
          have h3 := (up_id hz hu).choose_spec.2.2.1
          rw [h1] at hh; omega
        · rw [k4] at hh; subst hh
          rw [hd] at k6; cases k6
      · rw [if_neg hh] at d4; exact absurd rfl d4
  | some n =>
    obtain ⟨nu, c, m, c1, c2, c3, c4, c5⟩ := next_fact hz hw hu hdu (Ne.symm d3) hd
    refine Or.inr ⟨n, c, m, rfl, nu, c1, c2, c3, c5, ?_⟩
    by_cases hx : nextI g lim u d.id = d.id
    · refine Or.inl ⟨hx, ?_⟩
      rw [hx, dI_self hz hw hl hdu] at c4
      exact (Option.some.inj c4).symm
    · refine Or.inr ⟨hx, enI g lim (nextI g lim u d.id) d, mem_tab d1 d2 (Ne.symm hx) ?_, ?_, ?_⟩
      · unfold kindI at d4 ⊢
        rw [c4]
        rw [hd] at d4
        by_cases hk : d.mark = true
        · rw [if_pos hk, if_neg (fun h => by cases h.1)]; decide
        · rw [if_neg hk] at d4 ⊢
          by_cases hlt : ltO (some n) (homeI g lim d.id).2 = true
          · have : ltO (some m) (homeI g lim d.id).2 = true := by
              cases hr : (homeI g lim d.id).2 with
              | none => rfl
              | some r => rw [hr] at hlt; unfold ltO at hlt ⊢; simp only [decide_eq_true_eq] at hlt ⊢; omega
            rw [if_pos this]; decide
          · rw [if_neg hlt] at d4
            by_cases hh : u = (homeI g lim d.id).1
            · have : ltO (some m) (homeI g lim d.id).2 = true := by
                rcases home_is (g := g) lim d.id with ⟨h1, h2⟩ | ⟨k, k1, k2, k3, k4, k5, k6⟩
                · rw [h2]; rfl
                · rw [k5, ← k4, ← hh, hd]; unfold ltO; simp only [decide_eq_true_eq]; omega
              rw [if_pos this]; decide
            · rw [if_neg hh] at d4; exact absurd rfl d4
      · exact (en_parts g lim _ d).1
      · rw [(en_parts g lim _ d).2.1, c4]
end Go.Bq
