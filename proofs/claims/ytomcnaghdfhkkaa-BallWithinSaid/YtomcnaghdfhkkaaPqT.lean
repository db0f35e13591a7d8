/- Paths, plainly: triangles; first hops; the path hop by hop; roads that rise. Steps of a path, plainly: from each of its routers what is left of it is the path from there. -/
import Derived.Test.YtomcnaghdfhkkaaPqA
import Derived.Test.YtomcnaghdfhkkaaFqT
section
section
namespace Go.Pq
open Go.Fq Go.Nq Go.Iq Ieee
set_option linter.unusedVariables false
set_option linter.unusedSimpArgs false

theorem qw_ltB {n m : Nat} (hn : n < 2 ^ 53) (hm : m < 2 ^ 53) : (FloatKind.f64.format.order (qw n) (qw m) == some .lt) = decide (n < m) := by
  rw [cmp_lt, qw_nan hn, qw_nan hm, Bool.not_false, Bool.true_and, Bool.true_and]
  exact decide_eq_decide.2 (qw_lt hn hm)
theorem qw_gtB {n m : Nat} (hn : n < 2 ^ 53) (hm : m < 2 ^ 53) : (FloatKind.f64.format.order (qw n) (qw m) == some .gt) = decide (m < n) := by
  rw [cmp_gt, qw_nan hn, qw_nan hm, Bool.not_false, Bool.true_and, Bool.true_and]
  exact decide_eq_decide.2 (qw_lt hm hn)
theorem add_inf_qw (n : Nat) (h : n < 2 ^ 53) : double.add INF (qw n) = some INF := by
  have hn := qw_fin h
  unfold Format.add
  rw [read_fin _ hn.1, read_inf INF (by decide +kernel)]
  show some (double.write (.infinity (ng INF))) = _
  decide +kernel
theorem add_infs : double.add INF INF = some INF := by decide +kernel
theorem add_zeros : double.add (qw 0) (qw 0) = some (qw 0) := by decide +kernel
theorem way_up {g : Gr} (h : checkG g = 0) (hw : ∀ y ∈ g.links, y.w < 2 ^ 64) {s v n : Nat} (k : Way (Road g) s v n) : s = v ∨ (upAt g.nodes s = true ∧ upAt g.nodes v = true) := by
  induction k with
  | nil => exact Or.inl rfl
  | cons k r ih =>
    obtain ⟨-, -, -, -, r1, r2⟩ := road_bd h hw r
    rcases ih with rfl | ⟨e, -⟩
    · exact Or.inr ⟨r1, r2⟩
    · exact Or.inr ⟨e, r2⟩
theorem dist_way {g : Gr} {s lim : Nat} {l : List (Option Nat)} (hA : DistsP g s lim l) {v n : Nat} (h : g_ l v = some n) : upAt g.nodes s = true ∧ Way (Road g) s v n ∧ n < lim ∧ Least (Road g) s lim (g_ l) := by
  obtain ⟨-, h2⟩ := hA
  by_cases hu : upAt g.nodes s = true
  · rw [if_pos hu] at h2
    have := (h2 v).1 n h
    exact ⟨hu, this.1, this.2.1, h2⟩
  · rw [if_neg hu] at h2
    exact absurd ((h2 v).symm.trans h) (by simp)
theorem tri_sym {g : Gr} (h : checkG g = 0) (hw : ∀ y ∈ g.links, y.w < 2 ^ 64) {s i lim : Nat} {l c : List (Option Nat)} (hA : DistsP g s lim l) (hC : DistsP g i lim c) : g_ c s = g_ l i := by
  have key : ∀ {s i : Nat} {l c : List (Option Nat)}, DistsP g s lim l → DistsP g i lim c → ∀ n, g_ l i = some n → g_ c s = some n := by
    intro s i l c hA hC n hn
    obtain ⟨u1, u2, u3, u4⟩ := dist_way hA hn
    have ui : upAt g.nodes i = true := by
      rcases way_up h hw u2 with rfl | ⟨-, e⟩
      · exact u1
      · exact e
    obtain ⟨-, h2⟩ := hC
    rw [if_pos ui] at h2
    exact (Least.both (R := Road g) (fun u v w hr => road_sym hr) u4 h2).symm.trans hn
  cases h1 : g_ l i with
  | some n => exact key hA hC n h1
  | none =>
    cases h2 : g_ c s with
    | none => rfl
    | some m => exact absurd (h1.symm.trans (key hC hA m h2)) (by simp)
theorem tri_facts {g : Gr} {s i lim : Nat} {l c : List (Option Nat)} (hA : DistsP g s lim l) (hC : DistsP g i lim c) (hl : lim ≤ 4294967296) (k : Nat) :
    ∃ S, double.add (dw (g_ l i)) (dw (g_ c k)) = some S ∧ ((FloatKind.f64.format.order S (qw lim) == some .lt) = false ∨ ((FloatKind.f64.format.order S (qw lim) == some .lt) = true ∧ (FloatKind.f64.format.order (dw (g_ l k)) S == some .gt) = false)) := by
  have hinf : (FloatKind.f64.format.order INF (qw lim) == some .lt) = false := dw_lt (a := none) (b := some lim) trivial hl
  have sA := hA.sm hl i
  have sC := hC.sm hl k
  cases h1 : g_ l i with
  | none =>
    refine ⟨INF, ?_, Or.inl hinf⟩
    cases h2 : g_ c k with
    | none => exact add_infs
    | some m =>
      rw [h2] at sC
      exact add_inf_qw m (by unfold Sm at sC; omega)
  | some a =>
    rw [h1] at sA
    unfold Sm at sA
    simp only at sA
    cases h2 : g_ c k with
    | none => exact ⟨INF, add_qw_inf a (by omega), Or.inl hinf⟩
    | some m =>
      rw [h2] at sC
      unfold Sm at sC
      simp only at sC
      refine ⟨qw (a + m), ?_, ?_⟩
      · by_cases hz : a + m = 0
        · have ha : a = 0 := by omega
          have hm : m = 0 := by omega
          subst ha
          subst hm
          exact add_zeros
        · exact add_qw a m (by omega) hz
      · rw [qw_ltB (by omega) (by omega)]
        by_cases hlt : a + m < lim
        · refine Or.inr ⟨decide_eq_true hlt, ?_⟩
          obtain ⟨u1, u2, u3, u4⟩ := dist_way hA h1
          obtain ⟨v1, v2, v3, v4⟩ := dist_way hC h2
          have hj := Way.join u2 v2
          cases h3 : g_ l k with
          | none => have := (u4 k).2 h3 _ hj; omega
          | some d =>
            have hd := (u4 k).1 d h3
            have := hd.2.2 _ hj
            show (FloatKind.f64.format.order (qw d) (qw (a + m)) == some .gt) = false
            rw [qw_gtB (by omega) (by omega)]
            exact decide_eq_false (by omega)
        · exact Or.inl (decide_eq_false hlt)
end Go.Pq
end

section
namespace Go.Pq
open Go.Fq Go.Nq Go.Iq Ieee
set_option linter.unusedVariables false
set_option linter.unusedSimpArgs false

theorem liveAt {g : Gr} (hz : checkG g = 0) {y : Lk} (hy : y ∈ g.links) : has g.nodes y.a = true ∧ has g.nodes y.b = true ∧ Nq.ahead g.nodes y.a < g.nodes.length ∧ Nq.ahead g.nodes y.b < g.nodes.length ∧ liveL g.nodes y = (y.up && upAt g.nodes (Nq.ahead g.nodes y.a) && upAt g.nodes (Nq.ahead g.nodes y.b)) ∧ y.a < y.b ∧ weightF y.w = 0 := by
  obtain ⟨n1, n2, n3, n4⟩ := check_zero.1 hz
  obtain ⟨b1, b2⟩ := links_iff.1 n4
  obtain ⟨⟨h0, h1, h2⟩, h3⟩ := b1 y hy
  obtain ⟨k1, e1⟩ := (has_at n3 y.a).1 h1
  obtain ⟨k2, e2⟩ := (has_at n3 y.b).1 h2
  refine ⟨h1, h2, k1, k2, ?_, h0, h3⟩
  unfold liveL
  rw [upB_at n3, upB_at n3, dif_pos h1, dif_pos h2, upAt_is k1, upAt_is k2]
def oth (fr : Int) (y : Lk) : Int := if y.a = fr then y.b else if y.b = fr then y.a else 0
/-- Does what is left behind this link make the distance? -/
def sumIs (A : Option Nat) (q n : Nat) : Bool := match A with
  | some m => decide (m + q = n)
  | none => false
def fitB (ns : List Nd) (fr : Int) (c : List (Option Nat)) (n : Nat) (y : Lk) : Bool := decide (oth fr y ≠ 0) && y.up && sumIs (g_ c (Nq.ahead ns (oth fr y))) (qn y.w) n
def stepB (ns : List Nd) (fr : Int) (c : List (Option Nat)) (n : Nat) (b : Int) (y : Lk) : Int := if fitB ns fr c n y = true then (if b = 0 ∨ oth fr y < b then oth fr y else b) else b
def bestK (ns : List Nd) (fr : Int) (c : List (Option Nat)) (n : Nat) (ls : List Lk) (k : Nat) : Int := (ls.take k).foldl (stepB ns fr c n) 0
theorem bestK_succ (ns : List Nd) (fr : Int) (c : List (Option Nat)) (n : Nat) (ls : List Lk) {k : Nat} (h : k < ls.length) : bestK ns fr c n ls (k + 1) = stepB ns fr c n (bestK ns fr c n ls k) ls[k] := by
  unfold bestK
  rw [List.take_succ_eq_append_getElem h, List.foldl_append]
  rfl
theorem fit_oth {ns : List Nd} {fr : Int} {c : List (Option Nat)} {n : Nat} {y : Lk} (h : fitB ns fr c n y = true) : oth fr y ≠ 0 ∧ y.up = true ∧ ∃ m, g_ c (Nq.ahead ns (oth fr y)) = some m ∧ m + qn y.w = n := by
  unfold fitB at h
  simp only [Bool.and_eq_true, decide_eq_true_eq] at h
  refine ⟨h.1.1, h.1.2, ?_⟩
  have h2 := h.2
  unfold sumIs at h2
  split at h2
  · rename_i m hm
    exact ⟨m, hm, of_decide_eq_true h2⟩
  · cases h2
theorem bestK_spec (ns : List Nd) (fr : Int) (c : List (Option Nat)) (n : Nat) (ls : List Lk) (k : Nat) (hk : k ≤ ls.length) :
    (bestK ns fr c n ls k = 0 ∧ ∀ j (hj : j < ls.length), j < k → fitB ns fr c n ls[j] = false) ∨
    ((∃ j, ∃ hj : j < ls.length, j < k ∧ fitB ns fr c n ls[j] = true ∧ oth fr ls[j] = bestK ns fr c n ls k) ∧ ∀ j (hj : j < ls.length), j < k → fitB ns fr c n ls[j] = true → bestK ns fr c n ls k ≤ oth fr ls[j]) := by
  induction k with
  | zero => exact Or.inl ⟨rfl, fun j hj h => absurd h (by omega)⟩
  | succ k ih =>
    have hlt : k < ls.length := hk
    have ih := ih (by omega)
    rw [bestK_succ ns fr c n ls hlt]
    generalize bestK ns fr c n ls k = b at *
    unfold stepB
    by_cases hf : fitB ns fr c n ls[k] = true
    · rw [if_pos hf]
      refine Or.inr ?_
      rcases ih with ⟨rfl, h2⟩ | ⟨⟨j, hj, h1, h2, h3⟩, h4⟩
      · rw [if_pos (Or.inl rfl)]
        refine ⟨⟨k, hlt, by omega, hf, rfl⟩, fun j hj hjk hfj => ?_⟩
        by_cases e : j = k
        · subst e; exact Int.le_refl _
        · have := h2 j hj (by omega); rw [this] at hfj; cases hfj
      · have hb0 : b ≠ 0 := by rw [← h3]; exact (fit_oth h2).1
        by_cases hl : oth fr ls[k] < b
        · rw [if_pos (Or.inr hl)]
          refine ⟨⟨k, hlt, by omega, hf, rfl⟩, fun j' hj' hjk hfj => ?_⟩
          by_cases e : j' = k
          · subst e; exact Int.le_refl _
          · have := h4 j' hj' (by omega) hfj; omega
        · rw [if_neg (by rintro (e | e); exact hb0 e; exact hl e)]
          refine ⟨⟨j, hj, by omega, h2, h3⟩, fun j' hj' hjk hfj => ?_⟩
          by_cases e : j' = k
          · subst e; omega
          · exact h4 j' hj' (by omega) hfj
    · rw [if_neg hf]
      rcases ih with ⟨h1, h2⟩ | ⟨⟨j, hj, h1, h2, h3⟩, h4⟩
      · refine Or.inl ⟨h1, fun j hj hjk => ?_⟩
        by_cases e : j = k
        · subst e; simpa using hf
        · exact h2 j hj (by omega)
      · refine Or.inr ⟨⟨j, hj, by omega, h2, h3⟩, fun j' hj' hjk hfj => ?_⟩
        by_cases e : j' = k
        · subst e; exact absurd hfj hf
        · exact h4 j' hj' (by omega) hfj
theorem id_at {ns : List Nd} (h : NodesP ns) {x : Int} (hx : has ns x = true) : (idf ns (Nq.ahead ns x) : Int) = x ∧ x ≠ 0 := by
  obtain ⟨hk, he⟩ := (has_at h x).1 hx
  obtain ⟨h1, h2, h3⟩ := idf_is h hk
  rw [he] at h1
  exact ⟨h1.symm, by omega⟩
theorem way_pos {R : Nat → Nat → Nat → Prop} {id : Nat → Nat} {s v n : Nat} (hg : Good R id) (h : Way R s v n) (hne : s ≠ v) : 0 < n := by
  cases h with
  | nil => exact absurd rfl hne
  | cons hu hr => have := hg.pos _ _ _ hr; omega
/-- What fits is a first hop. -/
theorem fit_road {g : Gr} {t lim n : Nat} {c : List (Option Nat)} {fr : Int} (hz : checkG g = 0) (hw : ∀ y ∈ g.links, y.w < 2 ^ 64) (hC : DistsP g t lim c) (hs : upAt g.nodes (Nq.ahead g.nodes fr) = true) {y : Lk} (hy : y ∈ g.links) (h : fitB g.nodes fr c n y = true) :
    ∃ m, Road g (Nq.ahead g.nodes fr) (Nq.ahead g.nodes (oth fr y)) (qn y.w) ∧ Way (Road g) (Nq.ahead g.nodes (oth fr y)) t m ∧ n = qn y.w + m ∧ (idf g.nodes (Nq.ahead g.nodes (oth fr y)) : Int) = oth fr y := by
  obtain ⟨h0, hup, m, hm, hn⟩ := fit_oth h
  obtain ⟨l1, l2, l3, l4, l5, l6, l7⟩ := liveAt hz hy
  obtain ⟨u1, u2, u3, -⟩ := dist_way hC hm
  have ux : upAt g.nodes (Nq.ahead g.nodes (oth fr y)) = true := by
    rcases way_up hz hw u2 with e | ⟨-, e⟩
    · rw [← e]; exact u1
    · exact e
  have n3 := (check_zero.1 hz).2.2.1
  have key : has g.nodes (oth fr y) = true ∧ Road g (Nq.ahead g.nodes fr) (Nq.ahead g.nodes (oth fr y)) (qn y.w) := by
    unfold oth at *
    by_cases ea : y.a = fr
    · rw [if_pos ea] at *
      have hl : liveL g.nodes y = true := by rw [l5, hup, ea, hs, ux]; rfl
      exact ⟨l2, mem_rds.2 ⟨y, List.mem_filter.2 ⟨hy, hl⟩, rfl, Or.inl ⟨by rw [ea], rfl⟩⟩⟩
    · rw [if_neg ea] at *
      by_cases eb : y.b = fr
      · rw [if_pos eb] at *
        have hl : liveL g.nodes y = true := by rw [l5, hup, eb, hs, ux]; rfl
        exact ⟨l1, mem_rds.2 ⟨y, List.mem_filter.2 ⟨hy, hl⟩, rfl, Or.inr ⟨by rw [eb], rfl⟩⟩⟩
      · rw [if_neg eb] at h0; exact absurd rfl h0
  exact ⟨m, key.2, Way.back (R := Road g) (fun u v w hr => road_sym hr) u2, by omega, (id_at n3 key.1).1⟩
theorem next_fo {g : Gr} {t lim n f : Nat} {c : List (Option Nat)} {D : List (Option (Nat × Nat))} {fr : Int} (hz : checkG g = 0) (hw : ∀ y ∈ g.links, y.w < 2 ^ 64) (hC : DistsP g t lim c) (hS : StopsP g (Nq.ahead g.nodes fr) lim D) (hfr : has g.nodes fr = true) (hst : Nq.ahead g.nodes fr ≠ t) (hd : dd D t = some (n, f)) :
    bestK g.nodes fr c n g.links g.links.length = (f : Int) := by
  have n3 := (check_zero.1 hz).2.2.1
  have hg := road_good hz hw
  obtain ⟨a1, a2, a3⟩ := hS.at hz hw hd
  have hL : LeastF (Road g) (idf g.nodes) (Nq.ahead g.nodes fr) lim (dd D) := by
    obtain ⟨-, h2⟩ := hS
    rw [if_pos a3] at h2
    exact h2
  have hn0 : 0 < n := way_pos hg a2.way hst
  obtain ⟨⟨x, w, m, r1, r2, r3, r4⟩, q⟩ := hL.first hg hd hn0
  -- the first hop fits
  have hfit : ∃ j, ∃ hj : j < g.links.length, fitB g.nodes fr c n g.links[j] = true ∧ oth fr g.links[j] = (f : Int) := by
    have rr := r1
    unfold Road at rr
    rw [mem_rds] at rr
    obtain ⟨y, h1, h2, h3⟩ := rr
    obtain ⟨hy, hl⟩ := List.mem_filter.1 h1
    obtain ⟨j, hj, hyj⟩ := List.getElem_of_mem hy
    obtain ⟨l1, l2, l3, l4, l5, l6, l7⟩ := liveAt hz hy
    have hup : y.up = true := by
      rw [l5] at hl
      simp only [Bool.and_eq_true] at hl
      exact hl.1.1
    have ifr := (id_at n3 hfr).1
    have ia := (id_at n3 l1).1
    have ib := (id_at n3 l2).1
    have ho : oth fr y ≠ 0 ∧ Nq.ahead g.nodes (oth fr y) = x ∧ oth fr y = (f : Int) := by
      unfold oth
      rcases h3 with ⟨e1, e2⟩ | ⟨e1, e2⟩
      · have ea : y.a = fr := by rw [← ia, ← ifr, e1]
        rw [if_pos ea]
        exact ⟨(id_at n3 l2).2, e2, by rw [← ib, e2, r2]⟩
      · have eb : y.b = fr := by rw [← ib, ← ifr, e1]
        rw [if_neg (by omega), if_pos eb]
        exact ⟨(id_at n3 l1).2, e2, by rw [← ia, e2, r2]⟩
    refine ⟨j, hj, ?_, by rw [hyj]; exact ho.2.2⟩
    rw [hyj]
    have hcx : g_ c x = some m := by
      obtain ⟨-, hc2⟩ := hC
      have ut : upAt g.nodes t = true := by
        rcases way_up hz hw a2.way with e | ⟨-, e⟩
        · exact absurd e hst
        · exact e
      rw [if_pos ut] at hc2
      have hwx : Way (Road g) t x m := Way.back (R := Road g) (fun u v w hr => road_sym hr) r3
      cases hq : g_ c x with
      | none => have := (hc2 x).2 hq m hwx; omega
      | some m' =>
        have b1 := (hc2 x).1 m' hq
        have b2 := b1.2.2 m hwx
        have b3 := hL.least
        have b4 := (b3 t).1 n (by simp [hd])
        have b5 := b4.2.2 _ ((Way.one r1).join (Way.back (R := Road g) (fun u v w hr => road_sym hr) b1.1))
        congr 1
        omega
    unfold fitB
    rw [ho.2.1, hcx, hup, decide_eq_true ho.1]
    unfold sumIs
    simp only [Bool.true_and, decide_eq_true_eq]
    omega
  obtain ⟨j0, hj0, f1, f2⟩ := hfit
  rcases bestK_spec g.nodes fr c n g.links g.links.length (Nat.le_refl _) with ⟨h1, h2⟩ | ⟨⟨j, hj, -, h2, h3⟩, h4⟩
  · have := h2 j0 hj0 hj0; rw [this] at f1; cases f1
  · have hle := h4 j0 hj0 hj0 f1
    obtain ⟨m', k1, k2, k3, k4⟩ := fit_road hz hw hC a3 (List.getElem_mem hj) h2
    have := q _ _ _ k1 k2 k3
    omega
end Go.Pq
end

section
namespace Go.Pq
open Go.Fq Go.Nq Go.Iq Ieee
set_option linter.unusedVariables false
set_option linter.unusedSimpArgs false

theorem aheadOf {ns : List Nd} (h : NodesP ns) {k : Nat} (hk : k < ns.length) : has ns (idf ns k : Int) = true ∧ Nq.ahead ns (idf ns k : Int) = k := by
  have e := (idf_is h hk).1
  have hh : has ns (idf ns k : Int) = true := by
    unfold has
    rw [List.any_eq_true]
    exact ⟨ns[k], List.getElem_mem hk, by simp [e]⟩
  refine ⟨hh, ?_⟩
  obtain ⟨hk2, hx⟩ := (has_at h _).1 hh
  obtain ⟨-, h4⟩ := ahead_spec h (idf ns k : Int)
  have a1 := h4 k hk
  rw [e] at a1
  rcases Nat.lt_trichotomy (Nq.ahead ns (idf ns k : Int)) k with hl | he | hg
  · have h5 := nodes_rise h k (Nq.ahead ns (idf ns k : Int)) hl hk
    rw [hx, e] at h5
    omega
  · exact he
  · have := a1.1 hg; omega
/-- A road to a router from which what is left makes the distance: its link fits. -/
theorem road_fit {g : Gr} {n m x w : Nat} {c : List (Option Nat)} {fr : Int} (hz : checkG g = 0) (hfr : has g.nodes fr = true) (hr : Road g (Nq.ahead g.nodes fr) x w) (hx : g_ c x = some m) (hn : n = w + m) :
    ∃ j, ∃ hj : j < g.links.length, fitB g.nodes fr c n g.links[j] = true ∧ oth fr g.links[j] = (idf g.nodes x : Int) := by
  have n3 := (check_zero.1 hz).2.2.1
  unfold Road at hr
  rw [mem_rds] at hr
  obtain ⟨y, h1, h2, h3⟩ := hr
  obtain ⟨hy, hl⟩ := List.mem_filter.1 h1
  obtain ⟨j, hj, hyj⟩ := List.getElem_of_mem hy
  obtain ⟨l1, l2, l3, l4, l5, l6, l7⟩ := liveAt hz hy
  have hup : y.up = true := by
    rw [l5] at hl
    simp only [Bool.and_eq_true] at hl
    exact hl.1.1
  have ifr := (id_at n3 hfr).1
  have ia := (id_at n3 l1).1
  have ib := (id_at n3 l2).1
  have ho : oth fr y ≠ 0 ∧ Nq.ahead g.nodes (oth fr y) = x ∧ oth fr y = (idf g.nodes x : Int) := by
    unfold oth
    rcases h3 with ⟨e1, e2⟩ | ⟨e1, e2⟩
    · have ea : y.a = fr := by rw [← ia, ← ifr, e1]
      rw [if_pos ea]
      exact ⟨(id_at n3 l2).2, e2, by rw [← ib, e2]⟩
    · have eb : y.b = fr := by rw [← ib, ← ifr, e1]
      rw [if_neg (by omega), if_pos eb]
      exact ⟨(id_at n3 l1).2, e2, by rw [← ia, e2]⟩
  refine ⟨j, hj, ?_, by rw [hyj]; exact ho.2.2⟩
  rw [hyj]
  unfold fitB
  rw [ho.2.1, hx, hup, decide_eq_true ho.1]
  unfold sumIs
  simp only [Bool.true_and, decide_eq_true_eq]
  omega
theorem left_fits {g : Gr} {t lim n u : Nat} {c : List (Option Nat)} (hz : checkG g = 0) (hw : ∀ y ∈ g.links, y.w < 2 ^ 64) (hC : DistsP g t lim c) (hu : u < g.nodes.length) (h : g_ c u = some n) (hne : u ≠ t) :
    ∃ a w m, bestK g.nodes (idf g.nodes u : Int) c n g.links g.links.length = (idf g.nodes a : Int) ∧ a < g.nodes.length ∧ Road g u a w ∧ g_ c a = some m ∧ n = w + m ∧ 0 < w := by
  have n3 := (check_zero.1 hz).2.2.1
  have hg := road_good hz hw
  obtain ⟨h1, h2, h3, h4⟩ := dist_way hC h
  obtain ⟨f1, f2⟩ := aheadOf n3 hu
  have us : upAt g.nodes u = true := by
    rcases way_up hz hw h2 with e | ⟨-, e⟩
    · exact absurd e.symm hne
    · exact e
  have ex : ∃ j, ∃ hj : j < g.links.length, fitB g.nodes (idf g.nodes u : Int) c n g.links[j] = true := by
    cases h2 with
    | nil => exact absurd rfl hne
    | @cons v _ n' w k r =>
      have hv : g_ c v = some n' := by
        cases hq : g_ c v with
        | none => have := (h4 v).2 hq n' k; omega
        | some m' =>
          have b1 := (h4 v).1 m' hq
          have b2 := b1.2.2 n' k
          have b3 := ((h4 u).1 _ h).2.2 _ (Way.cons b1.1 r)
          congr 1; omega
      obtain ⟨j, hj, e1, -⟩ := road_fit (n := n' + w) (c := c) (fr := (idf g.nodes u : Int)) hz f1 (by rw [f2]; exact road_sym r) hv (by omega)
      exact ⟨j, hj, e1⟩
  obtain ⟨j0, hj0, e0⟩ := ex
  rcases bestK_spec g.nodes (idf g.nodes u : Int) c n g.links g.links.length (Nat.le_refl _) with ⟨-, k2⟩ | ⟨⟨j, hj, -, k2, k3⟩, -⟩
  · have := k2 j0 hj0 hj0; rw [this] at e0; cases e0
  · obtain ⟨m', r1, r2, r3, r4⟩ := fit_road hz hw hC (by rw [f2]; exact us) (List.getElem_mem hj) k2
    obtain ⟨-, -, m, r5, r6⟩ := fit_oth k2
    rw [f2] at r1
    have bd := road_bd hz hw r1
    exact ⟨_, _, m, by rw [← k3, r4], bd.2.1, r1, r5, by omega, by omega⟩
/-- The path, hop by hop (the first number is how many hops at most). -/
def pathL (g : Gr) (t : Nat) (c : List (Option Nat)) : Nat → Nat → List Int
  | 0, _ => []
  | f + 1, u => if u = t then [] else
      bestK g.nodes (idf g.nodes u : Int) c ((g_ c u).getD 0) g.links g.links.length :: pathL g t c f (Nq.ahead g.nodes (bestK g.nodes (idf g.nodes u : Int) c ((g_ c u).getD 0) g.links g.links.length))
theorem pathL_end (g : Gr) (t : Nat) (c : List (Option Nat)) (f : Nat) : pathL g t c f t = [] := by
  cases f with
  | zero => rfl
  | succ f => unfold pathL; rw [if_pos rfl]
theorem pathL_step {g : Gr} {t lim n u f : Nat} {c : List (Option Nat)} (hz : checkG g = 0) (hw : ∀ y ∈ g.links, y.w < 2 ^ 64) (hC : DistsP g t lim c) (hu : u < g.nodes.length) (h : g_ c u = some n) (hne : u ≠ t) (hf : n < f) :
    ∃ a m f', bestK g.nodes (idf g.nodes u : Int) c n g.links g.links.length = (idf g.nodes a : Int) ∧ a < g.nodes.length ∧ g_ c a = some m ∧ m < n ∧ m < f' ∧ pathL g t c f u = (idf g.nodes a : Int) :: pathL g t c f' a := by
  obtain ⟨a, w, m, e1, e2, e3, e4, e5, e6⟩ := left_fits hz hw hC hu h hne
  obtain ⟨f', rfl⟩ : ∃ f', f = f' + 1 := ⟨f - 1, by omega⟩
  refine ⟨a, m, f', e1, e2, e4, by omega, by omega, ?_⟩
  show (if u = t then [] else _) = _
  rw [if_neg hne, h]
  simp only [Option.getD_some]
  rw [e1, (aheadOf (check_zero.1 hz).2.2.1 e2).2]
end Go.Pq
end

section
namespace Go.Pq
open Go.Fq Go.Nq Go.Iq Ieee
set_option linter.unusedVariables false
set_option linter.unusedSimpArgs false

theorem mem_lkRd {ns : List Nd} {y : Lk} {u : Nat} {r : Rd} : r ∈ lkRd ns y u ↔ (Nq.ahead ns y.a = u ∧ r = (Nq.ahead ns y.b, qn y.w)) ∨ (Nq.ahead ns y.b = u ∧ r = (Nq.ahead ns y.a, qn y.w)) := by
  unfold lkRd
  rw [List.mem_append]
  constructor
  · rintro (h | h)
    · split at h
      · rename_i e; exact Or.inl ⟨e, by simpa using h⟩
      · simp at h
    · split at h
      · rename_i e; exact Or.inr ⟨e, by simpa using h⟩
      · simp at h
  · rintro (⟨e, rfl⟩ | ⟨e, rfl⟩)
    · exact Or.inl (by rw [if_pos e]; simp)
    · exact Or.inr (by rw [if_pos e]; simp)
theorem links_pair {g : Gr} (hz : checkG g = 0) : g.links.Pairwise (fun y z => before y z = true) := by
  obtain ⟨b1, b2⟩ := links_iff.1 (check_zero.1 hz).2.2.2
  rw [List.pairwise_iff_getElem]
  intro i j hi hj hij
  exact links_rise b2 j i hij hj
theorem before_lt {y z : Lk} (h : before y z = true) : y.a < z.a ∨ (y.a = z.a ∧ y.b < z.b) := by
  unfold before at h
  simpa using h
theorem rds_rise {g : Gr} (hz : checkG g = 0) (u : Nat) : (rds g.nodes (liveG g).links u).Pairwise (fun r r' => idf g.nodes r.1 < idf g.nodes r'.1) := by
  have n3 := (check_zero.1 hz).2.2.1
  unfold rds
  rw [List.pairwise_flatMap]
  constructor
  · intro y hy
    obtain ⟨-, -, -, -, a3, -⟩ := live_ends hz hy
    unfold lkRd
    by_cases e : Nq.ahead g.nodes y.a = u
    · rw [if_pos e, if_neg (by omega)]; simp
    · rw [if_neg e]
      split <;> simp
  · refine ((links_pair hz).filter _).imp_of_mem ?_
    intro y z hy hz' hb r hr r' hr'
    obtain ⟨ya, yb, -, -, -, -, -, -, hyl⟩ := live_ends hz hy
    obtain ⟨za, zb, -, -, -, -, -, -, hzl⟩ := live_ends hz hz'
    have y0 := (liveAt hz hyl).2.2.2.2.2.1
    have z0 := (liveAt hz hzl).2.2.2.2.2.1
    have e1 := (id_at n3 ya).1
    have e2 := (id_at n3 yb).1
    have e3 := (id_at n3 za).1
    have e4 := (id_at n3 zb).1
    have hlt := before_lt hb
    rw [mem_lkRd] at hr hr'
    rcases hr with ⟨h1, rfl⟩ | ⟨h1, rfl⟩ <;> rcases hr' with ⟨h2, rfl⟩ | ⟨h2, rfl⟩ <;> simp only
    · rw [h1] at e1; rw [h2] at e3; omega
    · rw [h1] at e1; rw [h2] at e4; omega
    · rw [h1] at e2; rw [h2] at e3; omega
    · rw [h1] at e2; rw [h2] at e4; omega
/-- Among sums: less by cmpF is less by length. -/
theorem cmpF_lt {a b : Option Nat} (ha : Sm a) (hb : Sm b) : cmpF (dw a) (dw b) < 0 ↔ ltO a b = true := by
  have h := dw_lt ha hb
  rw [cmp_lt, dw_nan ha, dw_nan hb] at h
  unfold cmpF
  rw [dw_nan ha, dw_nan hb, ← h]
  simp only [Bool.not_false, Bool.true_and, decide_eq_true_eq, Bool.false_eq_true, if_false]
  constructor
  · intro k
    split at k
    · assumption
    · split at k <;> omega
  · intro k
    rw [if_pos k]
    decide
/-- The first of the least sums. -/
theorem first_least (xs : List (Option Nat)) (hs : ∀ x ∈ xs, Sm x) : ∀ k, 0 < k → k ≤ xs.length → ∃ M : Nat, leastTo (xs.map dw) k = (M : Int) ∧ M < k ∧ (∀ i, i < k → ltO (g_ xs i) (g_ xs M) = false) ∧ (∀ i, i < M → ltO (g_ xs M) (g_ xs i) = true) := by
  have hsm : ∀ i, Sm (g_ xs i) := by
    intro i
    unfold g_
    rw [List.getD_eq_getElem?_getD]
    by_cases h : i < xs.length
    · rw [List.getElem?_eq_getElem h]; exact hs _ (List.getElem_mem h)
    · rw [List.getElem?_eq_none (by omega)]; trivial
  have hg : ∀ i, i < xs.length → (xs.map dw).getD i 0 = dw (g_ xs i) := by
    intro i hi
    unfold g_
    simp [List.getD_eq_getElem?_getD, hi]
  intro k
  induction k with
  | zero => intro h; omega
  | succ k ih =>
    intro _ hk
    rcases Nat.eq_zero_or_pos k with e | hk0
    · subst e
      refine ⟨0, ?_, by omega, fun i hi => ?_, fun i hi => by omega⟩
      · have := leastTo_first (xs.map dw) 0 (by simp [leastTo]); simpa using this
      · have : i = 0 := by omega
        subst this
        cases g_ xs 0 <;> simp [ltO]
    · obtain ⟨M, h1, h2, h3, h4⟩ := ih hk0 (by omega)
      by_cases hc : cmpF ((xs.map dw).getD k 0) ((xs.map dw).getD M 0) < 0
      · refine ⟨k, leastTo_less _ k M h1 hc, by omega, ?_, ?_⟩
        · rw [hg k (by omega), hg M (by omega), cmpF_lt (hsm k) (hsm M)] at hc
          intro i hi
          rcases Nat.lt_or_eq_of_le (Nat.lt_succ_iff.1 hi) with hl | rfl
          · have a := h3 i hl
            generalize g_ xs i = x at *
            generalize g_ xs M = y at *
            generalize g_ xs k = z at *
            cases x <;> cases y <;> cases z <;> simp_all [ltO] <;> omega
          · cases g_ xs i <;> simp [ltO]
        · rw [hg k (by omega), hg M (by omega), cmpF_lt (hsm k) (hsm M)] at hc
          intro i hi
          have a := h3 i hi
          generalize g_ xs i = x at *
          generalize g_ xs M = y at *
          generalize g_ xs k = z at *
          cases x <;> cases y <;> cases z <;> simp_all [ltO] <;> omega
      · refine ⟨M, leastTo_keep _ k M h1 hc, by omega, fun i hi => ?_, h4⟩
        rw [hg k (by omega), hg M (by omega), cmpF_lt (hsm k) (hsm M)] at hc
        rcases Nat.lt_or_eq_of_le (Nat.lt_succ_iff.1 hi) with hl | rfl
        · exact h3 i hl
        · simpa using hc
/-- The first road of the least sums leads where the least number that fits says. -/
theorem fh_best {g : Gr} {t lim n u : Nat} {c : List (Option Nat)} (hz : checkG g = 0) (hw : ∀ y ∈ g.links, y.w < 2 ^ 64) (hC : DistsP g t lim c) (hl : lim ≤ 4294967296) (hu : u < g.nodes.length) (h : g_ c u = some n) (hne : u ≠ t) :
    ∃ M, ∃ hM : M < (rds g.nodes (liveG g).links u).length, leastTo (((rds g.nodes (liveG g).links u).map (fun r => addO r.2 (g_ c r.1) lim)).map dw) (rds g.nodes (liveG g).links u).length = (M : Int) ∧ (idf g.nodes (rds g.nodes (liveG g).links u)[M].1 : Int) = bestK g.nodes (idf g.nodes u : Int) c n g.links g.links.length := by
  have n3 := (check_zero.1 hz).2.2.1
  obtain ⟨a, w, m, e1, e2, e3, e4, e5, e6⟩ := left_fits hz hw hC hu h hne
  obtain ⟨u1, u2, u3, u4⟩ := dist_way hC h
  obtain ⟨f1, f2⟩ := aheadOf n3 hu
  have hrise := rds_rise hz u
  have hroad : ∀ r ∈ rds g.nodes (liveG g).links u, Road g u r.1 r.2 := fun r hr => hr
  have hmem : (a, w) ∈ rds g.nodes (liveG g).links u := e3
  generalize rds g.nodes (liveG g).links u = R at *
  obtain ⟨j, hj, hja⟩ := List.getElem_of_mem hmem
  have hsum : ∀ i (hi : i < R.length), g_ (R.map (fun r => addO r.2 (g_ c r.1) lim)) i = addO R[i].2 (g_ c R[i].1) lim := by
    intro i hi
    unfold g_
    simp [List.getD_eq_getElem?_getD, hi]
  have hlow : ∀ i (hi : i < R.length) x, addO R[i].2 (g_ c R[i].1) lim = some x → n ≤ x ∧ ∃ m', g_ c R[i].1 = some m' ∧ x = R[i].2 + m' := by
    intro i hi x hx
    have hr := hroad _ (List.getElem_mem hi)
    cases hq : g_ c R[i].1 with
    | none => rw [hq] at hx; simp [addO] at hx
    | some m' =>
      rw [hq] at hx
      unfold addO at hx
      simp only at hx
      split at hx
      · simp only [Option.some.injEq] at hx
        have b1 := (u4 R[i].1).1 m' hq
        have b2 := ((u4 u).1 n h).2.2 _ (Way.cons b1.1 (road_sym hr))
        exact ⟨by omega, m', rfl, hx.symm⟩
      · cases hx
  have hjs : addO R[j].2 (g_ c R[j].1) lim = some n := by
    rw [hja]
    simp only [e4]
    unfold addO
    simp only
    rw [if_pos (by omega), e5]
  obtain ⟨M, k1, k2, k3, k4⟩ := first_least (R.map (fun r => addO r.2 (g_ c r.1) lim)) (by
    intro x hx
    obtain ⟨r, -, rfl⟩ := List.mem_map.1 hx
    exact addO_sm _ _ _ hl) R.length (by omega) (by simp)
  refine ⟨M, k2, k1, ?_⟩
  have hMs : ∃ x, addO R[M].2 (g_ c R[M].1) lim = some x ∧ x ≤ n := by
    have a1 := k3 j hj
    rw [hsum j hj, hsum M k2, hjs] at a1
    cases hq : addO R[M].2 (g_ c R[M].1) lim with
    | none => rw [hq] at a1; simp [ltO] at a1
    | some x => rw [hq] at a1; simp [ltO] at a1; exact ⟨x, rfl, by omega⟩
  obtain ⟨x, hx, hxn⟩ := hMs
  obtain ⟨hnx, m', hm', hxm⟩ := hlow M k2 x hx
  have hxe : x = n := by omega
  obtain ⟨j', hj', q1, q2⟩ := road_fit (n := n) (m := m') (c := c) (fr := (idf g.nodes u : Int)) hz f1 (by rw [f2]; exact hroad _ (List.getElem_mem k2)) hm' (by omega)
  have hle : (idf g.nodes a : Int) ≤ (idf g.nodes R[M].1 : Int) := by
    rcases bestK_spec g.nodes (idf g.nodes u : Int) c n g.links g.links.length (Nat.le_refl _) with ⟨-, z2⟩ | ⟨-, z2⟩
    · have := z2 j' hj' hj'; rw [this] at q1; cases q1
    · have := z2 j' hj' hj' q1
      rw [e1, q2] at this
      exact this
  rw [e1]
  rcases Nat.lt_trichotomy M j with hlt | heq | hgt
  · have := List.pairwise_iff_getElem.1 hrise M j k2 hj hlt
    rw [hja] at this
    simp only at this
    omega
  · subst heq; rw [hja]
  · have := k4 j hgt
    rw [hsum j hj, hsum M k2, hjs, hx, hxe] at this
    simp [ltO] at this
end Go.Pq
end
end

section
namespace Go.Pq
open Go.Fq Go.Nq Go.Iq Ieee
set_option linter.unusedVariables false
set_option linter.unusedSimpArgs false

/-- The path from a place that is n from the end. -/
def zsL (g : Gr) (t : Nat) (c : List (Option Nat)) (u n : Nat) : List Int := (idf g.nodes u : Int) :: pathL g t c (n + 1) u
/-- As many hops as are wanted give the same path. -/
theorem pathL_fuel {g : Gr} {t lim : Nat} {c : List (Option Nat)} (hz : checkG g = 0) (hw : ∀ y ∈ g.links, y.w < 2 ^ 64) (hC : DistsP g t lim c) : ∀ n u f f2, u < g.nodes.length → g_ c u = some n → n < f → n < f2 → pathL g t c f u = pathL g t c f2 u := by
  intro n
  induction n using Nat.strongRecOn with
  | ind n ih =>
    intro u f f2 hu h hf hf2
    by_cases hut : u = t
    · subst hut; rw [pathL_end, pathL_end]
    · obtain ⟨a, m, f', p1, p2, p3, p4, p5, p6⟩ := pathL_step hz hw hC hu h hut hf
      obtain ⟨a2, m2, f2', q1, q2, q3, q4, q5, q6⟩ := pathL_step hz hw hC hu h hut hf2
      have hn3 := (check_zero.1 hz).2.2.1
      have ha : a2 = a := by
        have e : (idf g.nodes a : Int) = idf g.nodes a2 := p1.symm.trans q1
        have h1 := (aheadOf hn3 p2).2
        rw [e, (aheadOf hn3 q2).2] at h1
        exact h1
      subst ha
      have hm : m2 = m := by rw [p3] at q3; simpa using q3.symm
      subst hm
      rw [p6, q6, ih m2 p4 a2 f' f2' p2 p3 p5 q5]
/-- The link that is up and leads from the one to the other: what the law looks up. -/
def wtB (a b : Int) (l : Lk) : Bool := l.up && ((decide (l.a = a) && decide (l.b = b)) || (decide (l.a = b) && decide (l.b = a)))
def wtV : List Lk → Int → Int → Nat
  | [], _, _ => 0
  | l :: r, a, b => if wtB a b l = true then l.w else wtV r a b
theorem wtV_skip (ls : List Lk) (a b : Int) : ∀ k, k ≤ ls.length → (∀ j (hj : j < ls.length), j < k → wtB a b ls[j] = false) → wtV ls a b = wtV (ls.drop k) a b := by
  intro k
  induction k with
  | zero => intro _ _; rfl
  | succ k ih =>
    intro hk h
    rw [ih (by omega) (fun j hj hjk => h j hj (by omega)), List.drop_eq_getElem_cons (by omega : k < ls.length)]
    show (if _ then _ else _) = _
    rw [if_neg (by rw [h k (by omega) (by omega)]; decide)]
theorem wtV_hit (ls : List Lk) (a b : Int) (k : Nat) (hk : k < ls.length) (h : ∀ j (hj : j < ls.length), j < k → wtB a b ls[j] = false) (h2 : wtB a b ls[k] = true) : wtV ls a b = ls[k].w := by
  rw [wtV_skip ls a b k (by omega) h, List.drop_eq_getElem_cons hk]
  show (if _ then _ else _) = _
  rw [if_pos h2]
theorem wtV_none (ls : List Lk) (a b : Int) (h : ∀ j (hj : j < ls.length), wtB a b ls[j] = false) : wtV ls a b = 0 := by
  rw [wtV_skip ls a b ls.length (Nat.le_refl _) (fun j hj _ => h j hj), List.drop_length]; rfl
theorem wtV_mem (ls : List Lk) (a b : Int) {y : Lk} (hy : y ∈ ls) (hb : wtB a b y = true) : ∃ z ∈ ls, wtB a b z = true ∧ wtV ls a b = z.w := by
  induction ls with
  | nil => cases hy
  | cons l r ih =>
    by_cases e : wtB a b l = true
    · exact ⟨l, List.mem_cons_self, e, by show (if _ then _ else _) = _; rw [if_pos e]⟩
    · rcases List.mem_cons.1 hy with rfl | h
      · exact absurd hb e
      · obtain ⟨z, z1, z2, z3⟩ := ih h
        exact ⟨z, List.mem_cons_of_mem _ z1, z2, by show (if _ then _ else _) = _; rw [if_neg e]; exact z3⟩
theorem wtB_ends {a b : Int} {l : Lk} (h : wtB a b l = true) : l.up = true ∧ ((l.a = a ∧ l.b = b) ∨ (l.a = b ∧ l.b = a)) := by
  unfold wtB at h
  simp only [Bool.and_eq_true, Bool.or_eq_true, decide_eq_true_eq] at h
  exact h
theorem link_one {g : Gr} (hz : checkG g = 0) {y z : Lk} (hy : y ∈ g.links) (hz2 : z ∈ g.links) (ha : y.a = z.a) (hb : y.b = z.b) : y = z := by
  have hp := links_pair hz
  obtain ⟨i, hi, rfl⟩ := List.getElem_of_mem hy
  obtain ⟨j, hj, rfl⟩ := List.getElem_of_mem hz2
  rw [List.pairwise_iff_getElem] at hp
  rcases Nat.lt_trichotomy i j with h | h | h
  · have := before_lt (hp i j hi hj h); omega
  · subst h; rfl
  · have := before_lt (hp j i hj hi h); omega
/-- The link of a road is looked up. -/
theorem road_wt {g : Gr} (hz : checkG g = 0) (hw : ∀ y ∈ g.links, y.w < 2 ^ 64) {u v w : Nat} (h : Road g u v w) : wtV g.links (idf g.nodes u : Int) (idf g.nodes v : Int) = qw w := by
  have n3 := (check_zero.1 hz).2.2.1
  have h0 := h
  unfold Road at h0
  rw [mem_rds] at h0
  obtain ⟨y, h1, h2, h3⟩ := h0
  obtain ⟨hy, hl⟩ := List.mem_filter.1 h1
  obtain ⟨l1, l2, l3, l4, l5, l6, l7⟩ := liveAt hz hy
  have hup : y.up = true := by
    rw [l5] at hl
    simp only [Bool.and_eq_true] at hl
    exact hl.1.1
  have ia := (id_at n3 l1).1
  have ib := (id_at n3 l2).1
  have hb : wtB (idf g.nodes u : Int) (idf g.nodes v : Int) y = true := by
    unfold wtB
    rcases h3 with ⟨e1, e2⟩ | ⟨e1, e2⟩
    · rw [e1] at ia; rw [e2] at ib
      simp [hup, ia, ib]
    · rw [e1] at ib; rw [e2] at ia
      simp [hup, ia, ib]
  obtain ⟨z, z1, z2, z3⟩ := wtV_mem g.links _ _ hy hb
  obtain ⟨-, e1⟩ := wtB_ends hb
  obtain ⟨-, e2⟩ := wtB_ends z2
  obtain ⟨k1, k2, k3, k4, k5, k6, k7⟩ := liveAt hz z1
  have hyz : z = y := link_one hz z1 hy (by omega) (by omega)
  rw [z3, hyz]
  obtain ⟨wq, q1, q2, q3⟩ := weight_q y.w (hw y hy) l7
  rw [q3, ← h2, q3, qn_qw (by omega)]
theorem step_at {g : Gr} {t lim s n : Nat} {c : List (Option Nat)} (hz : checkG g = 0) (hw : ∀ y ∈ g.links, y.w < 2 ^ 64) (hC : DistsP g t lim c) (hs : s < g.nodes.length) (h : g_ c s = some n) :
    ∀ i, i < (zsL g t c s n).length → ∃ u m, u < g.nodes.length ∧ g_ c u = some m ∧ m ≤ n ∧ (zsL g t c s n).drop i = zsL g t c u m ∧ (i = 0 → m = n) ∧
      (0 < i → ∃ u' m', u' < g.nodes.length ∧ g_ c u' = some m' ∧ m' ≤ n ∧ (zsL g t c s n)[i - 1]? = some (idf g.nodes u' : Int) ∧ wtV g.links (idf g.nodes u' : Int) (idf g.nodes u : Int) = qw (m' - m) ∧ m < m' ∧ m' ≤ m + 4194304) := by
  intro i
  induction i with
  | zero => intro _; exact ⟨s, n, hs, h, Nat.le_refl _, rfl, fun _ => rfl, fun h => absurd h (by omega)⟩
  | succ i ih =>
    intro hi
    obtain ⟨u, m, h1, h2, h3, h4, -, -⟩ := ih (by omega)
    have hdl : (zsL g t c u m).length = (zsL g t c s n).length - i := by rw [← h4, List.length_drop]
    have hut : u ≠ t := by
      intro e
      subst e
      unfold zsL at hdl
      rw [pathL_end] at hdl
      simp only [List.length_cons, List.length_nil] at hdl
      unfold zsL at hi
      simp only [List.length_cons] at hi
      omega
    obtain ⟨a, m', f', p1, p2, p3, p4, p5, p6⟩ := pathL_step hz hw hC h1 h2 hut (Nat.lt_succ_self m)
    obtain ⟨b, w, m2, q1, q2, q3, q4, q5, q6⟩ := left_fits hz hw hC h1 h2 hut
    have hab : b = a := by
      have hn3 := (check_zero.1 hz).2.2.1
      have e : (idf g.nodes a : Int) = idf g.nodes b := p1.symm.trans q1
      have h1 := (aheadOf hn3 p2).2
      rw [e, (aheadOf hn3 q2).2] at h1
      exact h1
    subst hab
    have hmm : m2 = m' := by rw [p3] at q4; simpa using q4.symm
    subst hmm
    have hbd := road_bd hz hw q3
    refine ⟨b, m2, p2, p3, by omega, ?_, fun h => absurd h (by omega), fun _ => ⟨u, m, h1, h2, h3, ?_, ?_, p4, by omega⟩⟩
    · have : (zsL g t c s n).drop (i + 1) = ((zsL g t c s n).drop i).drop 1 := by rw [List.drop_drop]
      rw [this, h4]
      show (pathL g t c (m + 1) u) = _
      rw [p6]
      show _ = _ :: _
      rw [pathL_fuel hz hw hC m2 b f' (m2 + 1) p2 p3 p5 (Nat.lt_succ_self _)]
    · show (zsL g t c s n)[i]? = _
      have : ((zsL g t c s n).drop i)[0]? = (zsL g t c s n)[i]? := by rw [List.getElem?_drop, Nat.add_zero]
      rw [← this, h4]; rfl
    · rw [road_wt hz hw q3]
      congr 1; omega
/-- How far it is still from a router of a path. -/
def lftOf (g : Gr) (c : List (Option Nat)) (zs : List Int) (i : Nat) : Nat := (g_ c (Nq.ahead g.nodes (zs.getD i 0))).getD 0
theorem left_at {g : Gr} {c : List (Option Nat)} {zs : List Int} {i u m : Nat} (hz : checkG g = 0) (hu : u < g.nodes.length) (h : g_ c u = some m) (hi : zs[i]? = some (idf g.nodes u : Int)) : lftOf g c zs i = m := by
  unfold lftOf
  rw [List.getD_eq_getElem?_getD, hi, Option.getD_some, (aheadOf (check_zero.1 hz).2.2.1 hu).2, h]; rfl
/-- All that a law of steps asks of router i of a path. -/
structure StepP (g : Gr) (t : Nat) (c : List (Option Nat)) (zs : List Int) (n i : Nat) : Prop where
  here : ∃ u m, u < g.nodes.length ∧ g_ c u = some m ∧ m ≤ n ∧ zs[i]? = some (idf g.nodes u : Int) ∧ zs.drop i = zsL g t c u m ∧ lftOf g c zs i = m
  first : i = 0 → lftOf g c zs i = n
  came : 0 < i → lftOf g c zs i < lftOf g c zs (i - 1) ∧ lftOf g c zs (i - 1) ≤ n ∧ lftOf g c zs (i - 1) ≤ lftOf g c zs i + 4194304 ∧ wtV g.links (zs.getD (i - 1) 0) (zs.getD i 0) = qw (lftOf g c zs (i - 1) - lftOf g c zs i)
theorem step_p {g : Gr} {t lim s n : Nat} {c : List (Option Nat)} (hz : checkG g = 0) (hw : ∀ y ∈ g.links, y.w < 2 ^ 64) (hC : DistsP g t lim c) (hs : s < g.nodes.length) (h : g_ c s = some n) (i : Nat) (hi : i < (zsL g t c s n).length) : StepP g t c (zsL g t c s n) n i := by
  obtain ⟨u, m, h1, h2, h3, h4, h5, h6⟩ := step_at hz hw hC hs h i hi
  have hget : (zsL g t c s n)[i]? = some (idf g.nodes u : Int) := by
    have : ((zsL g t c s n).drop i)[0]? = (zsL g t c s n)[i]? := by rw [List.getElem?_drop, Nat.add_zero]
    rw [← this, h4]; rfl
  have hl := left_at hz h1 h2 hget
  refine ⟨⟨u, m, h1, h2, h3, hget, h4, hl⟩, fun e => by rw [hl]; exact h5 e, fun e => ?_⟩
  obtain ⟨u', m', k1, k2, k3, k4, k5, k6, k7⟩ := h6 e
  have hl' := left_at hz k1 k2 k4
  rw [hl, hl', List.getD_eq_getElem?_getD, List.getD_eq_getElem?_getD, hget, k4]
  exact ⟨k6, k3, k7, k5⟩
theorem left_mono {g : Gr} {t : Nat} {c : List (Option Nat)} {zs : List Int} {n : Nat} (h : ∀ i, i < zs.length → StepP g t c zs n i) : ∀ i k, i < zs.length → k < i → lftOf g c zs i < lftOf g c zs k := by
  intro i
  induction i with
  | zero => intro k _ hk; omega
  | succ i ih =>
    intro k hi hk
    have h1 := ((h (i + 1) hi).came (by omega)).1
    rw [Nat.add_sub_cancel] at h1
    by_cases e : k = i
    · subst e; exact h1
    · have := ih k (by omega) (by omega); omega
theorem no_twice {g : Gr} {t : Nat} {c : List (Option Nat)} {zs : List Int} {n : Nat} (h : ∀ i, i < zs.length → StepP g t c zs n i) {i k : Nat} (hi : i < zs.length) (hk : k < i) : zs.getD k 0 ≠ zs.getD i 0 := by
  intro e
  have := left_mono h i k hi hk
  unfold lftOf at this
  rw [e] at this
  omega
theorem path_ends {g : Gr} {t lim s n : Nat} {c : List (Option Nat)} (hz : checkG g = 0) (hw : ∀ y ∈ g.links, y.w < 2 ^ 64) (hC : DistsP g t lim c) (hs : s < g.nodes.length) (h : g_ c s = some n) :
    (zsL g t c s n).getD ((zsL g t c s n).length - 1) 0 = (idf g.nodes t : Int) ∧ lftOf g c (zsL g t c s n) ((zsL g t c s n).length - 1) = 0 := by
  have h0 : 0 < (zsL g t c s n).length := by unfold zsL; simp
  obtain ⟨⟨u, m, h1, h2, h3, h4, h5, h6⟩, -, -⟩ := step_p hz hw hC hs h ((zsL g t c s n).length - 1) (by omega)
  have hl : (zsL g t c u m).length = 1 := by rw [← h5, List.length_drop]; omega
  have hut : u = t := by
    refine Classical.byContradiction fun hne => ?_
    obtain ⟨a, m', f', p1, p2, p3, p4, p5, p6⟩ := pathL_step hz hw hC h1 h2 hne (Nat.lt_succ_self m)
    unfold zsL at hl
    rw [p6] at hl
    simp at hl
  subst hut
  refine ⟨by rw [List.getD_eq_getElem?_getD, h4]; rfl, ?_⟩
  rw [h6]
  obtain ⟨a1, a2, a3, a4⟩ := dist_way hC h2
  have := ((a4 u).1 m h2).2.2 0 .nil
  omega
/-- How far one has come ahead of router i. -/
def cameTo (g : Gr) (c : List (Option Nat)) (zs : List Int) (n : Nat) : Nat → Nat
  | 0 => 0
  | i + 1 => n - lftOf g c zs i
theorem zsL_len (g : Gr) (t : Nat) (c : List (Option Nat)) (u n : Nat) : (zsL g t c u n).length ≤ n + 2 := by
  unfold zsL
  have : ∀ f u, (pathL g t c f u).length ≤ f := by
    intro f
    induction f with
    | zero => intro u; exact Nat.le_refl _
    | succ f ih =>
      intro u
      unfold pathL
      split
      · simp
      · have := ih (Nq.ahead g.nodes (bestK g.nodes (idf g.nodes u : Int) c ((g_ c u).getD 0) g.links g.links.length))
        simp only [List.length_cons]
        omega
  have := this (n + 1) u
  simp only [List.length_cons]
  omega
end Go.Pq
end
