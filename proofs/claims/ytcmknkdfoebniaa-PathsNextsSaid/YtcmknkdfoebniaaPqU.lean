/- Paths, plainly: the least number behind which what is left makes the distance is the first hop. -/
import Derived.Test.YtcmknkdfoebniaaPqT
section
namespace Go.Pq
open Go.Fq Go.Nq Go.Iq Ieee
set_option linter.unusedVariables false
set_option linter.unusedSimpArgs false

theorem liveAt {g : Gr} (hz : checkG g = 0) {y : Lk} (hy : y ∈ g.links) : has g.nodes y.a = true ∧ has g.nodes y.b = true ∧ Nq.ahead g.nodes y.a < g.nodes.length ∧ Nq.ahead g.nodes y.b < g.nodes.length ∧ liveL g.nodes y = (y.up && upAt g.nodes (Nq.ahead g.nodes y.a) && upAt g.nodes (Nq.ahead g.nodes y.b)) ∧ y.a < y.b ∧ weightF y.w = 0 := by
  obtain ⟨n1, n2, n3, n4⟩ := check_zero.1 hz
  obtain ⟨b1, b2⟩ := links_iff.1 n4
  obtain ⟨⟨h0, h1, h2⟩, h3⟩ := b1 y hy
  obtain ⟨k1, e1⟩ := (has_at n3 y.a).1 h1
  obtain ⟨k2, e2⟩ := (has_at n3 y.b).1 h2
  refine ⟨h1, h2, k1, k2, ?_, h0, h3⟩
  unfold liveL
  rw [upB_at n3, upB_at n3, dif_pos h1, dif_pos h2, upAt_is k1, upAt_is k2]
def oth (fr : Int) (y : Lk) : Int := if y.a = fr then y.b else if y.b = fr then y.a else 0
/-- Does what is left behind this link make the distance? -/
def sumIs (A : Option Nat) (q n : Nat) : Bool := match A with
  | some m => decide (m + q = n)
  | none => false
def fitB (ns : List Nd) (fr : Int) (c : List (Option Nat)) (n : Nat) (y : Lk) : Bool := decide (oth fr y ≠ 0) && y.up && sumIs (g_ c (Nq.ahead ns (oth fr y))) (qn y.w) n
def stepB (ns : List Nd) (fr : Int) (c : List (Option Nat)) (n : Nat) (b : Int) (y : Lk) : Int := if fitB ns fr c n y = true then (if b = 0 ∨ oth fr y < b then oth fr y else b) else b
def bestK (ns : List Nd) (fr : Int) (c : List (Option Nat)) (n : Nat) (ls : List Lk) (k : Nat) : Int := (ls.take k).foldl (stepB ns fr c n) 0
theorem bestK_succ (ns : List Nd) (fr : Int) (c : List (Option Nat)) (n : Nat) (ls : List Lk) {k : Nat} (h : k < ls.length) : bestK ns fr c n ls (k + 1) = stepB ns fr c n (bestK ns fr c n ls k) ls[k] := by
  unfold bestK
  rw [List.take_succ_eq_append_getElem h, List.foldl_append]
  rfl
theorem fit_oth {ns : List Nd} {fr : Int} {c : List (Option Nat)} {n : Nat} {y : Lk} (h : fitB ns fr c n y = true) : oth fr y ≠ 0 ∧ y.up = true ∧ ∃ m, g_ c (Nq.ahead ns (oth fr y)) = some m ∧ m + qn y.w = n := by
  unfold fitB at h
  simp only [Bool.and_eq_true, decide_eq_true_eq] at h
  refine ⟨h.1.1, h.1.2, ?_⟩
  have h2 := h.2
  unfold sumIs at h2
  split at h2
  · rename_i m hm
    exact ⟨m, hm, of_decide_eq_true h2⟩
  · cases h2
theorem bestK_spec (ns : List Nd) (fr : Int) (c : List (Option Nat)) (n : Nat) (ls : List Lk) (k : Nat) (hk : k ≤ ls.length) :
    (bestK ns fr c n ls k = 0 ∧ ∀ j (hj : j < ls.length), j < k → fitB ns fr c n ls[j] = false) ∨
    ((∃ j, ∃ hj : j < ls.length, j < k ∧ fitB ns fr c n ls[j] = true ∧ oth fr ls[j] = bestK ns fr c n ls k) ∧ ∀ j (hj : j < ls.length), j < k → fitB ns fr c n ls[j] = true → bestK ns fr c n ls k ≤ oth fr ls[j]) := by
  induction k with
  | zero => exact Or.inl ⟨rfl, fun j hj h => absurd h (by omega)⟩
  | succ k ih =>
    have hlt : k < ls.length := hk
    have ih := ih (by omega)
    rw [bestK_succ ns fr c n ls hlt]
    generalize bestK ns fr c n ls k = b at *
    unfold stepB
    by_cases hf : fitB ns fr c n ls[k] = true
    · rw [if_pos hf]
      refine Or.inr ?_
      rcases ih with ⟨rfl, h2⟩ | ⟨⟨j, hj, h1, h2, h3⟩, h4⟩
      · rw [if_pos (Or.inl rfl)]
        refine ⟨⟨k, hlt, by omega, hf, rfl⟩, fun j hj hjk hfj => ?_⟩
        by_cases e : j = k
        · subst e; exact Int.le_refl _
        · have := h2 j hj (by omega); rw [this] at hfj; cases hfj
      · have hb0 : b ≠ 0 := by rw [← h3]; exact (fit_oth h2).1
        by_cases hl : oth fr ls[k] < b
        · rw [if_pos (Or.inr hl)]
          refine ⟨⟨k, hlt, by omega, hf, rfl⟩, fun j' hj' hjk hfj => ?_⟩
          by_cases e : j' = k
          · subst e; exact Int.le_refl _
          · have := h4 j' hj' (by omega) hfj; omega
        · rw [if_neg (by rintro (e | e); exact hb0 e; exact hl e)]
          refine ⟨⟨j, hj, by omega, h2, h3⟩, fun j' hj' hjk hfj => ?_⟩
          by_cases e : j' = k
          · subst e; omega
          · exact h4 j' hj' (by omega) hfj
    · rw [if_neg hf]
      rcases ih with ⟨h1, h2⟩ | ⟨⟨j, hj, h1, h2, h3⟩, h4⟩
      · refine Or.inl ⟨h1, fun j hj hjk => ?_⟩
        by_cases e : j = k
        · subst e; simpa using hf
        · exact h2 j hj (by omega)
      · refine Or.inr ⟨⟨j, hj, by omega, h2, h3⟩, fun j' hj' hjk hfj => ?_⟩
        by_cases e : j' = k
        · subst e; exact absurd hfj hf
        · exact h4 j' hj' (by omega) hfj
theorem id_at {ns : List Nd} (h : NodesP ns) {x : Int} (hx : has ns x = true) : (idf ns (Nq.ahead ns x) : Int) = x ∧ x ≠ 0 := by
  obtain ⟨hk, he⟩ := (has_at h x).1 hx
  obtain ⟨h1, h2, h3⟩ := idf_is h hk
  rw [he] at h1
  exact ⟨h1.symm, by omega⟩
theorem way_pos {R : Nat → Nat → Nat → Prop} {id : Nat → Nat} {s v n : Nat} (hg : Good R id) (h : Way R s v n) (hne : s ≠ v) : 0 < n := by
  cases h with
  | nil => exact absurd rfl hne
  | cons hu hr => have := hg.pos _ _ _ hr; omega
/-- What fits is a first hop. -/
theorem fit_road {g : Gr} {t lim n : Nat} {c : List (Option Nat)} {fr : Int} (hz : checkG g = 0) (hw : ∀ y ∈ g.links, y.w < 2 ^ 64) (hC : DistsP g t lim c) (hs : upAt g.nodes (Nq.ahead g.nodes fr) = true) {y : Lk} (hy : y ∈ g.links) (h : fitB g.nodes fr c n y = true) :
    ∃ m, Road g (Nq.ahead g.nodes fr) (Nq.ahead g.nodes (oth fr y)) (qn y.w) ∧ Way (Road g) (Nq.ahead g.nodes (oth fr y)) t m ∧ n = qn y.w + m ∧ (idf g.nodes (Nq.ahead g.nodes (oth fr y)) : Int) = oth fr y := by
  obtain ⟨h0, hup, m, hm, hn⟩ := fit_oth h
  obtain ⟨l1, l2, l3, l4, l5, l6, l7⟩ := liveAt hz hy
  obtain ⟨u1, u2, u3, -⟩ := dist_way hC hm
  have ux : upAt g.nodes (Nq.ahead g.nodes (oth fr y)) = true := by
    rcases way_up hz hw u2 with e | ⟨-, e⟩
    · rw [← e]; exact u1
    · exact e
  have n3 := (check_zero.1 hz).2.2.1
  have key : has g.nodes (oth fr y) = true ∧ Road g (Nq.ahead g.nodes fr) (Nq.ahead g.nodes (oth fr y)) (qn y.w) := by
    unfold oth at *
    by_cases ea : y.a = fr
    · rw [if_pos ea] at *
      have hl : liveL g.nodes y = true := by rw [l5, hup, ea, hs, ux]; rfl
      exact ⟨l2, mem_rds.2 ⟨y, List.mem_filter.2 ⟨hy, hl⟩, rfl, Or.inl ⟨by rw [ea], rfl⟩⟩⟩
    · rw [if_neg ea] at *
      by_cases eb : y.b = fr
      · rw [if_pos eb] at *
        have hl : liveL g.nodes y = true := by rw [l5, hup, eb, hs, ux]; rfl
        exact ⟨l1, mem_rds.2 ⟨y, List.mem_filter.2 ⟨hy, hl⟩, rfl, Or.inr ⟨by rw [eb], rfl⟩⟩⟩
      · rw [if_neg eb] at h0; exact absurd rfl h0
  exact ⟨m, key.2, Way.back (R := Road g) (fun u v w hr => road_sym hr) u2, by omega, (id_at n3 key.1).1⟩
theorem next_fo {g : Gr} {t lim n f : Nat} {c : List (Option Nat)} {D : List (Option (Nat × Nat))} {fr : Int} (hz : checkG g = 0) (hw : ∀ y ∈ g.links, y.w < 2 ^ 64) (hC : DistsP g t lim c) (hS : StopsP g (Nq.ahead g.nodes fr) lim D) (hfr : has g.nodes fr = true) (hst : Nq.ahead g.nodes fr ≠ t) (hd : dd D t = some (n, f)) :
    bestK g.nodes fr c n g.links g.links.length = (f : Int) := by
  have n3 := (check_zero.1 hz).2.2.1
  have hg := road_good hz hw
  obtain ⟨a1, a2, a3⟩ := hS.at hz hw hd
  have hL : LeastF (Road g) (idf g.nodes) (Nq.ahead g.nodes fr) lim (dd D) := by
    obtain ⟨-, h2⟩ := hS
    rw [if_pos a3] at h2
    exact h2
  have hn0 : 0 < n := way_pos hg a2.way hst
  obtain ⟨⟨x, w, m, r1, r2, r3, r4⟩, q⟩ := hL.first hg hd hn0
  -- the first hop fits
  have hfit : ∃ j, ∃ hj : j < g.links.length, fitB g.nodes fr c n g.links[j] = true ∧ oth fr g.links[j] = (f : Int) := by
    have rr := r1
    unfold Road at rr
    rw [mem_rds] at rr
    obtain ⟨y, h1, h2, h3⟩ := rr
    obtain ⟨hy, hl⟩ := List.mem_filter.1 h1
    obtain ⟨j, hj, hyj⟩ := List.getElem_of_mem hy
    obtain ⟨l1, l2, l3, l4, l5, l6, l7⟩ := liveAt hz hy
    have hup : y.up = true := by
      rw [l5] at hl
      simp only [Bool.and_eq_true] at hl
      exact hl.1.1
    have ifr := (id_at n3 hfr).1
    have ia := (id_at n3 l1).1
    have ib := (id_at n3 l2).1
    have ho : oth fr y ≠ 0 ∧ Nq.ahead g.nodes (oth fr y) = x ∧ oth fr y = (f : Int) := by
      unfold oth
      rcases h3 with ⟨e1, e2⟩ | ⟨e1, e2⟩
      · have ea : y.a = fr := by rw [← ia, ← ifr, e1]
        rw [if_pos ea]
        exact ⟨(id_at n3 l2).2, e2, by rw [← ib, e2, r2]⟩
      · have eb : y.b = fr := by rw [← ib, ← ifr, e1]
        rw [if_neg (by omega), if_pos eb]
        exact ⟨(id_at n3 l1).2, e2, by rw [← ia, e2, r2]⟩
    refine ⟨j, hj, ?_, by rw [hyj]; exact ho.2.2⟩
    rw [hyj]
    have hcx : g_ c x = some m := by
      obtain ⟨-, hc2⟩ := hC
      have ut : upAt g.nodes t = true := by
        rcases way_up hz hw a2.way with e | ⟨-, e⟩
        · exact absurd e hst
        · exact e
      rw [if_pos ut] at hc2
      have hwx : Way (Road g) t x m := Way.back (R := Road g) (fun u v w hr => road_sym hr) r3
      cases hq : g_ c x with
      | none => have := (hc2 x).2 hq m hwx; omega
      | some m' =>
        have b1 := (hc2 x).1 m' hq
        have b2 := b1.2.2 m hwx
        have b3 := hL.least
        have b4 := (b3 t).1 n (by simp [hd])
        have b5 := b4.2.2 _ ((Way.one r1).join (Way.back (R := Road g) (fun u v w hr => road_sym hr) b1.1))
        congr 1
        omega
    unfold fitB
    rw [ho.2.1, hcx, hup, decide_eq_true ho.1]
    unfold sumIs
    simp only [Bool.true_and, decide_eq_true_eq]
    omega
  obtain ⟨j0, hj0, f1, f2⟩ := hfit
  rcases bestK_spec g.nodes fr c n g.links g.links.length (Nat.le_refl _) with ⟨h1, h2⟩ | ⟨⟨j, hj, -, h2, h3⟩, h4⟩
  · have := h2 j0 hj0 hj0; rw [this] at f1; cases f1
  · have hle := h4 j0 hj0 hj0 f1
    obtain ⟨m', k1, k2, k3, k4⟩ := fit_road hz hw hC a3 (List.getElem_mem hj) h2
    have := q _ _ _ k1 k2 k3
    omega
end Go.Pq
end
