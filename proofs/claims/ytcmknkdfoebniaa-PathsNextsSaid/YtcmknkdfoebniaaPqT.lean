/- Paths, plainly: never farther than by way of a third one, in floats; both ways alike. -/
import Derived.Test.YtcmknkdfoebniaaPqA
section
namespace Go.Pq
open Go.Fq Go.Nq Go.Iq Ieee
set_option linter.unusedVariables false
set_option linter.unusedSimpArgs false

theorem qw_ltB {n m : Nat} (hn : n < 2 ^ 53) (hm : m < 2 ^ 53) : (FloatKind.f64.format.order (qw n) (qw m) == some .lt) = decide (n < m) := by
  rw [cmp_lt, qw_nan hn, qw_nan hm, Bool.not_false, Bool.true_and, Bool.true_and]
  exact decide_eq_decide.2 (qw_lt hn hm)
theorem qw_gtB {n m : Nat} (hn : n < 2 ^ 53) (hm : m < 2 ^ 53) : (FloatKind.f64.format.order (qw n) (qw m) == some .gt) = decide (m < n) := by
  rw [cmp_gt, qw_nan hn, qw_nan hm, Bool.not_false, Bool.true_and, Bool.true_and]
  exact decide_eq_decide.2 (qw_lt hm hn)
theorem add_inf_qw (n : Nat) (h : n < 2 ^ 53) : double.add INF (qw n) = some INF := by
  have hn := qw_fin h
  unfold Format.add
  rw [read_fin _ hn.1, read_inf INF (by decide +kernel)]
  show some (double.write (.infinity (ng INF))) = _
  decide +kernel
theorem add_infs : double.add INF INF = some INF := by decide +kernel
theorem add_zeros : double.add (qw 0) (qw 0) = some (qw 0) := by decide +kernel
theorem way_up {g : Gr} (h : checkG g = 0) (hw : ∀ y ∈ g.links, y.w < 2 ^ 64) {s v n : Nat} (k : Way (Road g) s v n) : s = v ∨ (upAt g.nodes s = true ∧ upAt g.nodes v = true) := by
  induction k with
  | nil => exact Or.inl rfl
  | cons k r ih =>
    obtain ⟨-, -, -, -, r1, r2⟩ := road_bd h hw r
    rcases ih with rfl | ⟨e, -⟩
    · exact Or.inr ⟨r1, r2⟩
    · exact Or.inr ⟨e, r2⟩
theorem dist_way {g : Gr} {s lim : Nat} {l : List (Option Nat)} (hA : DistsP g s lim l) {v n : Nat} (h : g_ l v = some n) : upAt g.nodes s = true ∧ Way (Road g) s v n ∧ n < lim ∧ Least (Road g) s lim (g_ l) := by
  obtain ⟨-, h2⟩ := hA
  by_cases hu : upAt g.nodes s = true
  · rw [if_pos hu] at h2
    have := (h2 v).1 n h
    exact ⟨hu, this.1, this.2.1, h2⟩
  · rw [if_neg hu] at h2
    exact absurd ((h2 v).symm.trans h) (by simp)
theorem tri_sym {g : Gr} (h : checkG g = 0) (hw : ∀ y ∈ g.links, y.w < 2 ^ 64) {s i lim : Nat} {l c : List (Option Nat)} (hA : DistsP g s lim l) (hC : DistsP g i lim c) : g_ c s = g_ l i := by
  have key : ∀ {s i : Nat} {l c : List (Option Nat)}, DistsP g s lim l → DistsP g i lim c → ∀ n, g_ l i = some n → g_ c s = some n := by
    intro s i l c hA hC n hn
    obtain ⟨u1, u2, u3, u4⟩ := dist_way hA hn
    have ui : upAt g.nodes i = true := by
      rcases way_up h hw u2 with rfl | ⟨-, e⟩
      · exact u1
      · exact e
    obtain ⟨-, h2⟩ := hC
    rw [if_pos ui] at h2
    exact (Least.both (R := Road g) (fun u v w hr => road_sym hr) u4 h2).symm.trans hn
  cases h1 : g_ l i with
  | some n => exact key hA hC n h1
  | none =>
    cases h2 : g_ c s with
    | none => rfl
    | some m => exact absurd (h1.symm.trans (key hC hA m h2)) (by simp)
theorem tri_facts {g : Gr} {s i lim : Nat} {l c : List (Option Nat)} (hA : DistsP g s lim l) (hC : DistsP g i lim c) (hl : lim ≤ 4294967296) (k : Nat) :
    ∃ S, double.add (dw (g_ l i)) (dw (g_ c k)) = some S ∧ ((FloatKind.f64.format.order S (qw lim) == some .lt) = false ∨ ((FloatKind.f64.format.order S (qw lim) == some .lt) = true ∧ (FloatKind.f64.format.order (dw (g_ l k)) S == some .gt) = false)) := by
  have hinf : (FloatKind.f64.format.order INF (qw lim) == some .lt) = false := dw_lt (a := none) (b := some lim) trivial hl
  have sA := hA.sm hl i
  have sC := hC.sm hl k
  cases h1 : g_ l i with
  | none =>
    refine ⟨INF, ?_, Or.inl hinf⟩
    cases h2 : g_ c k with
    | none => exact add_infs
    | some m =>
      rw [h2] at sC
      exact add_inf_qw m (by unfold Sm at sC; omega)
  | some a =>
    rw [h1] at sA
    unfold Sm at sA
    simp only at sA
    cases h2 : g_ c k with
    | none => exact ⟨INF, add_qw_inf a (by omega), Or.inl hinf⟩
    | some m =>
      rw [h2] at sC
      unfold Sm at sC
      simp only at sC
      refine ⟨qw (a + m), ?_, ?_⟩
      · by_cases hz : a + m = 0
        · have ha : a = 0 := by omega
          have hm : m = 0 := by omega
          subst ha
          subst hm
          exact add_zeros
        · exact add_qw a m (by omega) hz
      · rw [qw_ltB (by omega) (by omega)]
        by_cases hlt : a + m < lim
        · refine Or.inr ⟨decide_eq_true hlt, ?_⟩
          obtain ⟨u1, u2, u3, u4⟩ := dist_way hA h1
          obtain ⟨v1, v2, v3, v4⟩ := dist_way hC h2
          have hj := Way.join u2 v2
          cases h3 : g_ l k with
          | none => have := (u4 k).2 h3 _ hj; omega
          | some d =>
            have hd := (u4 k).1 d h3
            have := hd.2.2 _ hj
            show (FloatKind.f64.format.order (qw d) (qw (a + m)) == some .gt) = false
            rw [qw_gtB (by omega) (by omega)]
            exact decide_eq_false (by omega)
        · exact Or.inl (decide_eq_false hlt)
end Go.Pq
end
