/- Paths, plainly: triangles; first hops; the path hop by hop; roads that rise. Steps of a path, plainly: from each of its routers what is left of it is the path from there. -/
import Derived.Test.YtjlfpjjfldbknaaGreatPqA
import Derived.Test.YtjlfpjjfldbknaaGreatFqT
section
section
namespace Go.Pq
open Go.Fq Go.Nq Go.Iq Ieee
set_option linter.unusedVariables false
set_option linter.unusedSimpArgs false

theorem add_inf_qw (n : Nat) (h : n < 2 ^ 53) : double.add INF (qw n) = some INF := by
  have hn := qw_fin h
  unfold Format.add
  rw [read_fin _ hn.1, read_inf INF (by decide +kernel)]
  show some (double.write (.infinity (ng INF))) = _
  decide +kernel
theorem way_up {g : Gr} (h : checkG g = 0) (hw : ∀ y ∈ g.links, y.w < 2 ^ 64) {s v n : Nat} (k : Way (Road g) s v n) : s = v ∨ (upAt g.nodes s = true ∧ upAt g.nodes v = true) := by
  induction k with
  | nil => exact Or.inl rfl
  | cons k r ih =>
    obtain ⟨-, -, -, -, r1, r2⟩ := road_bd h hw r
    rcases ih with rfl | ⟨e, -⟩
    · exact Or.inr ⟨r1, r2⟩
    · exact Or.inr ⟨e, r2⟩
theorem dist_way {g : Gr} {s lim : Nat} {l : List (Option Nat)} (hA : DistsP g s lim l) {v n : Nat} (h : g_ l v = some n) : upAt g.nodes s = true ∧ Way (Road g) s v n ∧ n < lim ∧ Least (Road g) s lim (g_ l) := by
  obtain ⟨-, h2⟩ := hA
  by_cases hu : upAt g.nodes s = true
  · rw [if_pos hu] at h2
    have := (h2 v).1 n h
    exact ⟨hu, this.1, this.2.1, h2⟩
  · rw [if_neg hu] at h2
    exact absurd ((h2 v).symm.trans h) (by simp)
theorem tri_sym {g : Gr} (h : checkG g = 0) (hw : ∀ y ∈ g.links, y.w < 2 ^ 64) {s i lim : Nat} {l c : List (Option Nat)} (hA : DistsP g s lim l) (hC : DistsP g i lim c) : g_ c s = g_ l i := by
  have key : ∀ {s i : Nat} {l c : List (Option Nat)}, DistsP g s lim l → DistsP g i lim c → ∀ n, g_ l i = some n → g_ c s = some n := by
    intro s i l c hA hC n hn
    obtain ⟨u1, u2, u3, u4⟩ := dist_way hA hn
    have ui : upAt g.nodes i = true := by
      rcases way_up h hw u2 with rfl | ⟨-, e⟩
      · exact u1
      · exact e
    obtain ⟨-, h2⟩ := hC
    rw [if_pos ui] at h2
    exact (Least.both (R := Road g) (fun u v w hr => road_sym hr) u4 h2).symm.trans hn
  cases h1 : g_ l i with
  | some n => exact key hA hC n h1
  | none =>
    cases h2 : g_ c s with
    | none => rfl
    | some m => exact absurd (h1.symm.trans (key hC hA m h2)) (by simp)
end Go.Pq
end

section
namespace Go.Pq
open Go.Fq Go.Nq Go.Iq Ieee
set_option linter.unusedVariables false
set_option linter.unusedSimpArgs false

theorem liveAt {g : Gr} (hz : checkG g = 0) {y : Lk} (hy : y ∈ g.links) : has g.nodes y.a = true ∧ has g.nodes y.b = true ∧ Nq.ahead g.nodes y.a < g.nodes.length ∧ Nq.ahead g.nodes y.b < g.nodes.length ∧ liveL g.nodes y = (y.up && upAt g.nodes (Nq.ahead g.nodes y.a) && upAt g.nodes (Nq.ahead g.nodes y.b)) ∧ y.a < y.b ∧ weightF y.w = 0 := by
  obtain ⟨n1, n2, n3, n4⟩ := check_zero.1 hz
  obtain ⟨b1, b2⟩ := links_iff.1 n4
  obtain ⟨⟨h0, h1, h2⟩, h3⟩ := b1 y hy
  obtain ⟨k1, e1⟩ := (has_at n3 y.a).1 h1
  obtain ⟨k2, e2⟩ := (has_at n3 y.b).1 h2
  refine ⟨h1, h2, k1, k2, ?_, h0, h3⟩
  unfold liveL
  rw [upB_at n3, upB_at n3, dif_pos h1, dif_pos h2, upAt_is k1, upAt_is k2]
/-- Does what is left behind this link make the distance? -/
def sumIs (A : Option Nat) (q n : Nat) : Bool := match A with
  | some m => decide (m + q = n)
  | none => false
theorem id_at {ns : List Nd} (h : NodesP ns) {x : Int} (hx : has ns x = true) : (idf ns (Nq.ahead ns x) : Int) = x ∧ x ≠ 0 := by
  obtain ⟨hk, he⟩ := (has_at h x).1 hx
  obtain ⟨h1, h2, h3⟩ := idf_is h hk
  rw [he] at h1
  exact ⟨h1.symm, by omega⟩
end Go.Pq
end

section
namespace Go.Pq
open Go.Fq Go.Nq Go.Iq Ieee
set_option linter.unusedVariables false
set_option linter.unusedSimpArgs false

theorem aheadOf {ns : List Nd} (h : NodesP ns) {k : Nat} (hk : k < ns.length) : has ns (idf ns k : Int) = true ∧ Nq.ahead ns (idf ns k : Int) = k := by
  have e := (idf_is h hk).1
  have hh : has ns (idf ns k : Int) = true := by
    unfold has
    rw [List.any_eq_true]
    exact ⟨ns[k], List.getElem_mem hk, by simp [e]⟩
  refine ⟨hh, ?_⟩
  obtain ⟨hk2, hx⟩ := (has_at h _).1 hh
  obtain ⟨-, h4⟩ := ahead_spec h (idf ns k : Int)
  have a1 := h4 k hk
  rw [e] at a1
  rcases Nat.lt_trichotomy (Nq.ahead ns (idf ns k : Int)) k with hl | he | hg
  · have h5 := nodes_rise h k (Nq.ahead ns (idf ns k : Int)) hl hk
    rw [hx, e] at h5
    omega
  · exact he
  · have := a1.1 hg; omega
end Go.Pq
end

section
namespace Go.Pq
open Go.Fq Go.Nq Go.Iq Ieee
set_option linter.unusedVariables false
set_option linter.unusedSimpArgs false

theorem mem_lkRd {ns : List Nd} {y : Lk} {u : Nat} {r : Rd} : r ∈ lkRd ns y u ↔ (Nq.ahead ns y.a = u ∧ r = (Nq.ahead ns y.b, qn y.w)) ∨ (Nq.ahead ns y.b = u ∧ r = (Nq.ahead ns y.a, qn y.w)) := by
  unfold lkRd
  rw [List.mem_append]
  constructor
  · rintro (h | h)
    · split at h
      · rename_i e; exact Or.inl ⟨e, by simpa using h⟩
      · simp at h
    · split at h
      · rename_i e; exact Or.inr ⟨e, by simpa using h⟩
      · simp at h
  · rintro (⟨e, rfl⟩ | ⟨e, rfl⟩)
    · exact Or.inl (by rw [if_pos e]; simp)
    · exact Or.inr (by rw [if_pos e]; simp)
theorem links_pair {g : Gr} (hz : checkG g = 0) : g.links.Pairwise (fun y z => before y z = true) := by
  obtain ⟨b1, b2⟩ := links_iff.1 (check_zero.1 hz).2.2.2
  rw [List.pairwise_iff_getElem]
  intro i j hi hj hij
  exact links_rise b2 j i hij hj
theorem before_lt {y z : Lk} (h : before y z = true) : y.a < z.a ∨ (y.a = z.a ∧ y.b < z.b) := by
  unfold before at h
  simpa using h
theorem rds_rise {g : Gr} (hz : checkG g = 0) (u : Nat) : (rds g.nodes (liveG g).links u).Pairwise (fun r r' => idf g.nodes r.1 < idf g.nodes r'.1) := by
  have n3 := (check_zero.1 hz).2.2.1
  unfold rds
  rw [List.pairwise_flatMap]
  constructor
  · intro y hy
    obtain ⟨-, -, -, -, a3, -⟩ := live_ends hz hy
    unfold lkRd
    by_cases e : Nq.ahead g.nodes y.a = u
    · rw [if_pos e, if_neg (by omega)]; simp
    · rw [if_neg e]
      split <;> simp
  · refine ((links_pair hz).filter _).imp_of_mem ?_
    intro y z hy hz' hb r hr r' hr'
    obtain ⟨ya, yb, -, -, -, -, -, -, hyl⟩ := live_ends hz hy
    obtain ⟨za, zb, -, -, -, -, -, -, hzl⟩ := live_ends hz hz'
    have y0 := (liveAt hz hyl).2.2.2.2.2.1
    have z0 := (liveAt hz hzl).2.2.2.2.2.1
    have e1 := (id_at n3 ya).1
    have e2 := (id_at n3 yb).1
    have e3 := (id_at n3 za).1
    have e4 := (id_at n3 zb).1
    have hlt := before_lt hb
    rw [mem_lkRd] at hr hr'
    rcases hr with ⟨h1, rfl⟩ | ⟨h1, rfl⟩ <;> rcases hr' with ⟨h2, rfl⟩ | ⟨h2, rfl⟩ <;> simp only
    · rw [h1] at e1; rw [h2] at e3; omega
    · rw [h1] at e1; rw [h2] at e4; omega
    · rw [h1] at e2; rw [h2] at e3; omega
    · rw [h1] at e2; rw [h2] at e4; omega
end Go.Pq
end
end

section
namespace Go.Pq
open Go.Fq Go.Nq Go.Iq Ieee
set_option linter.unusedVariables false
set_option linter.unusedSimpArgs false

end Go.Pq
end
