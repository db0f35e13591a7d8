/- Balls, plainly: the table of a path of four. -/
import Derived.Test.YtomcnaghdfhkkaaBqA
namespace Go.Bq
open Go.Fq Go.Nq Go.Iq Go.Pq
set_option linter.unusedVariables false
set_option linter.unusedSimpArgs false

def paG : Gr := ⟨[⟨1, true, true⟩, ⟨2, true, false⟩, ⟨3, true, false⟩, ⟨4, true, false⟩], [⟨1, 2, 4607182418800017408, true⟩, ⟨2, 3, 4607182418800017408, true⟩, ⟨3, 4, 4607182418800017408, true⟩]⟩
theorem pa_check : checkG paG = 0 := by decide +kernel
theorem pa_wts : Wts paG := by
  have : ∀ y ∈ paG.links, y.w < 2 ^ 64 := by decide
  exact this
theorem pa_live : liveG paG = paG := by
  have h1 : (liveG paG).nodes = paG.nodes := by decide +kernel
  have h2 : (liveG paG).links = paG.links := by decide +kernel
  cases h : liveG paG with
  | mk a b => rw [h] at h1 h2; simp only at h1 h2; rw [h1, h2]
theorem pa_r0 : rds paG.nodes (liveG paG).links 0 = [(1, 4)] := by decide +kernel
theorem pa_r1 : rds paG.nodes (liveG paG).links 1 = [(0, 4), (2, 4)] := by decide +kernel
theorem pa_r2 : rds paG.nodes (liveG paG).links 2 = [(1, 4), (3, 4)] := by decide +kernel
theorem pa_r3 : rds paG.nodes (liveG paG).links 3 = [(2, 4)] := by decide +kernel
theorem pa_road {u v w : Nat} (h : Pq.Road paG u v w) : w = 4 ∧ u < 4 ∧ v < 4 ∧ (v = u + 1 ∨ u = v + 1) := by
  have hb := (road_bd pa_check pa_wts h).1
  have hb1 : u < 4 := hb
  have hc : u = 0 ∨ u = 1 ∨ u = 2 ∨ u = 3 := by omega
  unfold Pq.Road at h
  rcases hc with rfl | rfl | rfl | rfl
  · rw [pa_r0] at h
    simp only [List.mem_cons, Prod.mk.injEq, List.not_mem_nil, or_false] at h
    omega
  · rw [pa_r1] at h
    simp only [List.mem_cons, Prod.mk.injEq, List.not_mem_nil, or_false] at h
    omega
  · rw [pa_r2] at h
    simp only [List.mem_cons, Prod.mk.injEq, List.not_mem_nil, or_false] at h
    omega
  · rw [pa_r3] at h
    simp only [List.mem_cons, Prod.mk.injEq, List.not_mem_nil, or_false] at h
    omega
theorem pa_on {u : Nat} (h : u < 3) : Pq.Road paG u (u + 1) 4 := by
  have hc : u = 0 ∨ u = 1 ∨ u = 2 := by omega
  unfold Pq.Road
  rcases hc with rfl | rfl | rfl
  · rw [pa_r0]; decide
  · rw [pa_r1]; decide
  · rw [pa_r2]; decide
theorem pa_up (s : Nat) : ∀ k, s + k < 4 → Pq.Way (Pq.Road paG) s (s + k) (4 * k) := by
  intro k
  induction k with
  | zero => intro _; exact .nil
  | succ k ih =>
    intro h
    have := Pq.Way.cons (ih (by omega)) (pa_on (u := s + k) (by omega))
    exact this
theorem pa_way {s v : Nat} (hs : s < 4) (hv : v < 4) : Pq.Way (Pq.Road paG) s v (4 * (s - v + (v - s))) := by
  by_cases h : s ≤ v
  · have := pa_up s (v - s) (by omega)
    rw [show s + (v - s) = v by omega] at this
    rw [show s - v + (v - s) = v - s by omega]
    exact this
  · have := pa_up v (s - v) (by omega)
    rw [show v + (s - v) = s by omega] at this
    rw [show s - v + (v - s) = s - v by omega]
    exact Pq.Way.back (R := Pq.Road paG) (fun u v w hr => road_sym hr) this
def paD (s : Nat) : List (Option Nat) := (List.range 4).map (fun v => some (4 * (s - v + (v - s))))
theorem paD_at (s : Nat) {v : Nat} (h : v < 4) : g_ (paD s) v = some (4 * (s - v + (v - s))) := by
  unfold paD g_; simp [List.getD_eq_getElem?_getD, h]
theorem pa_dists {s : Nat} (hs : s < 4) : DistsP paG s 40 (paD s) := by
  refine ⟨by simp [paD, paG], ?_⟩
  have hu : upAt paG.nodes s = true := by
    have hc : s = 0 ∨ s = 1 ∨ s = 2 ∨ s = 3 := by omega
    rcases hc with rfl | rfl | rfl | rfl <;> decide
  rw [if_pos hu]
  have key : ∀ v n, g_ (paD s) v = some n → v < 4 ∧ n = 4 * (s - v + (v - s)) := by
    intro v n h
    by_cases hv : v < 4
    · rw [paD_at s hv] at h; simp only [Option.some.injEq] at h; exact ⟨hv, h.symm⟩
    · rw [g_far (by simpa [paD] using hv)] at h; cases h
  refine least_of_fixed ?_ (fun v n hv => ?_) (fun u v w n hr hd hl => ?_)
  · rw [paD_at s hs]; simp
  · obtain ⟨h1, rfl⟩ := key v n hv
    exact ⟨pa_way hs h1, by omega⟩
  · obtain ⟨h1, rfl⟩ := key u n hd
    obtain ⟨rfl, -, h3, h4⟩ := pa_road hr
    exact ⟨_, paD_at s h3, by omega⟩
theorem pa_dst {s : Nat} (hs : s < 4) : dst paG 40 s = paD s := (dst_is pa_check pa_wts (pa_dists hs)).symm
theorem pa_ahead : Nq.ahead paG.nodes 1 = 0 ∧ Nq.ahead paG.nodes 2 = 1 ∧ Nq.ahead paG.nodes 3 = 2 ∧ Nq.ahead paG.nodes 4 = 3 := by decide
theorem pa_home3 : homeI paG 40 3 = (1, some 8) := by
  obtain ⟨e1, e2, e3, e4⟩ := pa_ahead
  unfold homeI homeS dI
  rw [e3, pa_dst (by omega)]
  show (List.foldl _ _ [_, _, _, _]) = _
  simp only [List.foldl_cons, List.foldl_nil, e1, paD_at 2 (show 0 < 4 by omega)]
  simp [ltO]
theorem pa_home4 : homeI paG 40 4 = (1, some 12) := by
  obtain ⟨e1, e2, e3, e4⟩ := pa_ahead
  unfold homeI homeS dI
  rw [e4, pa_dst (by omega)]
  show (List.foldl _ _ [_, _, _, _]) = _
  simp only [List.foldl_cons, List.foldl_nil, e1, paD_at 3 (show 0 < 4 by omega)]
  simp [ltO]
theorem pa_d {x y : Int} {s t : Nat} (hs : Nq.ahead paG.nodes x = s) (ht : Nq.ahead paG.nodes y = t) (h1 : s < 4) (h2 : t < 4) : dI paG 40 x y = some (4 * (t - s + (s - t))) := by
  unfold dI
  rw [hs, ht, pa_dst h2, paD_at t h1]
theorem pa_k1 : kindI paG 40 2 ⟨1, true, true⟩ = 1 := by
  unfold kindI
  rw [if_pos rfl]
  simp only
  rw [pa_d pa_ahead.2.1 pa_ahead.1 (by omega) (by omega)]
  simp
theorem pa_k3 : kindI paG 40 2 ⟨3, true, false⟩ = 2 := by
  unfold kindI
  simp only
  rw [if_neg (by decide), pa_d pa_ahead.2.1 pa_ahead.2.2.1 (by omega) (by omega), pa_home3]
  simp [ltO]
theorem pa_k4 : kindI paG 40 2 ⟨4, true, false⟩ = 2 := by
  unfold kindI
  simp only
  rw [if_neg (by decide), pa_d pa_ahead.2.1 pa_ahead.2.2.2 (by omega) (by omega), pa_home4]
  simp [ltO]
theorem pa_pick (k : Int) : tabK paG 40 2 k 4 = pickI paG 40 2 k ⟨1, true, true⟩ ++ (pickI paG 40 2 k ⟨2, true, false⟩ ++ (pickI paG 40 2 k ⟨3, true, false⟩ ++ (pickI paG 40 2 k ⟨4, true, false⟩ ++ []))) := rfl
theorem pa_table : ∃ e1 e2 e3 : En, tabI paG 40 2 = [e1, e2, e3] ∧ e1.kind = 1 ∧ e1.dest = 1 ∧ e2.kind = 2 ∧ e2.dest = 3 ∧ e3.dest = 4 := by
  refine ⟨enI paG 40 2 ⟨1, true, true⟩, enI paG 40 2 ⟨3, true, false⟩, enI paG 40 2 ⟨4, true, false⟩, ?_, ?_, ?_, ?_, ?_, ?_⟩
  · unfold tabI
    show tabK paG 40 2 1 4 ++ tabK paG 40 2 2 4 ++ tabK paG 40 2 3 4 = _
    rw [pa_pick, pa_pick, pa_pick]
    unfold pickI
    simp only [pa_k1, pa_k3, pa_k4]
    simp
  · unfold enI; rw [if_pos rfl]; exact pa_k1
  · unfold enI; rw [if_pos rfl]
  · unfold enI; rw [if_neg (by decide)]; exact pa_k3
  · unfold enI; rw [if_neg (by decide)]
  · unfold enI; rw [if_neg (by decide)]
theorem pa_has : has paG.nodes 2 = true := by decide
end Go.Bq
