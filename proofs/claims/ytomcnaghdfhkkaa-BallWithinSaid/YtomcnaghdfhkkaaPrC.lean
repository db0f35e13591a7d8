/- Paths: rows that are the same; a graph of its own; awake. Paths: the document's Dists; the law of distances. -/
import Derived.Test.YtomcnaghdfhkkaaPtL
import Derived.Test.YtomcnaghdfhkkaaPqA
import Derived.Test.YtomcnaghdfhkkaaPrB
section
namespace Go.Proofs.Ytomcnaghdfhkkaa
open Go.RowKit Go.Lib Go.Fq Go.Pq Go.Iq Go.Nq Go.Ow
set_option linter.unusedVariables false
set_option linter.unusedSimpArgs false
set_option maxRecDepth 100000

theorem own1_cell {w : World} {base n : Nat} {t : TypeId} {v : Value} {xs : List Value} (h : Own w base t 1 v n xs) (hn : 0 < n) : ∃ g cap, v = .slice (some ⟨g, 0, none⟩) n cap ∧ ∀ i (hi : i < n) x, xs[i]? = some x → w.cell? ⟨g, i, none⟩ = some x := by
  obtain ⟨g, cap, e1, e2, e3, e4, e5⟩ := h.range hn
  exact ⟨g, cap, e1, fun i hi x hx => by simpa using e4 i x hx⟩
def FlS (V : World) (g1 g2 k d : Nat) : Prop := V.cell? ⟨g1, k, none⟩ = some (.float .f64 d) ∧ V.cell? ⟨g2, k, none⟩ = some (.float .f64 d)
set_option maxHeartbeats 8000000 in
theorem ints_same (b1 b2 : Nat) (va vb : Value) (f : Nat → Int) (n : Nat) (w : World) (ha : Own w b1 3 1 va n ((List.range n).map (fun i => .int .i64 (f i)))) (hb : Own w b2 3 1 vb n ((List.range n).map (fun i => .int .i64 (f i)))) (hn : n < 1048576) :
    Calls Try.prog 12 #[va, vb] w fun e w' => e = .returned (.bool true) ∧ Below w.heap.size w w' := by
  obtain ⟨a1, c1, rfl⟩ := ha.slice
  obtain ⟨a2, c2, rfl⟩ := hb.slice
  have HA := Lib.hid (fun V (hV : Below w.heap.size w V) => ha.below hV)
  have HB := Lib.hid (fun V (hV : Below w.heap.size w V) => hb.below hV)
  have HN := Lib.hid hn
  clear ha hb hn
  go_enter Try.func12, Try.ntmps12
  go_wp2_with fail
  go_loopw [5] (fun v wr => ∃ k : Nat, v = .int .i64 (k : Int) ∧ k ≤ n ∧ Below w.heap.size w wr) (fun v _ => n - (RowKit.intOf v).toNat)
  case atStart => exact ⟨0, rfl, Nat.zero_le _, Below.refl _ _⟩
  case round =>
    obtain ⟨k, rfl, hk, hbel⟩ := hrel
    have HBE := Lib.hid hbel
    by_cases hlt : k < n
    · have hlti : (k : Int) < (n : Int) := by omega
      have hk0 : (0 : Int) ≤ (k : Int) := by omega
      have hkw : IntKind.i64.wrap ((k : Int) + 1) = (k : Int) + 1 := by rw [IntKind.wrap_i64]; have := HN.out; omega
      obtain ⟨g1, q1, h1, k1⟩ := own1_cell (HA.out wr hbel) (by omega)
      obtain ⟨g2, q2, h2, k2⟩ := own1_cell (HB.out wr hbel) (by omega)
      simp only [Value.slice.injEq] at h1 h2
      obtain ⟨rfl, -, -⟩ := h1
      obtain ⟨rfl, -, -⟩ := h2
      have hd : ((List.range n).map (fun i => Value.int .i64 (f i)))[k]? = some (.int .i64 (f k)) := by simp [hlt]
      have x1 := k1 k hlt _ hd
      have x2 := k2 k hlt _ hd
      generalize f k = d at *
      have hne : (d != d) = false := by simp
      clear k1 k2 hd hbel
      go_upto_region 6 with (fail)
      go_quiet (fail)
      go_wp2_with fail
      refine ⟨⟨k + 1, by simp, by omega, below_drewN HBE.out _⟩, ?_⟩
      simp [RowKit.intOf]; omega
    · have hnk : ¬ (k : Int) < (n : Int) := by omega
      clear hlt
      go_wp2_with fail
      go_ret
      exact ⟨rfl, HBE.out⟩
set_option maxHeartbeats 4000000 in
theorem small_any (w : World) : Calls Try.prog 35 #[] w fun e w' => ∃ na la, e = .returned (.agg #[.slice na awG.nodes.length 3, .slice la awG.links.length 3]) ∧ GrIn w' awG na la ∧ Below w.heap.size w w' := by
  have hst := g_storeL
  go_enter Try.func35, Try.ntmps35
  go_wp2_with fail
  obtain ⟨W1, hW1⟩ : ∃ W1, W1 = w.alloc (.cells #[.slice (some ⟨w.heap.size + 1, 0, none⟩) 3 3, .slice (some ⟨w.heap.size + 1 + 1, 0, none⟩) 3 3] 25) := ⟨_, rfl⟩
  obtain ⟨W2, hW2⟩ : ∃ W2, W2 = W1.alloc (.cells #[.int .i64 1, .bool true, .bool false, .int .i64 2, .bool true, .bool false, .int .i64 3, .bool true, .bool false] 56) := ⟨_, rfl⟩
  obtain ⟨W3, hW3⟩ : ∃ W3, W3 = W2.alloc (.cells #[.int .i64 1, .int .i64 2, .float .f64 4611686018427387904, .bool true, .int .i64 1, .int .i64 3, .float .f64 4613937818241073152, .bool true, .int .i64 2, .int .i64 3, .float .f64 4607182418800017408, .bool true] 77) := ⟨_, rfl⟩
  rw [← hW1, ← hW2, ← hW3]
  have s1 : W1.heap.size = w.heap.size + 1 := by rw [hW1]; simp
  have s2 : W2.heap.size = w.heap.size + 1 + 1 := by rw [hW2]; simp [s1]
  have b1 : Below w.heap.size w W1 := by rw [hW1]; exact gAl _ _
  have b2 : Below W1.heap.size W1 W2 := by rw [hW2]; exact gAl _ _
  have b3 : Below W2.heap.size W2 W3 := by rw [hW3]; exact gAl _ _
  have r1 : W3.heap[w.heap.size]? = some (.cells #[.slice (some ⟨w.heap.size + 1, 0, none⟩) 3 3, .slice (some ⟨w.heap.size + 1 + 1, 0, none⟩) 3 3] 25 (0, 0)) := (b3.block _ (by omega)).trans ((b2.block _ (by omega)).trans (by rw [hW1]; exact heap_alloc_new w _))
  have r2 : W3.heap[w.heap.size + 1]? = some (.cells #[.int .i64 1, .bool true, .bool false, .int .i64 2, .bool true, .bool false, .int .i64 3, .bool true, .bool false] 56 (0, 0)) := (b3.block _ (by omega)).trans (by rw [hW2, ← s1]; exact heap_alloc_new W1 _)
  have r3 : W3.heap[w.heap.size + 1 + 1]? = some (.cells #[.int .i64 1, .int .i64 2, .float .f64 4611686018427387904, .bool true, .int .i64 1, .int .i64 3, .float .f64 4613937818241073152, .bool true, .int .i64 2, .int .i64 3, .float .f64 4607182418800017408, .bool true] 77 (0, 0)) := by rw [hW3, ← s2]; exact heap_alloc_new W2 _
  have z3 : w.heap.size + 1 + 1 < W3.heap.size := (Array.getElem?_eq_some_iff.1 r3).1
  refine bodyPost_ret (results_cell Try.results35 _ _ w.heap.size 0 [.slice (some ⟨w.heap.size + 1, 0, none⟩) 3 3, .slice (some ⟨w.heap.size + 1 + 1, 0, none⟩) 3 3] _ rfl (two_range r1) Try.underlying25 (by rfl) (by kernel_rfl)) rfl ?_
  refine ⟨some ⟨w.heap.size + 1, 0, none⟩, some ⟨w.heap.size + 1 + 1, 0, none⟩, rfl, ⟨Or.inr ⟨_, 0, rfl, by omega, fun k hk => ?_⟩, Or.inr ⟨_, 0, rfl, z3, fun k hk => ?_⟩, aw_wts, by decide, by decide⟩, gNx b1 (gNx b2 b3)⟩
  · match k, hk with
    | 0, _ => exact ⟨by rw [cell_of_row W3 _ _ _ _ (0, 0) r2]; rfl, by rw [cell_of_row W3 _ _ _ _ (0, 0) r2]; rfl, by rw [cell_of_row W3 _ _ _ _ (0, 0) r2]; rfl⟩
    | 1, _ => exact ⟨by rw [cell_of_row W3 _ _ _ _ (0, 0) r2]; rfl, by rw [cell_of_row W3 _ _ _ _ (0, 0) r2]; rfl, by rw [cell_of_row W3 _ _ _ _ (0, 0) r2]; rfl⟩
    | 2, _ => exact ⟨by rw [cell_of_row W3 _ _ _ _ (0, 0) r2]; rfl, by rw [cell_of_row W3 _ _ _ _ (0, 0) r2]; rfl, by rw [cell_of_row W3 _ _ _ _ (0, 0) r2]; rfl⟩
  · match k, hk with
    | 0, _ => exact ⟨by rw [cell_of_row W3 _ _ _ _ (0, 0) r3]; rfl, by rw [cell_of_row W3 _ _ _ _ (0, 0) r3]; rfl, by rw [cell_of_row W3 _ _ _ _ (0, 0) r3]; rfl, by rw [cell_of_row W3 _ _ _ _ (0, 0) r3]; rfl⟩
    | 1, _ => exact ⟨by rw [cell_of_row W3 _ _ _ _ (0, 0) r3]; rfl, by rw [cell_of_row W3 _ _ _ _ (0, 0) r3]; rfl, by rw [cell_of_row W3 _ _ _ _ (0, 0) r3]; rfl, by rw [cell_of_row W3 _ _ _ _ (0, 0) r3]; rfl⟩
    | 2, _ => exact ⟨by rw [cell_of_row W3 _ _ _ _ (0, 0) r3]; rfl, by rw [cell_of_row W3 _ _ _ _ (0, 0) r3]; rfl, by rw [cell_of_row W3 _ _ _ _ (0, 0) r3]; rfl, by rw [cell_of_row W3 _ _ _ _ (0, 0) r3]; rfl⟩
theorem aw_ask : askE awG 4621819117588971520 [1] = 0 := askE_ok aw_limit aw_check (by simp [aw_place.2])
set_option maxHeartbeats 4000000 in
theorem pAwake_any (w : World) : Calls Try.prog 13 #[] w fun e w' => e = .returned (.bool true) ∧ Below w.heap.size w w' := by
  go_enter Try.func13, Try.ntmps13
  go_wp2_with fail
  refine (small_any w).mono ?_
  rintro e w1 ⟨na, la, rfl, hin, hb1⟩
  have HB1 := Lib.hid hb1
  have HC := Lib.hid (pNexts_any awG na 3 la 3 4621819117588971520 1 w1 hin (by decide))
  rw [aw_ask, aw_place.1, aw_qn] at HC
  clear hin hb1
  go_wp2_with fail
  refine HC.out.mono ?_
  rintro e w2 (⟨hne, -⟩ | ⟨-, D, v, rfl, ho, hsp, hb2⟩)
  · exact absurd rfl hne
  obtain ⟨hl, hd⟩ := aw_stops hsp
  have hn : awG.nodes.length = 3 := rfl
  rw [hn] at ho
  obtain ⟨g, cap, rfl, hcell⟩ := own1_cell ho (by omega)
  have e0 : nF D 0 = .int .i64 0 := by unfold nF; rw [hd]; rfl
  have e1 : nF D 1 = .int .i64 2 := by unfold nF; rw [hd]; rfl
  have e2 : nF D 2 = .int .i64 2 := by unfold nF; rw [hd]; rfl
  have c0 : w2.cell? ⟨g, 0, none⟩ = some (.int .i64 0) := hcell 0 (by omega) _ (by rw [← e0]; rfl)
  have c1 : w2.cell? ⟨g, 1, none⟩ = some (.int .i64 2) := hcell 1 (by omega) _ (by rw [← e1]; rfl)
  have c2 : w2.cell? ⟨g, 2, none⟩ = some (.int .i64 2) := hcell 2 (by omega) _ (by rw [← e2]; rfl)
  have HB2 := Lib.hid (gNx HB1.out hb2)
  clear hl hd ho hcell e0 e1 e2 hsp hb2 hn
  go_wp2_with fail
  go_ret
  exact ⟨rfl, HB2.out⟩
end Go.Proofs.Ytomcnaghdfhkkaa
end

section
namespace Go.Proofs.Ytomcnaghdfhkkaa
open Go.RowKit Go.Lib Go.Fq Go.Pq Go.Iq Go.Nq Go.Ow
set_option linter.unusedVariables false
set_option linter.unusedSimpArgs false
set_option maxRecDepth 100000

set_option maxHeartbeats 8000000 in
theorem rDists_any (G : Gr) (na : Option Addr) (nc : Nat) (la : Option Addr) (lc : Nat) (max : Nat) (fr : Int) (w : World) (hin : GrIn w G na la) (hm : max < 2 ^ 64) :
    Calls Try.prog 22 #[.agg #[.slice na G.nodes.length nc, .slice la G.links.length lc], .float .f64 max, .int .i64 fr] w fun e w' => DistsEnds w G (askE G max [fr]) (Nq.ahead G.nodes fr) (qn max) e w' := by
  obtain ⟨W1, hW1⟩ : ∃ W1, W1 = w.alloc (.cells #[.slice na G.nodes.length nc, .slice la G.links.length lc] 25) := ⟨_, rfl⟩
  have b1 : Below w.heap.size w W1 := by rw [hW1]; exact gAl _ _
  have s1 : w.heap.size < W1.heap.size := by rw [hW1]; simp
  have r1 : W1.heap[w.heap.size]? = some (.cells #[.slice na G.nodes.length nc, .slice la G.links.length lc] 25 (0, 0)) := by rw [hW1]; exact heap_alloc_new w _
  have HKG : Hid (∀ V, Below W1.heap.size W1 V → V.cell? ⟨w.heap.size, 0, none⟩ = some (.slice na G.nodes.length nc) ∧ V.cell? ⟨w.heap.size, 1, none⟩ = some (.slice la G.links.length lc)) := Lib.hid (fun V hV => by
    have := two_cells ((hV.block _ s1).trans r1)
    exact ⟨this.1, this.2.1⟩)
  have HB1 := Lib.hid b1
  have HIN : Hid (∀ V, Below W1.heap.size W1 V → GrIn V G na la) := Lib.hid (fun V hV => (hin.below b1).below hV)
  have HAK := Lib.hid (asked_any G na nc la lc max fr W1 (hin.below b1) hm)
  have HM := Lib.hid hm
  obtain ⟨g0, g1⟩ := HKG.out W1 (Below.refl _ _)
  clear hin hm b1 s1 r1
  go_enter Try.func22, Try.ntmps22
  go_upto_region 1 with (fail)
  rw [← hW1]
  clear hW1
  go_wp2_with fail
  refine HAK.out.mono ?_
  rintro e w2 ⟨rfl, hb2⟩
  have HB2 := Lib.hid hb2
  clear hb2 g0 g1
  by_cases hE : askE G max [fr] = 0
  · obtain ⟨a1, a2, a3⟩ := askE_zero hE
    have hhas : has G.nodes fr = true := by simpa using a3
    obtain ⟨lim, l1, l2, l3⟩ := limit_q max HM.out a1
    subst l3
    have HQ : Hid (qn (qw lim) = lim) := Lib.hid (qn_qw (by omega))
    have HD := Lib.hid (rdists_any G na nc la lc lim fr w2 (HIN.out w2 HB2.out) a2 hhas (by omega) l2)
    have HE := Lib.hid hE
    rw [hE]
    obtain ⟨g0, g1⟩ := HKG.out w2 HB2.out
    clear a1 a2 a3 l1 l2 hhas hE
    go_wp2_with fail
    refine HD.out.mono ?_
    rintro e w3 ⟨l, v, rfl, ho, hdp, hb3⟩
    have HF : Hid (DistsEnds w G (askE G (qw lim) [fr]) (Nq.ahead G.nodes fr) (qn (qw lim)) (.returned (.tuple #[v, .int .i64 0])) w3) := Lib.hid (Or.inr ⟨HE.out, l, v, rfl, ho.mono (gNx HB1.out HB2.out).size, by rw [HQ.out]; exact hdp, gNx HB1.out (gNx HB2.out hb3)⟩)
    obtain ⟨av, cv, rfl⟩ := ho.slice
    clear ho hdp hb3 g0 g1
    go_wp2_with fail
    refine bodyPost_ret (v := .tuple #[.slice av G.nodes.length cv, .int .i64 0]) (by simp [results, Try.results22, go_sem]) rfl ?_
    exact HF.out
  · obtain ⟨E, hEE⟩ : ∃ E, E = askE G max [fr] := ⟨_, rfl⟩
    have HEE := Lib.hid hEE
    rw [← hEE] at hE ⊢
    have HNE := Lib.hid hE
    have hz2 : (E != 0) = true := by simpa using hE
    clear hE hEE
    go_wp2_with fail
    refine bodyPost_ret (v := .tuple #[.slice none 0 0, .int .i64 E]) (by simp [results, Try.results22, go_sem]) rfl ?_
    rw [← HEE.out]
    exact Or.inl ⟨HNE.out, rfl, gNx HB1.out HB2.out⟩
end Go.Proofs.Ytomcnaghdfhkkaa
end
