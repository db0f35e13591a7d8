/- Paths: stopsFrom, distsOf. -/
import Derived.Test.YtomcnaghdfhkkaaPtJ
namespace Go.Proofs.Ytomcnaghdfhkkaa
open Go.RowKit Go.Lib Go.Fq Go.Pq Go.Iq Go.Nq Go.Ow
set_option linter.unusedVariables false
set_option linter.unusedSimpArgs false
set_option maxRecDepth 100000

/-- What stopsFrom tells. -/
def StopsEnds (w : World) (G : Gr) (E : Int) (s lim : Nat) (e : Ending) (w' : World) : Prop :=
  (E ≠ 0 ∧ e = .returned (.tuple #[.slice none 0 0, .int .i64 E]) ∧ Below w.heap.size w w') ∨
  (E = 0 ∧ ∃ D sb, e = .returned (.tuple #[.slice (some ⟨sb, 0, none⟩) G.nodes.length G.nodes.length, .int .i64 0]) ∧ Own w' w.heap.size 74 3 (.slice (some ⟨sb, 0, none⟩) G.nodes.length G.nodes.length) G.nodes.length (arRow D) ∧ StopsP G s lim D ∧ Below w.heap.size w w')
set_option maxHeartbeats 16000000 in
theorem stopsFrom_any (G : Gr) (na : Option Addr) (nc : Nat) (la : Option Addr) (lc : Nat) (max : Nat) (fr : Int) (w : World) (hin : GrIn w G na la) (hm : max < 2 ^ 64) :
    Calls Try.prog 59 #[.agg #[.slice na G.nodes.length nc, .slice la G.links.length lc], .float .f64 max, .int .i64 fr] w fun e w' => StopsEnds w G (askE G max [fr]) (Nq.ahead G.nodes fr) (qn max) e w' := by
  have hst := g_storeL
  obtain ⟨W1, hW1⟩ : ∃ W1, W1 = w.alloc (.cells #[.slice na G.nodes.length nc, .slice la G.links.length lc] 25) := ⟨_, rfl⟩
  have b1 : Below w.heap.size w W1 := by rw [hW1]; exact gAl _ _
  have r1 : W1.heap[w.heap.size]? = some (.cells #[.slice na G.nodes.length nc, .slice la G.links.length lc] 25 (0, 0)) := by rw [hW1]; exact heap_alloc_new w _
  obtain ⟨g0, g1, -, -⟩ := two_cells r1
  obtain ⟨W2, hW2⟩ : ∃ W2, W2 = W1.alloc (.cells #[.int .i64 fr] 3) := ⟨_, rfl⟩
  have b2 : Below W1.heap.size W1 W2 := by rw [hW2]; exact gAl _ _
  have r2 : W2.heap[W1.heap.size]? = some (.cells #[.int .i64 fr] 3 (0, 0)) := by rw [hW2]; exact heap_alloc_new W1 _
  have HB2 : Hid (Below w.heap.size w W2) := Lib.hid (gNx b1 b2)
  have HG : Hid (∀ V, Below w.heap.size w V → GrIn V G na la) := Lib.hid (fun V hV => hin.below hV)
  have hii : IsInts W2 (some ⟨W1.heap.size, 0, none⟩) [fr].length [fr] := ⟨rfl, fun _ => ⟨_, _, rfl, fun i hi => by
    have : i = 0 := by simp only [List.length_singleton] at hi; omega
    subst this
    rw [cell_of_row W2 _ _ _ _ (0, 0) r2]; rfl⟩⟩
  have HNF := Lib.hid (netFor_any G na nc la lc max (some ⟨W1.heap.size, 0, none⟩) 1 [fr] W2 (hin.below (gNx b1 b2)) hm hii (by simp))
  simp only [List.length_singleton] at HNF
  have HM := Lib.hid hm
  have HWT := Lib.hid hin.wts
  clear hin b1 r1 b2 r2 hii hm
  go_enter Try.func59, Try.ntmps59
  go_upto_region 1 with (fail)
  rw [← hW1]
  clear hW1
  go_wp2_with fail
  rw [← hW2]
  clear hW2
  refine HNF.out.mono ?_
  rintro e w3 (⟨hne, rfl, hb3⟩ | ⟨hE, rb, rc, rfl, hrd, hb3⟩)
  · have HNE := Lib.hid hne
    have HB3 := Lib.hid (gNx HB2.out hb3)
    obtain ⟨E, hEE⟩ : ∃ E, E = askE G max [fr] := ⟨_, rfl⟩
    have HEE := Lib.hid hEE
    rw [← hEE] at hne HNE ⊢
    have hz2 : (E != 0) = true := by simpa using hne
    clear hne hb3 g0 g1 hEE
    go_wp2_with fail
    refine bodyPost_ret (v := .tuple #[.slice none 0 0, .int .i64 E]) (by simp [results, Try.results59, go_sem]) rfl ?_
    rw [← HEE.out]
    exact Or.inl ⟨HNE.out, rfl, gNx HB3.out (gAl _ _)⟩
  · obtain ⟨a1, a2, a3⟩ := askE_zero hE
    have HE := Lib.hid hE
    have HZ := Lib.hid a2
    have hhas : has G.nodes fr = true := by simpa using a3
    obtain ⟨lim, l1, l2, l3⟩ := limit_q max HM.out a1
    subst l3
    have HQ : Hid (qn (qw lim) = lim) := Lib.hid (qn_qw (by omega))
    have HLIM : Hid (0 < lim ∧ lim ≤ 4294967296) := Lib.hid ⟨by omega, l2⟩
    have HNP := Lib.hid (check_zero.1 a2).2.2.1
    have HNL : Hid (G.nodes.length ≤ 256) := Lib.hid (check_zero.1 a2).1
    have HPL : Hid (Nq.ahead G.nodes fr < G.nodes.length) := Lib.hid ((has_at (check_zero.1 a2).2.2.1 fr).1 hhas).1
    have HH := Lib.hid hhas
    have HRD := Lib.hid hrd
    have HB3 : Hid (Below w.heap.size w w3) := Lib.hid (gNx HB2.out hb3)
    clear a1 a2 a3 l1 hE hrd hb3 hhas g0 g1 HNF
    obtain ⟨W4, hW4⟩ : ∃ W4, W4 = w3.alloc (.cells #[.slice na G.nodes.length nc, .slice (some ⟨rb, 0, none⟩) G.nodes.length rc] 63) := ⟨_, rfl⟩
    have hb4 : Below w3.heap.size w3 W4 := by rw [hW4]; exact gAl _ _
    have r4 : W4.heap[w3.heap.size]? = some (.cells #[.slice na G.nodes.length nc, .slice (some ⟨rb, 0, none⟩) G.nodes.length rc] 63 (0, 0)) := by rw [hW4]; exact heap_alloc_new w3 _
    obtain ⟨nb, hnb⟩ : ∃ nb, nb = w3.heap.size := ⟨_, rfl⟩
    rw [← hnb] at r4
    have hs4 : nb < W4.heap.size := (Array.getElem?_eq_some_iff.1 r4).1
    have HNB : Hid (∀ V, Below W4.heap.size W4 V → V.heap[nb]? = some (.cells #[.slice na G.nodes.length nc, .slice (some ⟨rb, 0, none⟩) G.nodes.length rc] 63 (0, 0))) := Lib.hid (fun V hV => (hV.block nb hs4).trans r4)
    have HB4 : Hid (Below w.heap.size w W4) := Lib.hid (gNx HB3.out hb4)
    have HRD4 : Hid (∀ V, Below W4.heap.size W4 V → RdsIn V 0 V.heap.size (netL G.nodes (liveG G).links) (.slice (some ⟨rb, 0, none⟩) G.nodes.length rc)) := Lib.hid (fun V hV => ((HRD.out.below hb4).below hV).low (Nat.zero_le _))
    go_upto_region 4 with (fail)
    rw [← hW4, ← hnb]
    clear hW4 hnb hb4 r4 hs4
    obtain ⟨m0, m1, -, -⟩ := two_cells (HNB.out W4 (Below.refl _ _))
    go_wp2_with fail
    refine (pPlace_any G.nodes na nc (.slice (some ⟨rb, 0, none⟩) G.nodes.length rc) fr W4 (HG.out W4 HB4.out).nodes HNP.out (by have := HNL.out; omega) rfl).mono ?_
    rintro e w5 ⟨rfl, hb5⟩
    rw [HH.out]
    have HB5 := Lib.hid hb5
    clear hb5 m0 m1
    obtain ⟨m0, m1, -, -⟩ := two_cells (HNB.out w5 HB5.out)
    obtain ⟨s, hsE⟩ : ∃ s, s = Nq.ahead G.nodes fr := ⟨_, rfl⟩
    have HSE := Lib.hid hsE
    rw [← hsE] at HPL ⊢
    clear hsE
    obtain ⟨W6, hW6⟩ : ∃ W6, W6 = w5.alloc (.cells #[.slice none 0 0] 83) := ⟨_, rfl⟩
    have hb6 : Below w5.heap.size w5 W6 := by rw [hW6]; exact gAl _ _
    have HB6 : Hid (Below w.heap.size w W6) := Lib.hid (gNx HB4.out (gNx HB5.out hb6))
    have HWK := Lib.hid (walk_any G na nc (.slice (some ⟨rb, 0, none⟩) G.nodes.length rc) s lim w5.heap.size W6 HZ.out HWT.out rfl ((HG.out w5 (gNx HB4.out HB5.out)).nodes.kept (fun i hi => hb6.block i hi) (Nat.le_refl _)) ((HRD4.out w5 HB5.out).kept (fun i _ hi => hb6.block i hi) (Nat.le_refl _) (Nat.le_refl _)) HPL.out HLIM.out.1 HLIM.out.2 (by rw [hW6]; exact heap_alloc_new w5 _))
    have HQS : Hid (w.heap.size ≤ w5.heap.size ∧ w5.heap.size < W6.heap.size) := Lib.hid ⟨(gNx HB4.out HB5.out).size, by rw [hW6]; simp⟩
    clear hb6
    go_wp2_with fail
    rw [← hW6]
    clear hW6
    refine HWK.out.mono ?_
    rintro e w7 ⟨D, sb, rfl, ho, hbx, hsp⟩
    have HF : Hid (StopsEnds w G (askE G (qw lim) [fr]) s (qn (qw lim)) (.returned (.tuple #[.slice (some ⟨sb, 0, none⟩) G.nodes.length G.nodes.length, .int .i64 0])) w7) := Lib.hid (Or.inr ⟨HE.out, D, sb, rfl, ho.mono (Nat.le_of_lt (Nat.lt_of_le_of_lt HQS.out.1 HQS.out.2)), by rw [HQ.out]; exact hsp, HB6.out.trans (hbx.below (Nat.le_of_lt (Nat.lt_of_le_of_lt HQS.out.1 HQS.out.2)) HQS.out.1)⟩)
    clear ho hbx hsp m0 m1
    go_wp2_with fail
    refine bodyPost_ret (v := .tuple #[.slice (some ⟨sb, 0, none⟩) G.nodes.length G.nodes.length, .int .i64 0]) (by simp [results, Try.results59, go_sem]) rfl ?_
    rw [← HSE.out]
    exact HF.out
end Go.Proofs.Ytomcnaghdfhkkaa
