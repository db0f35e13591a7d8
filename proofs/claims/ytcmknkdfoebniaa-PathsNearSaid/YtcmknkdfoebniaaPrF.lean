/- Paths: the program's Near; the law of nearness. -/
import Derived.Test.YtcmknkdfoebniaaPrE
namespace Go.Proofs.Ytcmknkdfoebniaa
open Go.RowKit Go.Lib Go.Fq Go.Pq Go.Iq Go.Nq Go.Ow
set_option linter.unusedVariables false
set_option linter.unusedSimpArgs false
set_option maxRecDepth 100000

set_option maxHeartbeats 16000000 in
theorem pNear_any (G : Gr) (na : Option Addr) (nc : Nat) (la : Option Addr) (lc : Nat) (max : Nat) (fr : Int) (rad : Nat) (w : World) (hin : GrIn w G na la) (hm : max < 2 ^ 64) (hrd : rad < 2 ^ 64) :
    Calls Try.prog 21 #[.agg #[.slice na G.nodes.length nc, .slice la G.links.length lc], .float .f64 max, .int .i64 fr, .float .f64 rad] w fun e w' => NearEnds w G (askE G max [fr]) (Nq.ahead G.nodes fr) (qn max) rad e w' := by
  have hst := g_storeL
  obtain ⟨W1, hW1⟩ : ∃ W1, W1 = w.alloc (.cells #[.slice na G.nodes.length nc, .slice la G.links.length lc] 25) := ⟨_, rfl⟩
  have b1 : Below w.heap.size w W1 := by rw [hW1]; exact gAl _ _
  have s1 : w.heap.size < W1.heap.size := by rw [hW1]; simp
  have r1 : W1.heap[w.heap.size]? = some (.cells #[.slice na G.nodes.length nc, .slice la G.links.length lc] 25 (0, 0)) := by rw [hW1]; exact heap_alloc_new w _
  have HKG : Hid (∀ V, Below W1.heap.size W1 V → V.cell? ⟨w.heap.size, 0, none⟩ = some (.slice na G.nodes.length nc) ∧ V.cell? ⟨w.heap.size, 1, none⟩ = some (.slice la G.links.length lc)) := Lib.hid (fun V hV => by
    have := two_cells ((hV.block _ s1).trans r1)
    exact ⟨this.1, this.2.1⟩)
  have HB1 := Lib.hid b1
  have HS1 := Lib.hid s1
  have HIN : Hid (∀ V, Below W1.heap.size W1 V → GrIn V G na la) := Lib.hid (fun V hV => ⟨hin.nodes.kept (fun i hi => (b1.trans (hV.mono (Nat.le_of_lt s1))).block i hi) (b1.trans (hV.mono (Nat.le_of_lt s1))).size, hin.links.kept (fun i hi => (b1.trans (hV.mono (Nat.le_of_lt s1))).block i hi) (b1.trans (hV.mono (Nat.le_of_lt s1))).size, hin.wts, hin.n1, hin.l1⟩)
  have HC := Lib.hid (stopsFrom_any G na nc la lc max fr W1 (hin.below b1) hm)
  have HRD := Lib.hid hrd
  obtain ⟨E, hEE⟩ : ∃ E, E = askE G max [fr] := ⟨_, rfl⟩
  have HNZ : Hid (E = 0 → 0 < G.nodes.length ∧ G.nodes.length ≤ 256) := Lib.hid (ask_nz hEE)
  rw [← hEE] at HC ⊢
  generalize Nq.ahead G.nodes fr = s at *
  generalize qn max = lim at *
  obtain ⟨g0, g1⟩ := HKG.out W1 (Below.refl _ _)
  clear hin hm hrd b1 s1 r1 hEE
  go_enter Try.func21, Try.ntmps21
  go_upto_region 1 with (fail)
  rw [← hW1]
  clear hW1
  go_wp2_with fail
  refine HC.out.mono ?_
  rintro e w2 (⟨hne, rfl, hb2⟩ | ⟨hE, D, sb, rfl, ho, hsp, hb2⟩)
  · have HNE := Lib.hid hne
    have HB2 := Lib.hid hb2
    have hz2 : (E != 0) = true := by simpa using hne
    clear hne hb2 g0 g1
    go_wp2_with fail
    refine bodyPost_ret (v := .tuple #[.slice none 0 0, .int .i64 E]) (by simp [results, Try.results21, go_sem]) rfl ?_
    exact Or.inl ⟨by rw [nearE_ne HNE.out]; exact HNE.out, by rw [nearE_ne HNE.out], gNx HB1.out HB2.out⟩
  · subst hE
    have HB2 := Lib.hid hb2
    have HO := Lib.hid ho
    have HSP := Lib.hid hsp
    have HNL := Lib.hid (HNZ.out rfl)
    clear ho hsp hb2 g0 g1 HNZ HC
    cases hnan : nanB rad with
    | true =>
      go_wp2_with (go_at_call 43; refine (isnan _ _).mono ?_; rintro e w' ⟨rfl, rfl⟩; rw [hnan])
      refine bodyPost_ret (v := .tuple #[.slice none 0 0, .int .i64 10]) (by simp [results, Try.results21, go_sem]) rfl ?_
      exact Or.inl ⟨by rw [nearE_nan hnan]; decide, by rw [nearE_nan hnan], gNx HB1.out HB2.out⟩
    | false =>
    cases hng : ng rad with
    | true =>
      go_wp2_with (first | (go_at_call 43; refine (isnan _ _).mono ?_; rintro e w' ⟨rfl, rfl⟩; rw [hnan]) | (go_at_call 44; refine (signbit _ _ HRD.out).mono ?_; rintro e w' ⟨rfl, rfl⟩; rw [hng]))
      refine bodyPost_ret (v := .tuple #[.slice none 0 0, .int .i64 12]) (by simp [results, Try.results21, go_sem]) rfl ?_
      exact Or.inl ⟨by rw [nearE_ng hnan hng]; decide, by rw [nearE_ng hnan hng], gNx HB1.out HB2.out⟩
    | false =>
    have HNE : Hid (nearE 0 rad = 0) := Lib.hid (nearE_ok hnan hng)
    go_upto_region 8 with (first | (go_at_call 43; refine (isnan _ _).mono ?_; rintro e w' ⟨rfl, rfl⟩; rw [hnan]) | (go_at_call 44; refine (signbit _ _ HRD.out).mono ?_; rintro e w' ⟨rfl, rfl⟩; rw [hng]))
    clear hnan hng
    go_wp2_with fail
    go_loopw [34, 12] (fun i v wr => ∃ k : Nat, i = .int .i64 (k : Int) ∧ k ≤ G.nodes.length ∧ Own wr w2.heap.size 3 1 v (nearZ G.nodes (dOf D) rad k).length (zRow (nearZ G.nodes (dOf D) rad k)) ∧ Below w2.heap.size w2 wr) (fun i _ _ => G.nodes.length - (RowKit.intOf i).toNat)
    case atStart => exact ⟨0, rfl, Nat.zero_le _, Or.inl ⟨rfl, rfl, none, rfl⟩, Below.refl _ _⟩
    case round =>
      obtain ⟨k, rfl, hk, hz, hbel⟩ := hrel
      have HBE := Lib.hid hbel
      by_cases hlt : k < G.nodes.length
      · have hlti : (k : Int) < (G.nodes.length : Int) := by omega
        have hk0 : (0 : Int) ≤ (k : Int) := by omega
        have hkw : IntKind.i64.wrap ((k : Int) + 1) = (k : Int) + 1 := by rw [IntKind.wrap_i64]; have := HNL.out.2; omega
        obtain ⟨c0, c1, c2⟩ := ar_cells (HO.out.below hbel) HSP.out.1 hlt
        unfold dF at c1
        unfold nF at c2
        obtain ⟨dk, hdk⟩ : ∃ dk, dk = dw (g_ (dOf D) k) := ⟨_, rfl⟩
        rw [← dOf_at, ← hdk] at c1
        generalize fo (dd D k) = fk at *
        obtain ⟨W2, hW2⟩ : ∃ W2, W2 = wr.alloc (.cells #[.int .i64 (k : Int), .float .f64 dk, .int .i64 (fk : Int)] 67) := ⟨_, rfl⟩
        have bw : Below wr.heap.size wr W2 := by rw [hW2]; exact gAl _ _
        have hbel2 := hbel.trans (bw.mono hbel.size)
        have rw2 : W2.heap[wr.heap.size]? = some (.cells #[.int .i64 (k : Int), .float .f64 dk, .int .i64 (fk : Int)] 67 (0, 0)) := by rw [hW2]; exact heap_alloc_new wr _
        have q1 : W2.cell? ⟨wr.heap.size, 1, none⟩ = some (.float .f64 dk) := by rw [cell_of_row W2 _ _ _ _ (0, 0) rw2]; rfl
        obtain ⟨k0, k1⟩ := HKG.out W2 (gNx HB2.out hbel2)
        obtain ⟨b, o, hna, hbb, hcn⟩ := (HIN.out W2 (gNx HB2.out hbel2)).nodes.at k hlt
        obtain ⟨ni, -⟩ := hcn k hlt
        rw [idI_at hlt] at ni
        have HZ2 := Lib.hid (hz.below bw)
        have HBL2 := Lib.hid hbel2
        clear hcn hbb rw2 hz hbel2 bw
        cases hnb : nearB (dOf D) rad k with
        | true =>
          have hnb2 : (FloatKind.f64.format.order dk rad == some .lt) = true := by rw [hdk]; exact hnb
          obtain ⟨va, vc, a0, c0', W3, rfl, hrun, hrow, hbl, -⟩ := z_app HZ2.out HBL2.out.size (by have := nearZ_len G.nodes (dOf D) rad k; have := HNL.out.2; omega) (idI G.nodes k)
          have HR := Lib.hid hrun
          have HRW : Hid (Own W3 w2.heap.size 3 1 (.slice va ((nearZ G.nodes (dOf D) rad k).length + 1) vc) (nearZ G.nodes (dOf D) rad (k + 1)).length (zRow (nearZ G.nodes (dOf D) rad (k + 1)))) := Lib.hid (by rw [nearZ_yes hnb]; exact hrow)
          have HBB : Hid (Below w2.heap.size w2 W3) := Lib.hid (HBL2.out.trans hbl)
          subst hna
          clear hbel hrun hrow hbl hnb hdk HZ2
          generalize (nearZ G.nodes (dOf D) rad k).length = zl at *
          generalize idI G.nodes k = idk at *
          go_upto_region 12 with (fail)
          rw [← hW2]
          clear hW2
          go_wp2_with (at_builtin; refine Lib.wpList_append_run _ rfl _ _ _ _ rfl _ _ rfl rfl _ _ (HR.out _) ?_)
          refine ⟨⟨k + 1, by simp, by omega, HRW.out, HBB.out⟩, ?_⟩
          simp [RowKit.intOf]; omega
        | false =>
          have hnb2 : (FloatKind.f64.format.order dk rad == some .lt) = false := by rw [hdk]; exact hnb
          have HRW : Hid (Own W2 w2.heap.size 3 1 u12 (nearZ G.nodes (dOf D) rad (k + 1)).length (zRow (nearZ G.nodes (dOf D) rad (k + 1)))) := Lib.hid (by rw [nearZ_no hnb]; exact HZ2.out)
          clear hbel hnb hdk HZ2
          go_upto_region 12 with (fail)
          rw [← hW2]
          clear hW2
          go_wp2_with fail
          refine ⟨⟨k + 1, by simp, by omega, HRW.out, HBL2.out⟩, ?_⟩
          simp [RowKit.intOf]; omega
      · have hnk : ¬ (k : Int) < (G.nodes.length : Int) := by omega
        have hke : k = G.nodes.length := by omega
        rw [hke] at hz
        have HOW := Lib.hid (hz.mono (gNx HB1.out HB2.out).size)
        have HBW := Lib.hid (gNx HB1.out (gNx HB2.out HBE.out))
        clear hz hbel hke hlt hk
        go_wp2_with fail
        refine bodyPost_ret (v := .tuple #[u12, .int .i64 0]) (by simp [results, Try.results21, go_sem]) rfl ?_
        exact Or.inr ⟨HNE.out, rfl, dOf D, u12, rfl, HOW.out, HSP.out.dists, HBW.out⟩
theorem ints_none (w : World) : Calls Try.prog 17 #[.slice none 0 0, .slice none 0 0] w fun e w' => e = .returned (.bool true) ∧ Below w.heap.size w w' :=
  zs_same w.heap.size w.heap.size _ _ [] w (Or.inl ⟨rfl, rfl, none, rfl⟩) (Or.inl ⟨rfl, rfl, none, rfl⟩) (by simp)
set_option maxHeartbeats 8000000 in
theorem law_pnear (G : Gr) (na : Option Addr) (nc : Nat) (la : Option Addr) (lc : Nat) (max rad : Nat) (fr : Int) (w : World) (hin : GrIn w G na la) (hm : max < 2 ^ 64) (hrd : rad < 2 ^ 64) (_ : (Lit.int .i64 fr).wf = true) :
    Calls Try.prog 6 #[.agg #[.slice na G.nodes.length nc, .slice la G.links.length lc], .agg #[.float .f64 max, .float .f64 rad], .int .i64 fr] w fun e w' => e = .returned (.bool true) ∧ Below w.heap.size w w' := by
  obtain ⟨W0, hW0⟩ : ∃ W0, W0 = w.alloc (.cells #[.slice na G.nodes.length nc, .slice la G.links.length lc] 25) := ⟨_, rfl⟩
  have b0 : Below w.heap.size w W0 := by rw [hW0]; exact gAl _ _
  have s0 : w.heap.size < W0.heap.size := by rw [hW0]; simp
  have r0 : W0.heap[w.heap.size]? = some (.cells #[.slice na G.nodes.length nc, .slice la G.links.length lc] 25 (0, 0)) := by rw [hW0]; exact heap_alloc_new w _
  obtain ⟨W1, hW1⟩ : ∃ W1, W1 = W0.alloc (.cells #[.float .f64 max, .float .f64 rad] 44) := ⟨_, rfl⟩
  have b01 : Below W0.heap.size W0 W1 := by rw [hW1]; exact gAl _ _
  have s1 : W0.heap.size < W1.heap.size := by rw [hW1]; simp
  have b1 : Below w.heap.size w W1 := gNx b0 b01
  have r1 : W1.heap[W0.heap.size]? = some (.cells #[.float .f64 max, .float .f64 rad] 44 (0, 0)) := by rw [hW1]; exact heap_alloc_new W0 _
  have HKG : Hid (∀ V, Below W1.heap.size W1 V → V.cell? ⟨w.heap.size, 0, none⟩ = some (.slice na G.nodes.length nc) ∧ V.cell? ⟨w.heap.size, 1, none⟩ = some (.slice la G.links.length lc) ∧ V.cell? ⟨w.heap.size + 1, 0, none⟩ = some (.float .f64 max) ∧ V.cell? ⟨w.heap.size + 1, 1, none⟩ = some (.float .f64 rad)) := Lib.hid (fun V hV => by
    have h1 := two_cells ((hV.block _ (Nat.lt_trans s0 s1)).trans ((b01.block _ s0).trans r0))
    have h2 := two_cells ((hV.block _ s1).trans r1)
    have hs : W0.heap.size = w.heap.size + 1 := by rw [hW0]; simp
    rw [← hs]
    exact ⟨h1.1, h1.2.1, h2.1, h2.2.1⟩)
  have HB1 := Lib.hid b1
  have HP := Lib.hid (pNear_any G na nc la lc max fr rad W1 (hin.below b1) hm hrd)
  have HR := Lib.hid (fun V (hV : Below W1.heap.size W1 V) => rNear_any G na nc la lc max fr rad V ((hin.below b1).below hV) hm hrd)
  have HNL : Hid (askE G max [fr] = 0 → G.nodes.length ≤ 256) := Lib.hid (fun h => (check_zero.1 (askE_zero h).2.1).1)
  have HAW := Lib.hid pAwake_any
  obtain ⟨g0, g1, g2, g3⟩ := HKG.out W1 (Below.refl _ _)
  generalize askE G max [fr] = E at *
  generalize Nq.ahead G.nodes fr = s at *
  generalize qn max = lim at *
  clear hin hm hrd b1 s1 r1 b0 s0 r0 b01
  go_enter Try.func6, Try.ntmps6
  go_upto_region 1 with (fail)
  rw [← hW0, ← hW1]
  clear hW0 hW1
  go_wp2_with fail
  refine HP.out.mono ?_
  rintro e w2 (⟨hne, rfl, hb2⟩ | ⟨hE, hE0, l, v, rfl, ho, hdp, hb2⟩)
  · have HB2 := Lib.hid hb2
    have HNE := Lib.hid hne
    clear hb2 hne g0 g1 g2 g3
    obtain ⟨g0, g1, g2, g3⟩ := HKG.out w2 HB2.out
    generalize hq : nearE E rad = q at *
    go_wp2_with fail
    refine (HR.out w2 HB2.out).mono ?_
    rintro e w3 (⟨-, rfl, hb3⟩ | ⟨hE, -⟩)
    case inr => exact absurd hE (by rw [hq]; exact HNE.out)
    rw [hq]
    clear hq
    have HB3 := Lib.hid (gNx HB1.out (gNx HB2.out hb3))
    clear hb3 g0 g1 g2 g3
    go_wp2_with fail
    refine (ints_none w3).mono ?_
    rintro e w4 ⟨rfl, hb4⟩
    have HB4 := Lib.hid (gNx HB3.out hb4)
    clear hb4
    go_wp2_with fail
    refine (HAW.out w4).mono ?_
    rintro e w5 ⟨rfl, hb5⟩
    have HB5 := Lib.hid (gNx HB4.out hb5)
    clear hb5
    go_wp2_with fail
    go_ret
    exact ⟨rfl, HB5.out⟩
  · subst hE0
    have HB2 := Lib.hid hb2
    have HO := Lib.hid ho
    have HDP := Lib.hid hdp
    have HNQ := Lib.hid hE
    have HN := Lib.hid (HNL.out rfl)
    clear hb2 ho hdp hE g0 g1 g2 g3
    obtain ⟨g0, g1, g2, g3⟩ := HKG.out w2 HB2.out
    obtain ⟨av, cv, hva⟩ := HO.out.slice
    subst hva
    obtain ⟨zl, hzl⟩ : ∃ zl, zl = (nearZ G.nodes l rad G.nodes.length).length := ⟨_, rfl⟩
    have HZL := Lib.hid hzl
    rw [← hzl]
    clear hzl
    go_wp2_with fail
    refine (HR.out w2 HB2.out).mono ?_
    rintro e w3 (⟨hne, -⟩ | ⟨-, -, l2, v2, rfl, ho2, hdp2, hb3⟩)
    case inl => exact absurd HNQ.out hne
    have hll := hdp2.unique HDP.out
    subst hll
    have HFS := Lib.hid (zs_same _ _ _ v2 (nearZ G.nodes l2 rad G.nodes.length) w3 (HO.out.below hb3) ho2 (by have := nearZ_len G.nodes l2 rad G.nodes.length; have := HN.out; omega))
    have HB3 := Lib.hid (gNx HB1.out (gNx HB2.out hb3))
    obtain ⟨av2, cv2, rfl⟩ := ho2.slice
    rw [← HZL.out] at HFS ⊢
    clear ho2 hdp2 hb3 g0 g1 g2 g3
    go_wp2_with fail
    refine HFS.out.mono ?_
    rintro e w4 ⟨rfl, hb4⟩
    have HB4 := Lib.hid (gNx HB3.out hb4)
    clear hb4
    go_wp2_with fail
    refine (HAW.out w4).mono ?_
    rintro e w5 ⟨rfl, hb5⟩
    have HB5 := Lib.hid (gNx HB4.out hb5)
    clear hb5
    go_wp2_with fail
    go_ret
    exact ⟨rfl, HB5.out⟩
end Go.Proofs.Ytcmknkdfoebniaa
