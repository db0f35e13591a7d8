/- Balls: the document's next and near. Balls: the document's entry. Balls: the document's up and Knows. Balls: the law of who knows whom. -/
import Derived.Test.YtjlfpjjfldbknaaGreatNhC
import Derived.Test.YtjlfpjjfldbknaaGreatBcA
section
namespace Go.Proofs.YtjlfpjjfldbknaaGreat
open Go.RowKit Go.Lib Go.Fq Go.Pq Go.Iq Go.Nq Go.Ow Go.Bq
set_option linter.unusedVariables false
set_option linter.unusedSimpArgs false
set_option maxRecDepth 100000

theorem nb_fact {G : Gr} (hz : checkG G = 0) (hw : Wts G) {u : Int} (hu : upB G.nodes u = true) {y : Lk} (hy : y ∈ neighL G u) :
    IntKind.i64.wrap (y.a + y.b) = y.a + y.b ∧ IntKind.i64.wrap (y.a + y.b - u) = othE y u ∧ upB G.nodes (othE y u) = true ∧ (∃ t, t < G.nodes.length ∧ Nq.ahead G.nodes (othE y u) = t ∧ placeV G.nodes (othE y u) = (t : Int)) ∧ ∃ q, 0 < q ∧ q ≤ 4294967296 ∧ y.w = qw q := by
  have n3 := (check_zero.1 hz).2.2.1
  obtain ⟨h1, h2, h3, h4, h5⟩ := neigh_mem hz hy
  have hl : y ∈ (liveG G).links := List.mem_filter.2 ⟨h1, by unfold liveL; rw [h2, h3, h4]; rfl⟩
  obtain ⟨-, -, -, -, -, -, -, a6, a7⟩ := live_ends hz hl
  obtain ⟨q, q1, q2, q3⟩ := weight_q y.w (hw y a7) a6
  obtain ⟨s, s1, s2, s3, -⟩ := up_id hz h3
  obtain ⟨t, t1, t2, t3, -⟩ := up_id hz h4
  obtain ⟨r, r1, r2, r3, -⟩ := up_id hz hu
  obtain ⟨o, o1, o2, o3, -⟩ := up_id hz (oth_up hz hy)
  have b1 := (idf_is n3 s1).2
  have b2 := (idf_is n3 t1).2
  have b3 := (idf_is n3 r1).2
  refine ⟨by rw [IntKind.wrap_i64]; omega, by rw [IntKind.wrap_i64]; unfold othE; omega, oth_up hz hy, ⟨o, o1, o2, ?_⟩, q, by omega, by omega, q3⟩
  exact placeV_hit n3 o1 ((idf_is n3 o1).1.trans o3)
def NxS (V : World) (lb lo k : Nat) (ya yb : Int) (yw gb : Nat) (na la : Option Addr) (nc n lc m dg t s d1 d2 : Nat) : Prop := V.cell? ⟨lb, lo + k * 4, none⟩ = some (.int .i64 ya) ∧ V.cell? ⟨lb, lo + k * 4 + 1, none⟩ = some (.int .i64 yb) ∧ V.cell? ⟨lb, lo + k * 4 + 2, none⟩ = some (.float .f64 yw) ∧ V.cell? ⟨gb, 0, none⟩ = some (.slice na n nc) ∧ V.cell? ⟨gb, 1, none⟩ = some (.slice la m lc) ∧ V.cell? ⟨dg, t, none⟩ = some (.float .f64 d1) ∧ V.cell? ⟨dg, s, none⟩ = some (.float .f64 d2)
set_option maxHeartbeats 16000000 in
theorem rbNear_any (u v : Int) (max dg dc : Nat) (G : Gr) (na : Option Addr) (nc : Nat) (la : Option Addr) (lc : Nat) (w : World) (hin : GrIn w G na la) (hz : checkG G = 0) (hl : qn max ≤ 4294967296) (hu : upB G.nodes u = true) (hd : ∀ V, Below w.heap.size w V → ∀ i, i < G.nodes.length → V.cell? ⟨dg, i, none⟩ = some (.float .f64 (dw (g_ (dst G (qn max) (Nq.ahead G.nodes v)) i)))) :
    Calls Tryz.prog 60 #[.agg #[.slice na G.nodes.length nc, .slice la G.links.length lc], .int .i64 u, .slice (some ⟨dg, 0, none⟩) G.nodes.length dc] w fun e w' => e = .returned (.bool (nearI G (qn max) u v)) ∧ Below w.heap.size w w' := by
  have n3 := (check_zero.1 hz).2.2.1
  obtain ⟨W1, hW1⟩ : ∃ W1, W1 = w.alloc (.cells #[.slice na G.nodes.length nc, .slice la G.links.length lc] 25) := ⟨_, rfl⟩
  have b1 : Below w.heap.size w W1 := by rw [hW1]; exact gAl _ _
  have s1 : w.heap.size < W1.heap.size := by rw [hW1]; simp
  have r1 : W1.heap[w.heap.size]? = some (.cells #[.slice na G.nodes.length nc, .slice la G.links.length lc] 25 (0, 0)) := by rw [hW1]; exact heap_alloc_new w _
  obtain ⟨gb, hgb⟩ : ∃ gb, gb = w.heap.size := ⟨_, rfl⟩
  rw [← hgb] at r1 s1
  have HKG : Hid (∀ V, Below W1.heap.size W1 V → V.cell? ⟨gb, 0, none⟩ = some (.slice na G.nodes.length nc) ∧ V.cell? ⟨gb, 1, none⟩ = some (.slice la G.links.length lc)) := Lib.hid (fun V hV => by
    have := two_cells ((hV.block _ s1).trans r1)
    exact ⟨this.1, this.2.1⟩)
  have HB1 := Lib.hid b1
  have HIN : Hid (∀ V, Below W1.heap.size W1 V → GrIn V G na la) := Lib.hid (fun V hV => (hin.below b1).below hV)
  have hst := g_storeL
  have hh := (up_place n3 hu).1
  have HNB := Lib.hid (rNeighbours_any G na nc la lc u W1 (hin.below b1))
  rw [nbL_ok (nbE_ok hz hh), nbE_ok hz hh] at HNB
  have HFA := Lib.hid (fun y (hy : y ∈ neighL G u) => nb_fact hz hin.wts hu hy)
  have HLN : Hid ((neighL G u).length ≤ 8192) := Lib.hid (Nat.le_trans (List.length_filter_le _ _) (by have := (check_zero.1 hz).2.1; omega))
  obtain ⟨s, s1, s2, s3, -⟩ := up_id hz hu
  have HPL := Lib.hid (fun x V (hV : Below W1.heap.size W1 V) => rPlace_any G.nodes na nc la G.links.length lc x V (HIN.out V hV).nodes n3 (by have := (check_zero.1 hz).1; omega))
  have HPU : Hid (placeV G.nodes u = (s : Int)) := Lib.hid (placeV_hit n3 s1 ((idf_is n3 s1).1.trans s3))
  have HDD : Hid (∀ V, Below W1.heap.size W1 V → ∀ i, i < G.nodes.length → V.cell? ⟨dg, i, none⟩ = some (.float .f64 (dw (g_ (dst G (qn max) (Nq.ahead G.nodes v)) i)))) := Lib.hid (fun V hV => hd V (gNx HB1.out hV))
  have HSM : Hid (∀ i, Sm (g_ (dst G (qn max) (Nq.ahead G.nodes v)) i)) := Lib.hid (fun i => dst_sm hz hin.wts hl _ _)
  obtain ⟨g0, g1⟩ := HKG.out W1 (Below.refl _ _)
  have HS1 := Lib.hid s1
  have HZ : Hid (nearI G (qn max) u v = (neighL G u).any (fun y => (dI G (qn max) (othE y u) v).isSome)) := Lib.hid rfl
  generalize nearI G (qn max) u v = Z at *
  obtain ⟨L, hL⟩ : ∃ L, L = neighL G u := ⟨_, rfl⟩
  rw [← hL] at HZ HNB HFA HLN
  clear hin hz hl hu hd b1 n3 hh s1 s2 s3 r1 hL
  go_enter Tryz.func60, Tryz.ntmps60
  go_upto_region 1 with (fail)
  rw [← hW1, ← hgb]
  clear hW1 hgb
  go_wp2_with fail
  refine HNB.out.mono ?_
  rintro e w2 ⟨vl, rfl, ho, -, hb2⟩
  obtain ⟨al, cl, e3, hli, -⟩ := ownL_in ho
  subst e3
  have HOL : Hid (∀ V, Below w2.heap.size w2 V → LinksIn V V.heap.size L al) := Lib.hid (fun V hV => by
    obtain ⟨a3, c3, e3, h3, -⟩ := ownL_in (ho.below hV)
    simp only [Value.slice.injEq] at e3
    rw [e3.1]; exact h3)
  have HB2 := Lib.hid hb2
  clear ho hli hb2 g0 g1 HNB
  go_wp2_with fail
  go_loopw [9] (fun i wr => ∃ k : Nat, i = .int .i64 (k : Int) ∧ k ≤ L.length ∧ Z = (L.drop k).any (fun y => (dI G (qn max) (othE y u) v).isSome) ∧ Below w2.heap.size w2 wr) (fun i _ => L.length - (RowKit.intOf i).toNat)
  case atStart => exact ⟨0, rfl, Nat.zero_le _, HZ.out, Below.refl _ _⟩
  case round =>
    obtain ⟨k, rfl, hk, hzk, hbx⟩ := hrel
    obtain ⟨wo, hwo⟩ : ∃ wo, wo = wr := ⟨_, rfl⟩
    subst hwo
    have HXW := Lib.hid hbx
    have HZK := Lib.hid hzk
    by_cases hlt : k < L.length
    · have hlti : (k : Int) < (L.length : Int) := by omega
      have hk0 : (0 : Int) ≤ (k : Int) := by omega
      have hkw : IntKind.i64.wrap ((k : Int) + 1) = (k : Int) + 1 := by rw [IntKind.wrap_i64]; have := HLN.out; omega
      have HK1 : Hid (k + 1 ≤ L.length ∧ L.length - (k + 1) < L.length - k ∧ ((k : Int) + 1).toNat = k + 1 ∧ (k : Int) + 1 = ((k + 1 : Nat) : Int)) := Lib.hid ⟨by omega, by omega, by omega, by omega⟩
      obtain ⟨lb, lo, hla, hbb, hlc⟩ := (HOL.out wo hbx).at k hlt
      have hm := hlc k hlt
      have HDR := Lib.hid (List.drop_eq_getElem_cons hlt)
      obtain ⟨hw1, hw2, -, ⟨t, t1, t2, t3⟩, q, q1, q2, q3⟩ := HFA.out _ (List.getElem_mem hlt)
      have HCL : Hid (∀ V, Below w2.heap.size w2 V → V.cell? ⟨lb, lo + k * 4, none⟩ = some (.int .i64 L[k].a) ∧ V.cell? ⟨lb, lo + k * 4 + 1, none⟩ = some (.int .i64 L[k].b) ∧ V.cell? ⟨lb, lo + k * 4 + 2, none⟩ = some (.float .f64 L[k].w)) := Lib.hid (fun V hV => by
        obtain ⟨lb2, lo2, e, -, h⟩ := (HOL.out V hV).at k hlt
        rw [hla] at e
        simp only [Option.some.injEq, Addr.mk.injEq, and_true] at e
        obtain ⟨rfl, rfl⟩ := e
        exact ⟨(h k hlt).1, (h k hlt).2, (h k hlt).3⟩)
      have HDIY : Hid (dI G (qn max) (othE L[k] u) v = g_ (dst G (qn max) (Nq.ahead G.nodes v)) t) := Lib.hid (by unfold dI; rw [t2])
      have hqn : qn L[k].w = q := by rw [q3, qn_qw (by omega)]
      have HQ : Hid (0 < q ∧ q ≤ 4294967296 ∧ t < G.nodes.length) := Lib.hid ⟨q1, q2, t1⟩
      have hti : (t : Int) < (G.nodes.length : Int) := by omega
      have ht0 : (0 : Int) ≤ (t : Int) := by omega
      have htn : (t : Int).toNat = t := by omega
      have HPT : Hid (placeV G.nodes (othE L[k] u) = (t : Int)) := Lib.hid t3
      rw [q3] at HCL
      have HFR := Lib.hid (fun W => rbFar_any _ (HSM.out t) W)
      subst hla
      have HZR : Hid (Z = ((g_ (dst G (qn max) (Nq.ahead G.nodes v)) t).isSome || (L.drop (k + 1)).any (fun y => (dI G (qn max) (othE y u) v).isSome))) := Lib.hid (by rw [HZK.out, HDR.out, List.any_cons, HDIY.out])
      have HSS : Hid (∀ V, Below w2.heap.size w2 V → NxS V lb lo k L[k].a L[k].b (qw q) gb na la nc G.nodes.length lc G.links.length dg t s (dw (g_ (dst G (qn max) (Nq.ahead G.nodes v)) t)) (dw (g_ (dst G (qn max) (Nq.ahead G.nodes v)) s))) := Lib.hid (fun V hV => by
        obtain ⟨z0, z1⟩ := HKG.out V (gNx HB2.out hV)
        obtain ⟨m0, m1, m2⟩ := HCL.out V hV
        exact ⟨m0, m1, m2, z0, z1, HDD.out V (gNx HB2.out hV) t HQ.out.2.2, HDD.out V (gNx HB2.out hV) s HS1.out⟩)
      generalize L[k] = yy at *
      obtain ⟨ya, yb, yww, yup⟩ := yy
      simp only at hw1 hw2 HSS
      obtain ⟨yv, hyv⟩ : ∃ yv, yv = othE ⟨ya, yb, yww, yup⟩ u := ⟨_, rfl⟩
      rw [← hyv] at hw2 HPT
      have HPY := Lib.hid (HPL.out yv)
      rw [HPT.out] at HPY
      obtain ⟨yw, hyw⟩ : ∃ yw, yw = qw q := ⟨_, rfl⟩
      rw [← hyw] at HSS
      obtain ⟨A, hA⟩ : ∃ A, A = g_ (dst G (qn max) (Nq.ahead G.nodes v)) t := ⟨_, rfl⟩
      rw [← hA] at HSS HFR HZR
      obtain ⟨d1, hd1⟩ : ∃ d1, d1 = dw A := ⟨_, rfl⟩
      obtain ⟨d2, hd2⟩ : ∃ d2, d2 = dw (g_ (dst G (qn max) (Nq.ahead G.nodes v)) s) := ⟨_, rfl⟩
      rw [← hd1] at HSS HFR
      rw [← hd2] at HSS
      clear hlt hk hbx hzk hbb hlc hm hyv hyw hA hd1 hd2 q1 q2 q3 t1 t2 t3 hqn HDIY
      cases A with
      | none =>
        simp only [Option.isNone_none] at HFR
        go_upto_region 5 with (fail)
        refine wp_region_held_drew (S := fun V => NxS V lb lo k ya yb yw gb na la nc G.nodes.length lc G.links.length dg t s d1 d2) (by kernel_rfl) (HSS.out _ (gNx HXW.out (Below.drew (Below.refl _ _)))) (fun hH => ?_)
        have hs0 := HSS.out _ (gNx HXW.out (Below.drew (Below.refl _ _)))
        have HXV0 := Lib.hid (gNx HXW.out (Below.drew (Below.refl _ _)))
        generalize wo.drew = V0 at *
        refine tk 0 (by assumption) rfl (by kernel_rfl) (fun _ _ _ h => h) (fun V hV => by go_simp; try with_reducible rfl) ?_
        try simp only [Act.put, sqA, sqB, sqC, sqD, sqE, sqF]
        refine tk 1 (by assumption) rfl (by kernel_rfl) (fun _ _ _ h => h) (fun V hV => by obtain ⟨hx0, hx1, hx2, hx3, hx4, hx5, hx6⟩ := hV; go_simp; try with_reducible rfl) ?_
        try simp only [Act.put, sqA, sqB, sqC, sqD, sqE, sqF]
        refine tk 2 (by assumption) rfl (by kernel_rfl) (fun _ _ _ h => h) (fun V hV => by go_simp; try with_reducible rfl) ?_
        try simp only [Act.put, sqA, sqB, sqC, sqD, sqE, sqF]
        refine tk 3 (by assumption) rfl (by kernel_rfl) (fun _ _ _ h => h) (fun V hV => by go_simp; try with_reducible rfl) ?_
        try simp only [Act.put, sqA, sqB, sqC, sqD, sqE, sqF]
        refine tk 4 (by assumption) rfl (by kernel_rfl) (fun _ _ _ h => h) (fun V hV => by go_simp; try with_reducible rfl) ?_
        try simp only [Act.put, sqA, sqB, sqC, sqD, sqE, sqF]
        refine tk 5 (by assumption) rfl (by kernel_rfl) (fun _ _ _ h => h) (fun V hV => by go_simp; try with_reducible rfl) ?_
        try simp only [Act.put, sqA, sqB, sqC, sqD, sqE, sqF]
        refine tk 6 (by assumption) rfl (by kernel_rfl) (fun _ _ _ h => h) (fun V hV => by obtain ⟨hx0, hx1, hx2, hx3, hx4, hx5, hx6⟩ := hV; go_simp; try with_reducible rfl) ?_
        try simp only [Act.put, sqA, sqB, sqC, sqD, sqE, sqF]
        refine tk 7 (by assumption) rfl (by kernel_rfl) (fun _ _ _ h => h) (fun V hV => by go_simp; try with_reducible rfl) ?_
        try simp only [Act.put, sqA, sqB, sqC, sqD, sqE, sqF]
        refine tk 8 (by assumption) rfl (by kernel_rfl) (fun _ _ _ h => h) (fun V hV => by go_simp; try with_reducible rfl) ?_
        try simp only [Act.put, sqA, sqB, sqC, sqD, sqE, sqF]
        refine tk 9 (by assumption) rfl (by kernel_rfl) (fun _ _ _ h => h) (fun V hV => by go_simp; try with_reducible rfl) ?_
        try simp only [Act.put, sqA, sqB, sqC, sqD, sqE, sqF]
        refine tk 10 (by assumption) rfl (by kernel_rfl) (fun _ _ _ h => h) (fun V hV => by go_simp; try with_reducible rfl) ?_
        try simp only [Act.put, sqA, sqB, sqC, sqD, sqE, sqF]
        refine tk 11 (by assumption) rfl (by kernel_rfl) (fun _ _ _ h => h) (fun V hV => by obtain ⟨hx0, hx1, hx2, hx3, hx4, hx5, hx6⟩ := hV; go_simp; try with_reducible rfl) ?_
        try simp only [Act.put, sqA, sqB, sqC, sqD, sqE, sqF]
        refine tk 12 (by assumption) rfl (by kernel_rfl) (fun _ _ _ h => h) (fun V hV => by go_simp; try with_reducible rfl) ?_
        try simp only [Act.put, sqA, sqB, sqC, sqD, sqE, sqF]
        refine tk 13 (by assumption) rfl (by kernel_rfl) (fun _ _ _ h => h) (fun V hV => by go_simp; try with_reducible rfl) ?_
        try simp only [Act.put, sqA, sqB, sqC, sqD, sqE, sqF]
        refine tk 14 (by assumption) rfl (by kernel_rfl) (fun _ _ _ h => h) (fun V hV => by go_simp; try with_reducible rfl) ?_
        try simp only [Act.put, sqA, sqB, sqC, sqD, sqE, sqF]
        refine wpAnyH_ready (rs := [15]) (by kernel_rfl) (by simp) ?_
        refine AllReadyH.cons (o := _) rfl (fun K hK => ?_) AllReadyH.nil
        go_simp
        refine (HPY.out V0 (gNx HB2.out HXV0.out)).mono ?_
        rintro e V1 ⟨rfl, hb1⟩
        have HXV1 := Lib.hid (gNx HXV0.out hb1)
        clear hb1
        go_wp2_with fail
        refine hK.out _ _ (HSS.out _ HXV1.out) (fun hH => ?_)
        clear hK K
        try simp only [Act.put, sqA, sqB, sqC, sqD, sqE, sqF]
        refine tk 16 (by assumption) rfl (by kernel_rfl) (fun _ _ _ h => h) (fun V hV => by go_simp; try with_reducible rfl) ?_
        try simp only [Act.put, sqA, sqB, sqC, sqD, sqE, sqF]
        refine tk 17 (by assumption) rfl (by kernel_rfl) (fun _ _ _ h => h) (fun V hV => by obtain ⟨hx0, hx1, hx2, hx3, hx4, hx5, hx6⟩ := hV; go_simp; try with_reducible rfl) ?_
        try simp only [Act.put, sqA, sqB, sqC, sqD, sqE, sqF]
        refine wpAnyH_ready (rs := [18]) (by kernel_rfl) (by simp) ?_
        refine AllReadyH.cons (o := _) rfl (fun K hK => ?_) AllReadyH.nil
        go_simp
        refine (HFR.out _).mono ?_
        rintro e w' ⟨rfl, rfl⟩
        go_wp2_with fail
        refine hK.out _ _ (HSS.out _ HXV1.out) (fun hH => ?_)
        clear hK K
        try simp only [Act.put, sqA, sqB, sqC, sqD, sqE, sqF]
        refine tk 19 (by assumption) rfl (by kernel_rfl) (fun _ _ _ h => h) (fun V hV => by go_simp; try with_reducible rfl) ?_
        try simp only [Act.put, sqA, sqB, sqC, sqD, sqE, sqF]
        refine wpAnyH_done (by kernel_rfl) ?_ _
        clear hs0
        go_wp2_with fail
        refine ⟨⟨k + 1, congrArg (Value.int .i64) HK1.out.2.2.2, HK1.out.1, by rw [HZR.out]; rfl, HXV1.out⟩, ?_⟩
        show L.length - ((k : Int) + 1).toNat < L.length - (k : Int).toNat
        rw [HK1.out.2.2.1]
        exact HK1.out.2.1
      | some x =>
        simp only [Option.isNone_some] at HFR
        go_upto_region 5 with (fail)
        refine wp_region_held_drew (S := fun V => NxS V lb lo k ya yb yw gb na la nc G.nodes.length lc G.links.length dg t s d1 d2) (by kernel_rfl) (HSS.out _ (gNx HXW.out (Below.drew (Below.refl _ _)))) (fun hH => ?_)
        have hs0 := HSS.out _ (gNx HXW.out (Below.drew (Below.refl _ _)))
        have HXV0 := Lib.hid (gNx HXW.out (Below.drew (Below.refl _ _)))
        generalize wo.drew = V0 at *
        refine tk 0 (by assumption) rfl (by kernel_rfl) (fun _ _ _ h => h) (fun V hV => by go_simp; try with_reducible rfl) ?_
        try simp only [Act.put, sqA, sqB, sqC, sqD, sqE, sqF]
        refine tk 1 (by assumption) rfl (by kernel_rfl) (fun _ _ _ h => h) (fun V hV => by obtain ⟨hx0, hx1, hx2, hx3, hx4, hx5, hx6⟩ := hV; go_simp; try with_reducible rfl) ?_
        try simp only [Act.put, sqA, sqB, sqC, sqD, sqE, sqF]
        refine tk 2 (by assumption) rfl (by kernel_rfl) (fun _ _ _ h => h) (fun V hV => by go_simp; try with_reducible rfl) ?_
        try simp only [Act.put, sqA, sqB, sqC, sqD, sqE, sqF]
        refine tk 3 (by assumption) rfl (by kernel_rfl) (fun _ _ _ h => h) (fun V hV => by go_simp; try with_reducible rfl) ?_
        try simp only [Act.put, sqA, sqB, sqC, sqD, sqE, sqF]
        refine tk 4 (by assumption) rfl (by kernel_rfl) (fun _ _ _ h => h) (fun V hV => by go_simp; try with_reducible rfl) ?_
        try simp only [Act.put, sqA, sqB, sqC, sqD, sqE, sqF]
        refine tk 5 (by assumption) rfl (by kernel_rfl) (fun _ _ _ h => h) (fun V hV => by go_simp; try with_reducible rfl) ?_
        try simp only [Act.put, sqA, sqB, sqC, sqD, sqE, sqF]
        refine tk 6 (by assumption) rfl (by kernel_rfl) (fun _ _ _ h => h) (fun V hV => by obtain ⟨hx0, hx1, hx2, hx3, hx4, hx5, hx6⟩ := hV; go_simp; try with_reducible rfl) ?_
        try simp only [Act.put, sqA, sqB, sqC, sqD, sqE, sqF]
        refine tk 7 (by assumption) rfl (by kernel_rfl) (fun _ _ _ h => h) (fun V hV => by go_simp; try with_reducible rfl) ?_
        try simp only [Act.put, sqA, sqB, sqC, sqD, sqE, sqF]
        refine tk 8 (by assumption) rfl (by kernel_rfl) (fun _ _ _ h => h) (fun V hV => by go_simp; try with_reducible rfl) ?_
        try simp only [Act.put, sqA, sqB, sqC, sqD, sqE, sqF]
        refine tk 9 (by assumption) rfl (by kernel_rfl) (fun _ _ _ h => h) (fun V hV => by go_simp; try with_reducible rfl) ?_
        try simp only [Act.put, sqA, sqB, sqC, sqD, sqE, sqF]
        refine tk 10 (by assumption) rfl (by kernel_rfl) (fun _ _ _ h => h) (fun V hV => by go_simp; try with_reducible rfl) ?_
        try simp only [Act.put, sqA, sqB, sqC, sqD, sqE, sqF]
        refine tk 11 (by assumption) rfl (by kernel_rfl) (fun _ _ _ h => h) (fun V hV => by obtain ⟨hx0, hx1, hx2, hx3, hx4, hx5, hx6⟩ := hV; go_simp; try with_reducible rfl) ?_
        try simp only [Act.put, sqA, sqB, sqC, sqD, sqE, sqF]
        refine tk 12 (by assumption) rfl (by kernel_rfl) (fun _ _ _ h => h) (fun V hV => by go_simp; try with_reducible rfl) ?_
        try simp only [Act.put, sqA, sqB, sqC, sqD, sqE, sqF]
        refine tk 13 (by assumption) rfl (by kernel_rfl) (fun _ _ _ h => h) (fun V hV => by go_simp; try with_reducible rfl) ?_
        try simp only [Act.put, sqA, sqB, sqC, sqD, sqE, sqF]
        refine tk 14 (by assumption) rfl (by kernel_rfl) (fun _ _ _ h => h) (fun V hV => by go_simp; try with_reducible rfl) ?_
        try simp only [Act.put, sqA, sqB, sqC, sqD, sqE, sqF]
        refine wpAnyH_ready (rs := [15]) (by kernel_rfl) (by simp) ?_
        refine AllReadyH.cons (o := _) rfl (fun K hK => ?_) AllReadyH.nil
        go_simp
        refine (HPY.out V0 (gNx HB2.out HXV0.out)).mono ?_
        rintro e V1 ⟨rfl, hb1⟩
        have HXV1 := Lib.hid (gNx HXV0.out hb1)
        clear hb1
        go_wp2_with fail
        refine hK.out _ _ (HSS.out _ HXV1.out) (fun hH => ?_)
        clear hK K
        try simp only [Act.put, sqA, sqB, sqC, sqD, sqE, sqF]
        refine tk 16 (by assumption) rfl (by kernel_rfl) (fun _ _ _ h => h) (fun V hV => by go_simp; try with_reducible rfl) ?_
        try simp only [Act.put, sqA, sqB, sqC, sqD, sqE, sqF]
        refine tk 17 (by assumption) rfl (by kernel_rfl) (fun _ _ _ h => h) (fun V hV => by obtain ⟨hx0, hx1, hx2, hx3, hx4, hx5, hx6⟩ := hV; go_simp; try with_reducible rfl) ?_
        try simp only [Act.put, sqA, sqB, sqC, sqD, sqE, sqF]
        refine wpAnyH_ready (rs := [18]) (by kernel_rfl) (by simp) ?_
        refine AllReadyH.cons (o := _) rfl (fun K hK => ?_) AllReadyH.nil
        go_simp
        refine (HFR.out _).mono ?_
        rintro e w' ⟨rfl, rfl⟩
        go_wp2_with fail
        refine hK.out _ _ (HSS.out _ HXV1.out) (fun hH => ?_)
        clear hK K
        try simp only [Act.put, sqA, sqB, sqC, sqD, sqE, sqF]
        refine tk 19 (by assumption) rfl (by kernel_rfl) (fun _ _ _ h => h) (fun V hV => by go_simp; try with_reducible rfl) ?_
        try simp only [Act.put, sqA, sqB, sqC, sqD, sqE, sqF]
        refine wpAnyH_done (by kernel_rfl) ?_ _
        clear hs0
        go_wp2_with fail
        go_ret
        refine ⟨?_, gNx HB1.out (gNx HB2.out HXV1.out)⟩
        rw [HZR.out]; rfl
    · have hnk : ¬ (k : Int) < (L.length : Int) := by omega
      have HZE : Hid (Z = false) := Lib.hid (by rw [HZK.out, List.drop_eq_nil_of_le (by omega)]; rfl)
      clear hlt hbx hzk
      go_wp2_with fail
      go_ret
      refine ⟨?_, gNx HB1.out (gNx HB2.out HXW.out)⟩
      rw [HZE.out]; rfl
set_option maxHeartbeats 16000000 in
theorem rbNext_any (u v : Int) (n max dg dc : Nat) (G : Gr) (na : Option Addr) (nc : Nat) (la : Option Addr) (lc : Nat) (w : World) (hin : GrIn w G na la) (hz : checkG G = 0) (hl : qn max ≤ 4294967296) (hu : upB G.nodes u = true) (hn : dI G (qn max) u v = some n) (hd : ∀ V, Below w.heap.size w V → ∀ i, i < G.nodes.length → V.cell? ⟨dg, i, none⟩ = some (.float .f64 (dw (g_ (dst G (qn max) (Nq.ahead G.nodes v)) i)))) :
    Calls Tryz.prog 58 #[.agg #[.slice na G.nodes.length nc, .slice la G.links.length lc], .int .i64 u, .slice (some ⟨dg, 0, none⟩) G.nodes.length dc] w fun e w' => e = .returned (.int .i64 (nextI G (qn max) u v)) ∧ Below w.heap.size w w' := by
  have n3 := (check_zero.1 hz).2.2.1
  obtain ⟨W1, hW1⟩ : ∃ W1, W1 = w.alloc (.cells #[.slice na G.nodes.length nc, .slice la G.links.length lc] 25) := ⟨_, rfl⟩
  have b1 : Below w.heap.size w W1 := by rw [hW1]; exact gAl _ _
  have s1 : w.heap.size < W1.heap.size := by rw [hW1]; simp
  have r1 : W1.heap[w.heap.size]? = some (.cells #[.slice na G.nodes.length nc, .slice la G.links.length lc] 25 (0, 0)) := by rw [hW1]; exact heap_alloc_new w _
  obtain ⟨gb, hgb⟩ : ∃ gb, gb = w.heap.size := ⟨_, rfl⟩
  rw [← hgb] at r1 s1
  have HKG : Hid (∀ V, Below W1.heap.size W1 V → V.cell? ⟨gb, 0, none⟩ = some (.slice na G.nodes.length nc) ∧ V.cell? ⟨gb, 1, none⟩ = some (.slice la G.links.length lc)) := Lib.hid (fun V hV => by
    have := two_cells ((hV.block _ s1).trans r1)
    exact ⟨this.1, this.2.1⟩)
  have HB1 := Lib.hid b1
  have HIN : Hid (∀ V, Below W1.heap.size W1 V → GrIn V G na la) := Lib.hid (fun V hV => (hin.below b1).below hV)
  have hst := g_storeL
  have hh := (up_place n3 hu).1
  have HNB := Lib.hid (rNeighbours_any G na nc la lc u W1 (hin.below b1))
  rw [nbL_ok (nbE_ok hz hh), nbE_ok hz hh] at HNB
  have HFA := Lib.hid (fun y (hy : y ∈ neighL G u) => nb_fact hz hin.wts hu hy)
  have HLN : Hid ((neighL G u).length ≤ 8192) := Lib.hid (Nat.le_trans (List.length_filter_le _ _) (by have := (check_zero.1 hz).2.1; omega))
  obtain ⟨s, s1, s2, s3, -⟩ := up_id hz hu
  have HPL := Lib.hid (fun x V (hV : Below W1.heap.size W1 V) => rPlace_any G.nodes na nc la G.links.length lc x V (HIN.out V hV).nodes n3 (by have := (check_zero.1 hz).1; omega))
  have HPU : Hid (placeV G.nodes u = (s : Int)) := Lib.hid (placeV_hit n3 s1 ((idf_is n3 s1).1.trans s3))
  have HDD : Hid (∀ V, Below W1.heap.size W1 V → ∀ i, i < G.nodes.length → V.cell? ⟨dg, i, none⟩ = some (.float .f64 (dw (g_ (dst G (qn max) (Nq.ahead G.nodes v)) i)))) := Lib.hid (fun V hV => hd V (gNx HB1.out hV))
  have HSM : Hid (∀ i, Sm (g_ (dst G (qn max) (Nq.ahead G.nodes v)) i)) := Lib.hid (fun i => dst_sm hz hin.wts hl _ _)
  obtain ⟨g0, g1⟩ := HKG.out W1 (Below.refl _ _)
  have HS1 := Lib.hid s1
  have HZ : Hid (nextI G (qn max) u v = match (neighL G u).find? (fitN G (qn max) u v n) with | some y => othE y u | none => 0) := Lib.hid (by unfold nextI; rw [hn]; rfl)
  have HDN : Hid (g_ (dst G (qn max) (Nq.ahead G.nodes v)) s = some n ∧ n ≤ 4294967296) := Lib.hid (by
    have e : g_ (dst G (qn max) (Nq.ahead G.nodes v)) s = some n := by unfold dI at hn; rw [s2] at hn; exact hn
    refine ⟨e, ?_⟩
    have := HSM.out s; rw [e] at this; exact this)
  have HPU2 := Lib.hid (HPL.out u)
  rw [HPU.out] at HPU2
  have hsi : (s : Int) < (G.nodes.length : Int) := by omega
  have hs0' : (0 : Int) ≤ (s : Int) := by omega
  generalize nextI G (qn max) u v = Z at *
  obtain ⟨L, hL⟩ : ∃ L, L = neighL G u := ⟨_, rfl⟩
  rw [← hL] at HZ HNB HFA HLN
  clear hin hz hl hu hd b1 n3 hh s1 s2 s3 r1 hL hn
  go_enter Tryz.func58, Tryz.ntmps58
  go_upto_region 1 with (fail)
  rw [← hW1, ← hgb]
  clear hW1 hgb
  go_wp2_with fail
  refine HNB.out.mono ?_
  rintro e w2 ⟨vl, rfl, ho, -, hb2⟩
  obtain ⟨al, cl, e3, hli, -⟩ := ownL_in ho
  subst e3
  have HOL : Hid (∀ V, Below w2.heap.size w2 V → LinksIn V V.heap.size L al) := Lib.hid (fun V hV => by
    obtain ⟨a3, c3, e3, h3, -⟩ := ownL_in (ho.below hV)
    simp only [Value.slice.injEq] at e3
    rw [e3.1]; exact h3)
  have HB2 := Lib.hid hb2
  clear ho hli hb2 g0 g1 HNB
  go_wp2_with fail
  go_loopw [9] (fun i wr => ∃ k : Nat, i = .int .i64 (k : Int) ∧ k ≤ L.length ∧ (Z = match (L.drop k).find? (fitN G (qn max) u v n) with | some y => othE y u | none => 0) ∧ Below w2.heap.size w2 wr) (fun i _ => L.length - (RowKit.intOf i).toNat)
  case atStart => exact ⟨0, rfl, Nat.zero_le _, HZ.out, Below.refl _ _⟩
  case round =>
    obtain ⟨k, rfl, hk, hzk, hbx⟩ := hrel
    obtain ⟨wo, hwo⟩ : ∃ wo, wo = wr := ⟨_, rfl⟩
    subst hwo
    have HXW := Lib.hid hbx
    have HZK := Lib.hid hzk
    by_cases hlt : k < L.length
    · have hlti : (k : Int) < (L.length : Int) := by omega
      have hk0 : (0 : Int) ≤ (k : Int) := by omega
      have hkw : IntKind.i64.wrap ((k : Int) + 1) = (k : Int) + 1 := by rw [IntKind.wrap_i64]; have := HLN.out; omega
      have HK1 : Hid (k + 1 ≤ L.length ∧ L.length - (k + 1) < L.length - k ∧ ((k : Int) + 1).toNat = k + 1 ∧ (k : Int) + 1 = ((k + 1 : Nat) : Int)) := Lib.hid ⟨by omega, by omega, by omega, by omega⟩
      obtain ⟨lb, lo, hla, hbb, hlc⟩ := (HOL.out wo hbx).at k hlt
      have hm := hlc k hlt
      have HDR := Lib.hid (List.drop_eq_getElem_cons hlt)
      obtain ⟨hw1, hw2, -, ⟨t, t1, t2, t3⟩, q, q1, q2, q3⟩ := HFA.out _ (List.getElem_mem hlt)
      have HCL : Hid (∀ V, Below w2.heap.size w2 V → V.cell? ⟨lb, lo + k * 4, none⟩ = some (.int .i64 L[k].a) ∧ V.cell? ⟨lb, lo + k * 4 + 1, none⟩ = some (.int .i64 L[k].b) ∧ V.cell? ⟨lb, lo + k * 4 + 2, none⟩ = some (.float .f64 L[k].w)) := Lib.hid (fun V hV => by
        obtain ⟨lb2, lo2, e, -, h⟩ := (HOL.out V hV).at k hlt
        rw [hla] at e
        simp only [Option.some.injEq, Addr.mk.injEq, and_true] at e
        obtain ⟨rfl, rfl⟩ := e
        exact ⟨(h k hlt).1, (h k hlt).2, (h k hlt).3⟩)
      have HDIY : Hid (dI G (qn max) (othE L[k] u) v = g_ (dst G (qn max) (Nq.ahead G.nodes v)) t) := Lib.hid (by unfold dI; rw [t2])
      have hqn : qn L[k].w = q := by rw [q3, qn_qw (by omega)]
      have HQ : Hid (0 < q ∧ q ≤ 4294967296 ∧ t < G.nodes.length) := Lib.hid ⟨q1, q2, t1⟩
      have hti : (t : Int) < (G.nodes.length : Int) := by omega
      have ht0 : (0 : Int) ≤ (t : Int) := by omega
      have htn : (t : Int).toNat = t := by omega
      have HPT : Hid (placeV G.nodes (othE L[k] u) = (t : Int)) := Lib.hid t3
      rw [q3] at HCL
      have HFR := Lib.hid (fun W => rbFar_any _ (HSM.out t) W)
      subst hla
      obtain ⟨S, hS, hS2⟩ := sum_is2 (g_ (dst G (qn max) (Nq.ahead G.nodes v)) t) q n (HSM.out t) q1 q2 HDN.out.2
      have HZR : Hid (Z = if sumIs (g_ (dst G (qn max) (Nq.ahead G.nodes v)) t) q n = true then othE L[k] u else match (L.drop (k + 1)).find? (fitN G (qn max) u v n) with | some y => othE y u | none => 0) := Lib.hid (by
        rw [HZK.out, HDR.out, List.find?_cons]
        have e : fitN G (qn max) u v n L[k] = sumIs (g_ (dst G (qn max) (Nq.ahead G.nodes v)) t) q n := by unfold fitN; rw [HDIY.out, hqn]
        rw [e]
        cases sumIs (g_ (dst G (qn max) (Nq.ahead G.nodes v)) t) q n <;> rfl)
      have HSS : Hid (∀ V, Below w2.heap.size w2 V → NxS V lb lo k L[k].a L[k].b (qw q) gb na la nc G.nodes.length lc G.links.length dg t s (dw (g_ (dst G (qn max) (Nq.ahead G.nodes v)) t)) (qw n)) := Lib.hid (fun V hV => by
        obtain ⟨z0, z1⟩ := HKG.out V (gNx HB2.out hV)
        obtain ⟨m0, m1, m2⟩ := HCL.out V hV
        have h := HDD.out V (gNx HB2.out hV) s HS1.out
        rw [HDN.out.1] at h
        exact ⟨m0, m1, m2, z0, z1, HDD.out V (gNx HB2.out hV) t HQ.out.2.2, h⟩)
      generalize L[k] = yy at *
      obtain ⟨ya, yb, yww, yup⟩ := yy
      simp only at hw1 hw2 HSS
      obtain ⟨yv, hyv⟩ : ∃ yv, yv = othE ⟨ya, yb, yww, yup⟩ u := ⟨_, rfl⟩
      rw [← hyv] at hw2 HPT HZR
      have HPY := Lib.hid (HPL.out yv)
      rw [HPT.out] at HPY
      obtain ⟨yw, hyw⟩ : ∃ yw, yw = qw q := ⟨_, rfl⟩
      rw [← hyw] at HSS hS
      obtain ⟨A, hA⟩ : ∃ A, A = g_ (dst G (qn max) (Nq.ahead G.nodes v)) t := ⟨_, rfl⟩
      rw [← hA] at HSS HFR HZR hS hS2
      obtain ⟨d1, hd1⟩ : ∃ d1, d1 = dw A := ⟨_, rfl⟩
      obtain ⟨d2, hd2⟩ : ∃ d2, d2 = qw n := ⟨_, rfl⟩
      rw [← hd1] at HSS HFR hS
      rw [← hd2] at HSS hS2
      have e1 := fun w => run_add_some (P := Tryz.prog) 26 yw d1 S hS w
      clear hlt hk hbx hzk hbb hlc hm hyv hyw hA hd1 hd2 q1 q2 q3 t1 t2 t3 hqn HDIY hS
      cases A with
      | none =>
        simp only [Option.isNone_none] at HFR
        have HZR : Hid (Z = match (L.drop (k + 1)).find? (fitN G (qn max) u v n) with | some y => othE y u | none => 0) := Lib.hid (by rw [HZR.out]; rfl)
        go_upto_region 5 with (fail)
        refine wp_region_held_drew (S := fun V => NxS V lb lo k ya yb yw gb na la nc G.nodes.length lc G.links.length dg t s d1 d2) (by kernel_rfl) (HSS.out _ (gNx HXW.out (Below.drew (Below.refl _ _)))) (fun hH => ?_)
        have hs0 := HSS.out _ (gNx HXW.out (Below.drew (Below.refl _ _)))
        have HXV0 := Lib.hid (gNx HXW.out (Below.drew (Below.refl _ _)))
        generalize wo.drew = V0 at *
        refine tk 0 (by assumption) rfl (by kernel_rfl) (fun _ _ _ h => h) (fun V hV => by go_simp; try with_reducible rfl) ?_
        try simp only [Act.put, sqA, sqB, sqC, sqD, sqE, sqF]
        refine tk 1 (by assumption) rfl (by kernel_rfl) (fun _ _ _ h => h) (fun V hV => by go_simp; try with_reducible rfl) ?_
        try simp only [Act.put, sqA, sqB, sqC, sqD, sqE, sqF]
        refine tk 2 (by assumption) rfl (by kernel_rfl) (fun _ _ _ h => h) (fun V hV => by go_simp; try with_reducible rfl) ?_
        try simp only [Act.put, sqA, sqB, sqC, sqD, sqE, sqF]
        refine tk 3 (by assumption) rfl (by kernel_rfl) (fun _ _ _ h => h) (fun V hV => by go_simp; try with_reducible rfl) ?_
        try simp only [Act.put, sqA, sqB, sqC, sqD, sqE, sqF]
        refine tk 4 (by assumption) rfl (by kernel_rfl) (fun _ _ _ h => h) (fun V hV => by obtain ⟨hx0, hx1, hx2, hx3, hx4, hx5, hx6⟩ := hV; go_simp; try with_reducible rfl) ?_
        try simp only [Act.put, sqA, sqB, sqC, sqD, sqE, sqF]
        refine tk 5 (by assumption) rfl (by kernel_rfl) (fun _ _ _ h => h) (fun V hV => by go_simp; try with_reducible rfl) ?_
        try simp only [Act.put, sqA, sqB, sqC, sqD, sqE, sqF]
        refine tk 6 (by assumption) rfl (by kernel_rfl) (fun _ _ _ h => h) (fun V hV => by go_simp; try with_reducible rfl) ?_
        try simp only [Act.put, sqA, sqB, sqC, sqD, sqE, sqF]
        refine tk 7 (by assumption) rfl (by kernel_rfl) (fun _ _ _ h => h) (fun V hV => by go_simp; try with_reducible rfl) ?_
        try simp only [Act.put, sqA, sqB, sqC, sqD, sqE, sqF]
        refine tk 8 (by assumption) rfl (by kernel_rfl) (fun _ _ _ h => h) (fun V hV => by go_simp; try with_reducible rfl) ?_
        try simp only [Act.put, sqA, sqB, sqC, sqD, sqE, sqF]
        refine tk 9 (by assumption) rfl (by kernel_rfl) (fun _ _ _ h => h) (fun V hV => by obtain ⟨hx0, hx1, hx2, hx3, hx4, hx5, hx6⟩ := hV; go_simp; try with_reducible rfl) ?_
        try simp only [Act.put, sqA, sqB, sqC, sqD, sqE, sqF]
        refine tk 10 (by assumption) rfl (by kernel_rfl) (fun _ _ _ h => h) (fun V hV => by go_simp; try with_reducible rfl) ?_
        try simp only [Act.put, sqA, sqB, sqC, sqD, sqE, sqF]
        refine tk 11 (by assumption) rfl (by kernel_rfl) (fun _ _ _ h => h) (fun V hV => by go_simp; try with_reducible rfl) ?_
        try simp only [Act.put, sqA, sqB, sqC, sqD, sqE, sqF]
        refine tk 12 (by assumption) rfl (by kernel_rfl) (fun _ _ _ h => h) (fun V hV => by go_simp; try with_reducible rfl) ?_
        try simp only [Act.put, sqA, sqB, sqC, sqD, sqE, sqF]
        refine tk 13 (by assumption) rfl (by kernel_rfl) (fun _ _ _ h => h) (fun V hV => by go_simp; try with_reducible rfl) ?_
        try simp only [Act.put, sqA, sqB, sqC, sqD, sqE, sqF]
        refine wpAnyH_done (by kernel_rfl) ?_ _
        clear hs0
        obtain ⟨x0, x1, x2, x3, x4, x5, x6⟩ := HSS.out _ HXV0.out
        go_wp2_with fail
        refine (HPY.out _ (gNx HB2.out HXV0.out)).mono ?_
        rintro e V1 ⟨rfl, hb1⟩
        have HXV1 := Lib.hid (gNx HXV0.out hb1)
        clear hb1 x0 x1 x2 x3 x4 x5 x6
        obtain ⟨x0, x1, x2, x3, x4, x5, x6⟩ := HSS.out _ HXV1.out
        go_upto_region 7 with (fail)
        clear x0 x1 x2 x3 x4 x5 x6
        refine wp_region_held_drew (S := fun V => NxS V lb lo k ya yb yw gb na la nc G.nodes.length lc G.links.length dg t s d1 d2) (by kernel_rfl) (HSS.out _ (gNx HXV1.out (Below.drew (Below.refl _ _)))) (fun hH => ?_)
        have hs0 := HSS.out _ (gNx HXV1.out (Below.drew (Below.refl _ _)))
        have HXV2 := Lib.hid (gNx HXV1.out (Below.drew (Below.refl _ _)))
        generalize V1.drew = V2 at *
        refine tk 0 (by assumption) rfl (by kernel_rfl) (fun _ _ _ h => h) (fun V hV => by go_simp; try with_reducible rfl) ?_
        try simp only [Act.put, sqA, sqB, sqC, sqD, sqE, sqF]
        refine wpAnyH_ready (rs := [1]) (by kernel_rfl) (by simp) ?_
        refine AllReadyH.cons (o := _) rfl (fun K hK => ?_) AllReadyH.nil
        go_simp
        refine (HFR.out _).mono ?_
        rintro e w' ⟨rfl, rfl⟩
        go_wp2_with fail
        refine hK.out _ _ (HSS.out _ HXV2.out) (fun hH => ?_)
        clear hK K
        try simp only [Act.put, sqA, sqB, sqC, sqD, sqE, sqF]
        refine tk 2 (by assumption) rfl (by kernel_rfl) (fun _ _ _ h => h) (fun V hV => by go_simp; try with_reducible rfl) ?_
        try simp only [Act.put, sqA, sqB, sqC, sqD, sqE, sqF]
        refine tk 3 (by assumption) rfl (by kernel_rfl) (fun _ _ _ h => h) (fun V hV => by go_simp; try with_reducible rfl) ?_
        try simp only [Act.put, sqA, sqB, sqC, sqD, sqE, sqF]
        refine wpAnyH_take (i := 4) (oi := _) (v := undef) rfl (by kernel_rfl) (by kernel_rfl) (by kernel_rfl) (fun _ _ _ h => h) (Or.inr ⟨by kernel_rfl, rfl⟩) (by assumption) ?_
        try simp only [Act.put, sqA, sqB, sqC, sqD, sqE, sqF]
        refine wpAnyH_take (i := 5) (oi := _) (v := undef) rfl (by kernel_rfl) (by kernel_rfl) (by kernel_rfl) (fun _ _ _ h => h) (Or.inr ⟨by kernel_rfl, rfl⟩) (by assumption) ?_
        try simp only [Act.put, sqA, sqB, sqC, sqD, sqE, sqF]
        refine wpAnyH_take (i := 6) (oi := _) (v := undef) rfl (by kernel_rfl) (by kernel_rfl) (by kernel_rfl) (fun _ _ _ h => h) (Or.inr ⟨by kernel_rfl, rfl⟩) (by assumption) ?_
        try simp only [Act.put, sqA, sqB, sqC, sqD, sqE, sqF]
        refine wpAnyH_take (i := 7) (oi := _) (v := undef) rfl (by kernel_rfl) (by kernel_rfl) (by kernel_rfl) (fun _ _ _ h => h) (Or.inr ⟨by kernel_rfl, rfl⟩) (by assumption) ?_
        try simp only [Act.put, sqA, sqB, sqC, sqD, sqE, sqF]
        refine wpAnyH_take (i := 8) (oi := _) (v := undef) rfl (by kernel_rfl) (by kernel_rfl) (by kernel_rfl) (fun _ _ _ h => h) (Or.inr ⟨by kernel_rfl, rfl⟩) (by assumption) ?_
        try simp only [Act.put, sqA, sqB, sqC, sqD, sqE, sqF]
        refine wpAnyH_take (i := 9) (oi := _) (v := undef) rfl (by kernel_rfl) (by kernel_rfl) (by kernel_rfl) (fun _ _ _ h => h) (Or.inr ⟨by kernel_rfl, rfl⟩) (by assumption) ?_
        try simp only [Act.put, sqA, sqB, sqC, sqD, sqE, sqF]
        refine wpAnyH_take (i := 10) (oi := _) (v := undef) rfl (by kernel_rfl) (by kernel_rfl) (by kernel_rfl) (fun _ _ _ h => h) (Or.inr ⟨by kernel_rfl, rfl⟩) (by assumption) ?_
        try simp only [Act.put, sqA, sqB, sqC, sqD, sqE, sqF]
        refine wpAnyH_take (i := 11) (oi := _) (v := undef) rfl (by kernel_rfl) (by kernel_rfl) (by kernel_rfl) (fun _ _ _ h => h) (Or.inr ⟨by kernel_rfl, rfl⟩) (by assumption) ?_
        try simp only [Act.put, sqA, sqB, sqC, sqD, sqE, sqF]
        refine wpAnyH_take (i := 12) (oi := _) (v := undef) rfl (by kernel_rfl) (by kernel_rfl) (by kernel_rfl) (fun _ _ _ h => h) (Or.inr ⟨by kernel_rfl, rfl⟩) (by assumption) ?_
        try simp only [Act.put, sqA, sqB, sqC, sqD, sqE, sqF]
        refine wpAnyH_take (i := 13) (oi := _) (v := undef) rfl (by kernel_rfl) (by kernel_rfl) (by kernel_rfl) (fun _ _ _ h => h) (Or.inr ⟨by kernel_rfl, rfl⟩) (by assumption) ?_
        try simp only [Act.put, sqA, sqB, sqC, sqD, sqE, sqF]
        refine wpAnyH_take (i := 14) (oi := _) (v := undef) rfl (by kernel_rfl) (by kernel_rfl) (by kernel_rfl) (fun _ _ _ h => h) (Or.inr ⟨by kernel_rfl, rfl⟩) (by assumption) ?_
        try simp only [Act.put, sqA, sqB, sqC, sqD, sqE, sqF]
        refine wpAnyH_take (i := 15) (oi := _) (v := undef) rfl (by kernel_rfl) (by kernel_rfl) (by kernel_rfl) (fun _ _ _ h => h) (Or.inr ⟨by kernel_rfl, rfl⟩) (by assumption) ?_
        try simp only [Act.put, sqA, sqB, sqC, sqD, sqE, sqF]
        refine wpAnyH_take (i := 16) (oi := _) (v := undef) rfl (by kernel_rfl) (by kernel_rfl) (by kernel_rfl) (fun _ _ _ h => h) (Or.inr ⟨by kernel_rfl, rfl⟩) (by assumption) ?_
        try simp only [Act.put, sqA, sqB, sqC, sqD, sqE, sqF]
        refine wpAnyH_take (i := 17) (oi := _) (v := undef) rfl (by kernel_rfl) (by kernel_rfl) (by kernel_rfl) (fun _ _ _ h => h) (Or.inr ⟨by kernel_rfl, rfl⟩) (by assumption) ?_
        try simp only [Act.put, sqA, sqB, sqC, sqD, sqE, sqF]
        refine tk 18 (by assumption) rfl (by kernel_rfl) (fun _ _ _ h => h) (fun V hV => by go_simp; try with_reducible rfl) ?_
        try simp only [Act.put, sqA, sqB, sqC, sqD, sqE, sqF]
        refine wpAnyH_done (by kernel_rfl) ?_ _
        clear hs0
        go_wp2_with fail
        refine ⟨⟨k + 1, congrArg (Value.int .i64) HK1.out.2.2.2, HK1.out.1, HZR.out, HXV2.out⟩, ?_⟩
        show L.length - ((k : Int) + 1).toNat < L.length - (k : Int).toNat
        rw [HK1.out.2.2.1]
        exact HK1.out.2.1
      | some x =>
        simp only [Option.isNone_some] at HFR
        obtain ⟨tv, htv⟩ : ∃ tv, tv = sumIs (some x) q n := ⟨_, rfl⟩
        rw [← htv] at hS2 HZR
        clear htv
        go_upto_region 5 with (fail)
        refine wp_region_held_drew (S := fun V => NxS V lb lo k ya yb yw gb na la nc G.nodes.length lc G.links.length dg t s d1 d2) (by kernel_rfl) (HSS.out _ (gNx HXW.out (Below.drew (Below.refl _ _)))) (fun hH => ?_)
        have hs0 := HSS.out _ (gNx HXW.out (Below.drew (Below.refl _ _)))
        have HXV0 := Lib.hid (gNx HXW.out (Below.drew (Below.refl _ _)))
        generalize wo.drew = V0 at *
        refine tk 0 (by assumption) rfl (by kernel_rfl) (fun _ _ _ h => h) (fun V hV => by go_simp; try with_reducible rfl) ?_
        try simp only [Act.put, sqA, sqB, sqC, sqD, sqE, sqF]
        refine tk 1 (by assumption) rfl (by kernel_rfl) (fun _ _ _ h => h) (fun V hV => by go_simp; try with_reducible rfl) ?_
        try simp only [Act.put, sqA, sqB, sqC, sqD, sqE, sqF]
        refine tk 2 (by assumption) rfl (by kernel_rfl) (fun _ _ _ h => h) (fun V hV => by go_simp; try with_reducible rfl) ?_
        try simp only [Act.put, sqA, sqB, sqC, sqD, sqE, sqF]
        refine tk 3 (by assumption) rfl (by kernel_rfl) (fun _ _ _ h => h) (fun V hV => by go_simp; try with_reducible rfl) ?_
        try simp only [Act.put, sqA, sqB, sqC, sqD, sqE, sqF]
        refine tk 4 (by assumption) rfl (by kernel_rfl) (fun _ _ _ h => h) (fun V hV => by obtain ⟨hx0, hx1, hx2, hx3, hx4, hx5, hx6⟩ := hV; go_simp; try with_reducible rfl) ?_
        try simp only [Act.put, sqA, sqB, sqC, sqD, sqE, sqF]
        refine tk 5 (by assumption) rfl (by kernel_rfl) (fun _ _ _ h => h) (fun V hV => by go_simp; try with_reducible rfl) ?_
        try simp only [Act.put, sqA, sqB, sqC, sqD, sqE, sqF]
        refine tk 6 (by assumption) rfl (by kernel_rfl) (fun _ _ _ h => h) (fun V hV => by go_simp; try with_reducible rfl) ?_
        try simp only [Act.put, sqA, sqB, sqC, sqD, sqE, sqF]
        refine tk 7 (by assumption) rfl (by kernel_rfl) (fun _ _ _ h => h) (fun V hV => by go_simp; try with_reducible rfl) ?_
        try simp only [Act.put, sqA, sqB, sqC, sqD, sqE, sqF]
        refine tk 8 (by assumption) rfl (by kernel_rfl) (fun _ _ _ h => h) (fun V hV => by go_simp; try with_reducible rfl) ?_
        try simp only [Act.put, sqA, sqB, sqC, sqD, sqE, sqF]
        refine tk 9 (by assumption) rfl (by kernel_rfl) (fun _ _ _ h => h) (fun V hV => by obtain ⟨hx0, hx1, hx2, hx3, hx4, hx5, hx6⟩ := hV; go_simp; try with_reducible rfl) ?_
        try simp only [Act.put, sqA, sqB, sqC, sqD, sqE, sqF]
        refine tk 10 (by assumption) rfl (by kernel_rfl) (fun _ _ _ h => h) (fun V hV => by go_simp; try with_reducible rfl) ?_
        try simp only [Act.put, sqA, sqB, sqC, sqD, sqE, sqF]
        refine tk 11 (by assumption) rfl (by kernel_rfl) (fun _ _ _ h => h) (fun V hV => by go_simp; try with_reducible rfl) ?_
        try simp only [Act.put, sqA, sqB, sqC, sqD, sqE, sqF]
        refine tk 12 (by assumption) rfl (by kernel_rfl) (fun _ _ _ h => h) (fun V hV => by go_simp; try with_reducible rfl) ?_
        try simp only [Act.put, sqA, sqB, sqC, sqD, sqE, sqF]
        refine tk 13 (by assumption) rfl (by kernel_rfl) (fun _ _ _ h => h) (fun V hV => by go_simp; try with_reducible rfl) ?_
        try simp only [Act.put, sqA, sqB, sqC, sqD, sqE, sqF]
        refine wpAnyH_done (by kernel_rfl) ?_ _
        clear hs0
        obtain ⟨x0, x1, x2, x3, x4, x5, x6⟩ := HSS.out _ HXV0.out
        go_wp2_with fail
        refine (HPY.out _ (gNx HB2.out HXV0.out)).mono ?_
        rintro e V1 ⟨rfl, hb1⟩
        have HXV1 := Lib.hid (gNx HXV0.out hb1)
        clear hb1 x0 x1 x2 x3 x4 x5 x6
        obtain ⟨x0, x1, x2, x3, x4, x5, x6⟩ := HSS.out _ HXV1.out
        go_upto_region 7 with (fail)
        clear x0 x1 x2 x3 x4 x5 x6
        refine wp_region_held_drew (S := fun V => NxS V lb lo k ya yb yw gb na la nc G.nodes.length lc G.links.length dg t s d1 d2) (by kernel_rfl) (HSS.out _ (gNx HXV1.out (Below.drew (Below.refl _ _)))) (fun hH => ?_)
        have hs0 := HSS.out _ (gNx HXV1.out (Below.drew (Below.refl _ _)))
        have HXV2 := Lib.hid (gNx HXV1.out (Below.drew (Below.refl _ _)))
        generalize V1.drew = V2 at *
        refine tk 0 (by assumption) rfl (by kernel_rfl) (fun _ _ _ h => h) (fun V hV => by go_simp; try with_reducible rfl) ?_
        try simp only [Act.put, sqA, sqB, sqC, sqD, sqE, sqF]
        refine wpAnyH_ready (rs := [1]) (by kernel_rfl) (by simp) ?_
        refine AllReadyH.cons (o := _) rfl (fun K hK => ?_) AllReadyH.nil
        go_simp
        refine (HFR.out _).mono ?_
        rintro e w' ⟨rfl, rfl⟩
        go_wp2_with fail
        refine hK.out _ _ (HSS.out _ HXV2.out) (fun hH => ?_)
        clear hK K
        try simp only [Act.put, sqA, sqB, sqC, sqD, sqE, sqF]
        refine tk 2 (by assumption) rfl (by kernel_rfl) (fun _ _ _ h => h) (fun V hV => by go_simp; try with_reducible rfl) ?_
        try simp only [Act.put, sqA, sqB, sqC, sqD, sqE, sqF]
        refine tk 3 (by assumption) rfl (by kernel_rfl) (fun _ _ _ h => h) (fun V hV => by go_simp; try with_reducible rfl) ?_
        try simp only [Act.put, sqA, sqB, sqC, sqD, sqE, sqF]
        refine tk 4 (by assumption) rfl (by kernel_rfl) (fun _ _ _ h => h) (fun V hV => by go_simp; try with_reducible rfl) ?_
        try simp only [Act.put, sqA, sqB, sqC, sqD, sqE, sqF]
        refine tk 5 (by assumption) rfl (by kernel_rfl) (fun _ _ _ h => h) (fun V hV => by go_simp; try with_reducible rfl) ?_
        try simp only [Act.put, sqA, sqB, sqC, sqD, sqE, sqF]
        refine tk 6 (by assumption) rfl (by kernel_rfl) (fun _ _ _ h => h) (fun V hV => by go_simp; try with_reducible rfl) ?_
        try simp only [Act.put, sqA, sqB, sqC, sqD, sqE, sqF]
        refine tk 7 (by assumption) rfl (by kernel_rfl) (fun _ _ _ h => h) (fun V hV => by go_simp; try with_reducible rfl) ?_
        try simp only [Act.put, sqA, sqB, sqC, sqD, sqE, sqF]
        refine tk 8 (by assumption) rfl (by kernel_rfl) (fun _ _ _ h => h) (fun V hV => by obtain ⟨hx0, hx1, hx2, hx3, hx4, hx5, hx6⟩ := hV; go_simp; try with_reducible rfl) ?_
        try simp only [Act.put, sqA, sqB, sqC, sqD, sqE, sqF]
        refine tk 9 (by assumption) rfl (by kernel_rfl) (fun _ _ _ h => h) (fun V hV => by go_simp; try with_reducible rfl) ?_
        try simp only [Act.put, sqA, sqB, sqC, sqD, sqE, sqF]
        refine tk 10 (by assumption) rfl (by kernel_rfl) (fun _ _ _ h => h) (fun V hV => by go_simp; try with_reducible rfl) ?_
        try simp only [Act.put, sqA, sqB, sqC, sqD, sqE, sqF]
        refine tk 11 (by assumption) rfl (by kernel_rfl) (fun _ _ _ h => h) (fun V hV => by go_simp; try with_reducible rfl) ?_
        try simp only [Act.put, sqA, sqB, sqC, sqD, sqE, sqF]
        refine tk 12 (by assumption) rfl (by kernel_rfl) (fun _ _ _ h => h) (fun V hV => by obtain ⟨hx0, hx1, hx2, hx3, hx4, hx5, hx6⟩ := hV; go_simp; try with_reducible rfl) ?_
        try simp only [Act.put, sqA, sqB, sqC, sqD, sqE, sqF]
        refine tk 13 (by assumption) rfl (by kernel_rfl) (fun _ _ _ h => h) (fun V hV => by go_simp; try with_reducible rfl) ?_
        try simp only [Act.put, sqA, sqB, sqC, sqD, sqE, sqF]
        refine wpAnyH_ready (rs := [14]) (by kernel_rfl) (by simp) ?_
        refine AllReadyH.cons (o := _) rfl (fun K hK => ?_) AllReadyH.nil
        go_simp
        refine (HPU2.out _ (gNx HB2.out HXV2.out)).mono ?_
        rintro e V3 ⟨rfl, hb3⟩
        have HXV3 := Lib.hid (gNx HXV2.out hb3)
        clear hb3
        go_wp2_with fail
        refine hK.out _ _ (HSS.out _ HXV3.out) (fun hH => ?_)
        clear hK K
        try simp only [Act.put, sqA, sqB, sqC, sqD, sqE, sqF]
        refine tk 15 (by assumption) rfl (by kernel_rfl) (fun _ _ _ h => h) (fun V hV => by go_simp; try with_reducible rfl) ?_
        try simp only [Act.put, sqA, sqB, sqC, sqD, sqE, sqF]
        refine tk 16 (by assumption) rfl (by kernel_rfl) (fun _ _ _ h => h) (fun V hV => by obtain ⟨hx0, hx1, hx2, hx3, hx4, hx5, hx6⟩ := hV; go_simp; try with_reducible rfl) ?_
        try simp only [Act.put, sqA, sqB, sqC, sqD, sqE, sqF]
        refine tk 17 (by assumption) rfl (by kernel_rfl) (fun _ _ _ h => h) (fun V hV => by go_simp; try with_reducible rfl) ?_
        try simp only [Act.put, sqA, sqB, sqC, sqD, sqE, sqF]
        refine tk 18 (by assumption) rfl (by kernel_rfl) (fun _ _ _ h => h) (fun V hV => by go_simp; try with_reducible rfl) ?_
        try simp only [Act.put, sqA, sqB, sqC, sqD, sqE, sqF]
        refine wpAnyH_done (by kernel_rfl) ?_ _
        clear hs0
        cases tv with
        | false =>
          go_wp2_with fail
          refine ⟨⟨k + 1, congrArg (Value.int .i64) HK1.out.2.2.2, HK1.out.1, by rw [HZR.out]; rfl, HXV3.out⟩, ?_⟩
          show L.length - ((k : Int) + 1).toNat < L.length - (k : Int).toNat
          rw [HK1.out.2.2.1]
          exact HK1.out.2.1
        | true =>
          go_wp2_with fail
          go_ret
          refine ⟨?_, gNx HB1.out (gNx HB2.out HXV3.out)⟩
          rw [HZR.out]; rfl
    · have hnk : ¬ (k : Int) < (L.length : Int) := by omega
      have HZE : Hid (Z = 0) := Lib.hid (by rw [HZK.out, List.drop_eq_nil_of_le (by omega)]; rfl)
      clear hlt hbx hzk
      go_wp2_with fail
      go_ret
      refine ⟨?_, gNx HB1.out (gNx HB2.out HXW.out)⟩
      rw [HZE.out]; rfl
end Go.Proofs.YtjlfpjjfldbknaaGreat
end

section
namespace Go.Proofs.YtjlfpjjfldbknaaGreat
open Go.RowKit Go.Lib Go.Fq Go.Pq Go.Iq Go.Nq Go.Ow Go.Bq
set_option linter.unusedVariables false
set_option linter.unusedSimpArgs false
set_option maxRecDepth 100000

/-- An entry's six cells; nothing where there is none. -/
noncomputable def enV (G : Gr) (lim : Nat) (u : Int) (m : Nd) : List Value := if kindI G lim u m = 0 then [.int .i64 0, .int .i64 0, .float .f64 0, .int .i64 0, .float .f64 0, .int .i64 0] else enC (enI G lim u m)
theorem enV_mark {G : Gr} {lim : Nat} {u : Int} {m : Nd} (hk : m.mark = true) : enV G lim u m = if dI G lim u m.id = none ∧ nearI G lim u m.id = false then [.int .i64 0, .int .i64 0, .float .f64 0, .int .i64 0, .float .f64 0, .int .i64 0] else [.int .i64 m.id, .int .i64 1, .float .f64 (dw (dI G lim u m.id)), .int .i64 (nextI G lim u m.id), .float .f64 0, .int .i64 0] := by
  have hkd : kindI G lim u m = if dI G lim u m.id = none ∧ nearI G lim u m.id = false then 0 else 1 := by unfold kindI; rw [if_pos hk]
  unfold enV
  by_cases h : dI G lim u m.id = none ∧ nearI G lim u m.id = false
  · rw [if_pos h] at hkd ⊢; rw [if_pos hkd]
  · rw [if_neg h] at hkd ⊢
    rw [if_neg (by rw [hkd]; decide)]
    have hz : dw (some 0) = 0 := by decide +kernel
    unfold enI; rw [if_pos hk]; unfold enC; rw [hkd, hz]
theorem enV_home {G : Gr} {lim : Nat} {u : Int} {m : Nd} (hk : m.mark = false) : enV G lim u m = if ltO (dI G lim u m.id) (homeI G lim m.id).2 = true then [.int .i64 m.id, .int .i64 2, .float .f64 (dw (dI G lim u m.id)), .int .i64 (nextI G lim u m.id), .float .f64 (dw (homeI G lim m.id).2), .int .i64 (homeI G lim m.id).1] else if u = (homeI G lim m.id).1 then [.int .i64 m.id, .int .i64 3, .float .f64 (dw (dI G lim u m.id)), .int .i64 (nextI G lim u m.id), .float .f64 (dw (homeI G lim m.id).2), .int .i64 (homeI G lim m.id).1] else [.int .i64 0, .int .i64 0, .float .f64 0, .int .i64 0, .float .f64 0, .int .i64 0] := by
  have hf : ¬ m.mark = true := by rw [hk]; decide
  have hkd : kindI G lim u m = if ltO (dI G lim u m.id) (homeI G lim m.id).2 = true then 2 else if u = (homeI G lim m.id).1 then 3 else 0 := by unfold kindI; rw [if_neg hf]
  unfold enV
  by_cases h : ltO (dI G lim u m.id) (homeI G lim m.id).2 = true
  · rw [if_pos h] at hkd ⊢
    rw [if_neg (by rw [hkd]; decide)]
    unfold enI; rw [if_neg hf]; unfold enC; rw [hkd]
  · rw [if_neg h] at hkd ⊢
    by_cases h2 : u = (homeI G lim m.id).1
    · rw [if_pos h2] at hkd ⊢
      rw [if_neg (by rw [hkd]; decide)]
      unfold enI; rw [if_neg hf]; unfold enC; rw [hkd]
    · rw [if_neg h2] at hkd ⊢; rw [if_pos hkd]
/-- An entry in memory. -/
def EnAt (w : World) (b : Nat) (a0 a1 a2 a3 a4 a5 : Value) : Prop := w.heap[b]? = some (.cells #[a0, a1, a2, a3, a4, a5] 43 (0, 0))
theorem EnAt.low {w : World} {b : Nat} {a0 a1 a2 a3 a4 a5 : Value} (h : EnAt w b a0 a1 a2 a3 a4 a5) : b < w.heap.size := (Array.getElem?_eq_some_iff.1 h).1
theorem EnAt.kept {w w' : World} {b : Nat} {a0 a1 a2 a3 a4 a5 : Value} (h : EnAt w b a0 a1 a2 a3 a4 a5) (k : w'.heap[b]? = w.heap[b]?) : EnAt w' b a0 a1 a2 a3 a4 a5 := k.trans h
theorem EnAt.cells {V : World} {b : Nat} {a0 a1 a2 a3 a4 a5 : Value} (h : EnAt V b a0 a1 a2 a3 a4 a5) : V.cell? ⟨b, 0, none⟩ = some a0 ∧ V.cell? ⟨b, 1, none⟩ = some a1 ∧ V.cell? ⟨b, 2, none⟩ = some a2 ∧ V.cell? ⟨b, 3, none⟩ = some a3 ∧ V.cell? ⟨b, 4, none⟩ = some a4 ∧ V.cell? ⟨b, 5, none⟩ = some a5 ∧ V.frozen? ⟨b, 0, none⟩ = false ∧ V.frozen? ⟨b, 1, none⟩ = false ∧ V.frozen? ⟨b, 2, none⟩ = false ∧ V.frozen? ⟨b, 3, none⟩ = false ∧ V.frozen? ⟨b, 4, none⟩ = false ∧ V.frozen? ⟨b, 5, none⟩ = false :=
  ⟨by rw [cell_of_row V _ 0 _ _ (0, 0) h]; rfl, by rw [cell_of_row V _ 1 _ _ (0, 0) h]; rfl, by rw [cell_of_row V _ 2 _ _ (0, 0) h]; rfl, by rw [cell_of_row V _ 3 _ _ (0, 0) h]; rfl, by rw [cell_of_row V _ 4 _ _ (0, 0) h]; rfl, by rw [cell_of_row V _ 5 _ _ (0, 0) h]; rfl, frozen_of_row V b 0 _ _ h, frozen_of_row V b 1 _ _ h, frozen_of_row V b 2 _ _ h, frozen_of_row V b 3 _ _ h, frozen_of_row V b 4 _ _ h, frozen_of_row V b 5 _ _ h⟩
set_option maxHeartbeats 32000000 in
theorem rbEntry_any (u : Int) (i max dg dc : Nat) (G : Gr) (na : Option Addr) (nc : Nat) (la : Option Addr) (lc : Nat) (w : World) (hin : GrIn w G na la) (hz : checkG G = 0) (hl : qn max ≤ 4294967296) (hu : upB G.nodes u = true) (hi : i < G.nodes.length) (hup : G.nodes[i].up = true) (hd : ∀ V, Below w.heap.size w V → ∀ j, j < G.nodes.length → V.cell? ⟨dg, j, none⟩ = some (.float .f64 (dw (g_ (dst G (qn max) i) j)))) :
    Calls Tryz.prog 41 #[.agg #[.slice na G.nodes.length nc, .slice la G.links.length lc], .int .i64 u, .int .i64 (idf G.nodes i : Int), .slice (some ⟨dg, 0, none⟩) G.nodes.length dc] w fun e w' => e = .returned (.agg (enV G (qn max) u G.nodes[i]).toArray) ∧ Below w.heap.size w w' := by
  have hst := g_storeL
  have n3 := (check_zero.1 hz).2.2.1
  obtain ⟨x, hx⟩ : ∃ x, x = (idf G.nodes i : Int) := ⟨_, rfl⟩
  have hmx : G.nodes[i].id = x := by rw [hx]; exact (idf_is n3 hi).1
  have hai : Nq.ahead G.nodes x = i := by rw [hx]; exact (aheadOf n3 hi).2
  obtain ⟨W1, hW1⟩ : ∃ W1, W1 = w.alloc (.cells #[.slice na G.nodes.length nc, .slice la G.links.length lc] 25) := ⟨_, rfl⟩
  have b1 : Below w.heap.size w W1 := by rw [hW1]; exact gAl _ _
  have s1 : w.heap.size < W1.heap.size := by rw [hW1]; simp
  have r1 : W1.heap[w.heap.size]? = some (.cells #[.slice na G.nodes.length nc, .slice la G.links.length lc] 25 (0, 0)) := by rw [hW1]; exact heap_alloc_new w _
  obtain ⟨gb, hgb⟩ : ∃ gb, gb = w.heap.size := ⟨_, rfl⟩
  rw [← hgb] at r1 s1
  have HKG : Hid (∀ V, Below W1.heap.size W1 V → V.cell? ⟨gb, 0, none⟩ = some (.slice na G.nodes.length nc) ∧ V.cell? ⟨gb, 1, none⟩ = some (.slice la G.links.length lc)) := Lib.hid (fun V hV => by
    have := two_cells ((hV.block _ s1).trans r1)
    exact ⟨this.1, this.2.1⟩)
  have HB1 := Lib.hid b1
  have HIN : Hid (∀ V, Below W1.heap.size W1 V → GrIn V G na la) := Lib.hid (fun V hV => (hin.below b1).below hV)
  obtain ⟨s, s1, s2, s3, -⟩ := up_id hz hu
  have HPU := Lib.hid (fun V (hV : Below W1.heap.size W1 V) => rPlace_any G.nodes na nc la G.links.length lc u V (HIN.out V hV).nodes n3 (by have := (check_zero.1 hz).1; omega))
  have hps : placeV G.nodes u = (s : Int) := placeV_hit n3 s1 ((idf_is n3 s1).1.trans s3)
  rw [hps] at HPU
  have HDX : Hid (∀ V, Below W1.heap.size W1 V → ∀ V2, Below V.heap.size V V2 → ∀ j, j < G.nodes.length → V2.cell? ⟨dg, j, none⟩ = some (.float .f64 (dw (g_ (dst G (qn max) (Nq.ahead G.nodes x)) j)))) := Lib.hid (fun V hV V2 hV2 => by rw [hai]; exact hd V2 (gNx HB1.out (gNx hV hV2)))
  have HMK := Lib.hid (fun V (hV : Below W1.heap.size W1 V) => rbMark_any i G na nc la lc V (HIN.out V hV) hz hi)
  have HNR := Lib.hid (fun V (hV : Below W1.heap.size W1 V) => rbNear_any u x max dg dc G na nc la lc V (HIN.out V hV) hz hl hu (HDX.out V hV))
  have HNT := Lib.hid (fun n hn V (hV : Below W1.heap.size W1 V) => rbNext_any u x n max dg dc G na nc la lc V (HIN.out V hV) hz hl hu hn (HDX.out V hV))
  have HHO := Lib.hid (fun V (hV : Below W1.heap.size W1 V) => rbHome_any x max dg dc G na nc la lc V (HIN.out V hV) hz hl (HDX.out V hV))
  have HZM := Lib.hid (fun (hk : (G.nodes[i]'hi).mark = true) => enV_mark (G := G) (lim := qn max) (u := u) (m := G.nodes[i]'hi) hk)
  have HZH := Lib.hid (fun (hk : (G.nodes[i]'hi).mark = false) => enV_home (G := G) (lim := qn max) (u := u) (m := G.nodes[i]'hi) hk)
  rw [hup, Bool.true_and] at HMK
  rw [hmx] at HZM HZH
  have hsm : Sm (dI G (qn max) u x) := dI_sm hz hin.wts hl _ _
  have hsm2 : Sm (homeI G (qn max) x).2 := by
    rcases home_is (g := G) (qn max) x with ⟨-, e⟩ | ⟨m, -, -, -, -, e, -⟩
    · rw [e]; trivial
    · rw [e]; exact dI_sm hz hin.wts hl _ _
  have HUD : Hid (u = (homeI G (qn max) x).1 → (homeI G (qn max) x).2 = dI G (qn max) u x ∧ (dI G (qn max) u x).isSome = true) := Lib.hid (fun e => by
    rcases home_is (g := G) (qn max) x with ⟨h1, -⟩ | ⟨m, -, -, -, m4, m5, m6⟩
    · have := (idf_is n3 s1).2; omega
    · rw [e, m4]; exact ⟨m5, m6⟩)
  have hdc : ∀ V, Below W1.heap.size W1 V → V.cell? ⟨dg, s, none⟩ = some (.float .f64 (dw (dI G (qn max) u x))) := fun V hV => by
    unfold dI; rw [s2]; exact HDX.out W1 (Below.refl _ _) V hV s s1
  have HDC := Lib.hid hdc
  have HNXI : Hid (dI G (qn max) u x = none → nextI G (qn max) u x = 0) := Lib.hid (fun e => by unfold nextI; rw [e])
  generalize hZ : enV G (qn max) u G.nodes[i] = Z at *
  generalize hmk : G.nodes[i].mark = mk at *
  generalize hnv : nearI G (qn max) u x = nv at *
  obtain ⟨hh, hhh⟩ : ∃ hh, hh = (homeI G (qn max) x).1 := ⟨_, rfl⟩
  obtain ⟨rr, hrr⟩ : ∃ rr, rr = (homeI G (qn max) x).2 := ⟨_, rfl⟩
  rw [← hhh, ← hrr] at HHO HZH HUD
  rw [← hrr] at hsm2
  obtain ⟨D, hD⟩ : ∃ D, D = dI G (qn max) u x := ⟨_, rfl⟩
  rw [← hD] at HZM HZH hsm HUD HDC HNXI
  have HNT2 := Lib.hid (fun n (hn : D = some n) => HNT.out n (hD.symm.trans hn))
  obtain ⟨bl, hbl⟩ : ∃ bl, bl = ltO D rr := ⟨_, rfl⟩
  have hlt := dw_lt hsm hsm2
  rw [← hbl] at hlt HZH
  have HFR := Lib.hid (fun W => rbFar_any D hsm W)
  have HEQ0 : Hid (u = hh → (FloatKind.f64.format.order (dw D) (dw rr) == some .eq) = true) := Lib.hid (fun e => by rw [(HUD.out e).1, dw_eq hsm hsm]; cases D <;> simp [eqO])
  have HUN : Hid (D = none → ¬ u = hh) := Lib.hid (fun e h => by have := (HUD.out h).2; rw [e] at this; cases this)
  obtain ⟨nx, hnx⟩ : ∃ nx, nx = nextI G (qn max) u x := ⟨_, rfl⟩
  rw [← hnx] at HZM HZH HNXI HNT2
  obtain ⟨d1, hd1⟩ : ∃ d1, d1 = dw D := ⟨_, rfl⟩
  obtain ⟨dr, hdr⟩ : ∃ dr, dr = dw rr := ⟨_, rfl⟩
  rw [← hd1] at HZM HZH HDC HFR hlt HEQ0
  rw [← hdr] at HZH HHO hlt HEQ0
  have hsi : (s : Int) < (G.nodes.length : Int) := by omega
  have hs0' : (0 : Int) ≤ (s : Int) := by omega
  rw [← hx] at HMK ⊢
  have HWS : Hid (W1 = w.alloc (.cells #[.slice na G.nodes.length nc, .slice la G.links.length lc] 25) ∧ w.heap.size = gb) := Lib.hid ⟨hW1, hgb.symm⟩
  obtain ⟨W2, hW2⟩ : ∃ W2, W2 = W1.alloc (.cells #[.int .i64 0, .int .i64 0, .float .f64 0, .int .i64 0, .float .f64 0, .int .i64 0] 43) := ⟨_, rfl⟩
  have hb2 : Below W1.heap.size W1 W2 := by rw [hW2]; exact gAl _ _
  obtain ⟨rc, hrc⟩ : ∃ rc, rc = W1.heap.size := ⟨_, rfl⟩
  have HERW2 : Hid (EnAt W2 rc (.int .i64 0) (.int .i64 0) (.float .f64 0) (.int .i64 0) (.float .f64 0) (.int .i64 0)) := Lib.hid (by rw [hrc, hW2]; exact heap_alloc_new W1 _)
  have HXW2 := Lib.hid hb2
  have HRW : Hid (W1.heap.size = rc ∧ W1.heap.size = w.heap.size + 1 ∧ W2 = W1.alloc (.cells #[.int .i64 0, .int .i64 0, .float .f64 0, .int .i64 0, .float .f64 0, .int .i64 0] 43)) := Lib.hid ⟨hrc.symm, by rw [hW1]; simp, hW2⟩
  have HRCW : Hid (w.heap.size ≤ rc) := Lib.hid (by have := HB1.out.size; omega)
  obtain ⟨g0, g1⟩ := HKG.out W2 hb2
  clear hin hz hl hu hi hup hd b1 r1 s1 n3 hai hmx hps hsm hsm2 hdc hZ hmk hnv hhh hrr hD hbl hnx hd1 hdr hW1 hgb hW2 hb2 hrc s2 s3 hx
  go_enter Tryz.func41, Tryz.ntmps41
  go_upto_region 1 with (fail)
  rw [← HWS.out.1, ← HRW.out.2.2, ← HRW.out.2.1, HRW.out.1, HWS.out.2]
  go_wp2_with fail
  refine (HPU.out W2 HXW2.out).mono ?_
  rintro e W3 ⟨rfl, hb3⟩
  have HXW3 := Lib.hid (gNx HXW2.out hb3)
  have HERW3 := Lib.hid (HERW2.out.kept (hb3.block rc HERW2.out.low))
  have hds := HDC.out W3 HXW3.out
  clear hb3 g0 g1
  go_wp2_with fail
  obtain ⟨W4, hW4⟩ : ∃ W4, W4 = W3.alloc (.cells #[.int .i64 x, .int .i64 0, .float .f64 d1, .int .i64 0, .float .f64 0, .int .i64 0] 43) := ⟨_, rfl⟩
  rw [← hW4]
  have hb4 : Below W3.heap.size W3 W4 := by rw [hW4]; exact gAl _ _
  obtain ⟨ob, hob⟩ : ∃ ob, ob = W3.heap.size := ⟨_, rfl⟩
  rw [← hob]
  have HEOW4 : Hid (EnAt W4 ob (.int .i64 x) (.int .i64 0) (.float .f64 d1) (.int .i64 0) (.float .f64 0) (.int .i64 0)) := Lib.hid (by rw [hob, hW4]; exact heap_alloc_new W3 _)
  have HERW4 := Lib.hid (HERW3.out.kept (hb4.block rc HERW3.out.low))
  have HXW4 := Lib.hid (gNx HXW3.out hb4)
  have HNE : Hid (w.heap.size ≤ rc ∧ ob ≠ rc ∧ W1.heap.size ≤ ob) := Lib.hid ⟨HRCW.out, by have := HERW3.out.low; omega, by have := HXW3.out.size; omega⟩
  clear hW4 hb4 hob hds
  refine (HFR.out _).mono ?_
  rintro e w' ⟨rfl, rfl⟩
  cases D with
  | none =>
    have hnx0 := HNXI.out rfl
    subst hnx0
    simp only [Option.isNone_none] at HFR ⊢
    obtain ⟨g0, g1⟩ := HKG.out W4 HXW4.out
    go_wp2_with fail
    refine (HMK.out W4 HXW4.out).mono ?_
    rintro e Wm ⟨rfl, hbm⟩
    have HXWm := Lib.hid (gNx HXW4.out hbm)
    have HEOWm := Lib.hid (HEOW4.out.kept (hbm.block ob (HEOW4.out.low)))
    have HERWm := Lib.hid (HERW4.out.kept (hbm.block rc (HERW4.out.low)))
    clear hbm g0 g1
    cases mk with
    | true =>
      have HZ := Lib.hid (HZM.out rfl)
      clear HZM HZH
      obtain ⟨g0, g1⟩ := HKG.out Wm HXWm.out
      go_wp2_with fail
      refine (HFR.out _).mono ?_
      rintro e w' ⟨rfl, rfl⟩
      go_wp2_with fail
      refine (HNR.out Wm HXWm.out).mono ?_
      rintro e Wn ⟨rfl, hbn⟩
      have HXWn := Lib.hid (gNx HXWm.out hbn)
      have HEOWn := Lib.hid (HEOWm.out.kept (hbn.block ob (HEOWm.out.low)))
      have HERWn := Lib.hid (HERWm.out.kept (hbn.block rc (HERWm.out.low)))
      clear hbn g0 g1
      cases nv with
      | true =>
        have HZF : Hid (Z = [.int .i64 x, .int .i64 1, .float .f64 d1, .int .i64 0, .float .f64 0, .int .i64 0]) := Lib.hid (by rw [HZ.out]; simp)
        obtain ⟨p0, p1, p2, p3, p4, p5, e0, ek1, e2, e3, e4, e5⟩ := HEOWn.out.cells
        go_upto_region 9 with (fail)
        obtain ⟨Wk, hWWk⟩ : ∃ Wk, Wk = Wn.setCell ⟨ob, 1, none⟩ (.int .i64 1) := ⟨_, rfl⟩
        rw [← hWWk]
        have HEOWk : Hid (EnAt Wk ob (.int .i64 x) (.int .i64 1) (.float .f64 d1) (.int .i64 0) (.float .f64 0) (.int .i64 0)) := Lib.hid (by rw [hWWk]; exact heap_setCell_same Wn ob 1 _ _ (.int .i64 1) HEOWn.out)
        have HERWk : Hid (EnAt Wk rc (.int .i64 0) (.int .i64 0) (.float .f64 0) (.int .i64 0) (.float .f64 0) (.int .i64 0)) := Lib.hid (by rw [hWWk]; unfold EnAt; rw [Below.heap_setCell _ _ _ _ (fun e => HNE.out.2.1 e.symm)]; exact HERWn.out)
        have HXWk : Hid (Below W1.heap.size W1 Wk) := Lib.hid (by rw [hWWk]; exact HXWn.out.setCell HNE.out.2.2 _)
        clear hWWk
        clear p0 p1 p2 p3 p4 p5 e0 ek1 e2 e3 e4 e5
        obtain ⟨o0, o1, o2, o3, o4, o5, -⟩ := HEOWk.out.cells
        obtain ⟨z0, z1, z2, z3, z4, z5, f0, f1, f2, f3, f4, f5⟩ := HERWk.out.cells
        go_wp2_with fail
        have hq0 := heap_setCell_same Wk rc 0 _ _ (.int .i64 x) HERWk.out
        have hq1 := heap_setCell_same _ rc 1 _ _ (.int .i64 1) hq0
        have hq2 := heap_setCell_same _ rc 2 _ _ (.float .f64 d1) hq1
        have hq3 := heap_setCell_same _ rc 3 _ _ (.int .i64 0) hq2
        have hq4 := heap_setCell_same _ rc 4 _ _ (.float .f64 0) hq3
        have hq5 := heap_setCell_same _ rc 5 _ _ (.int .i64 0) hq4
        refine bodyPost_ret (results_cell Tryz.results41 _ _ rc 0 [.int .i64 x, .int .i64 1, .float .f64 d1, .int .i64 0, .float .f64 0, .int .i64 0] _ rfl ?_ Tryz.underlying43 (by rfl) (by kernel_rfl)) rfl ?_
        · intro j v hj
          match j with
          | 0 => simp at hj; subst hj; rw [cell_of_row _ _ _ _ _ (0, 0) hq5]; rfl
          | 1 => simp at hj; subst hj; rw [cell_of_row _ _ _ _ _ (0, 0) hq5]; rfl
          | 2 => simp at hj; subst hj; rw [cell_of_row _ _ _ _ _ (0, 0) hq5]; rfl
          | 3 => simp at hj; subst hj; rw [cell_of_row _ _ _ _ _ (0, 0) hq5]; rfl
          | 4 => simp at hj; subst hj; rw [cell_of_row _ _ _ _ _ (0, 0) hq5]; rfl
          | 5 => simp at hj; subst hj; rw [cell_of_row _ _ _ _ _ (0, 0) hq5]; rfl
          | j + 6 => simp at hj
        · refine ⟨?_, ((((((gNx HB1.out HXWk.out).setCell HNE.out.1 _).setCell HNE.out.1 _).setCell HNE.out.1 _).setCell HNE.out.1 _).setCell HNE.out.1 _).setCell HNE.out.1 _⟩
          rw [HZF.out]
      | false =>
        have HZF : Hid (Z = [.int .i64 0, .int .i64 0, .float .f64 0, .int .i64 0, .float .f64 0, .int .i64 0]) := Lib.hid (by rw [HZ.out]; simp)
        obtain ⟨z0, z1, z2, z3, z4, z5, f0, f1, f2, f3, f4, f5⟩ := HERWn.out.cells
        go_wp2_with fail
        have hq0 := heap_setCell_same Wn rc 0 _ _ (.int .i64 0) HERWn.out
        have hq1 := heap_setCell_same _ rc 1 _ _ (.int .i64 0) hq0
        have hq2 := heap_setCell_same _ rc 2 _ _ (.float .f64 0) hq1
        have hq3 := heap_setCell_same _ rc 3 _ _ (.int .i64 0) hq2
        have hq4 := heap_setCell_same _ rc 4 _ _ (.float .f64 0) hq3
        have hq5 := heap_setCell_same _ rc 5 _ _ (.int .i64 0) hq4
        refine bodyPost_ret (results_cell Tryz.results41 _ _ rc 0 [.int .i64 0, .int .i64 0, .float .f64 0, .int .i64 0, .float .f64 0, .int .i64 0] _ rfl ?_ Tryz.underlying43 (by rfl) (by kernel_rfl)) rfl ?_
        · intro j v hj
          match j with
          | 0 => simp at hj; subst hj; rw [cell_of_row _ _ _ _ _ (0, 0) hq5]; rfl
          | 1 => simp at hj; subst hj; rw [cell_of_row _ _ _ _ _ (0, 0) hq5]; rfl
          | 2 => simp at hj; subst hj; rw [cell_of_row _ _ _ _ _ (0, 0) hq5]; rfl
          | 3 => simp at hj; subst hj; rw [cell_of_row _ _ _ _ _ (0, 0) hq5]; rfl
          | 4 => simp at hj; subst hj; rw [cell_of_row _ _ _ _ _ (0, 0) hq5]; rfl
          | 5 => simp at hj; subst hj; rw [cell_of_row _ _ _ _ _ (0, 0) hq5]; rfl
          | j + 6 => simp at hj
        · refine ⟨?_, ((((((gNx HB1.out HXWn.out).setCell HNE.out.1 _).setCell HNE.out.1 _).setCell HNE.out.1 _).setCell HNE.out.1 _).setCell HNE.out.1 _).setCell HNE.out.1 _⟩
          rw [HZF.out]

    | false =>
      have HZ := Lib.hid (HZH.out rfl)
      clear HZM HZH
      obtain ⟨g0, g1⟩ := HKG.out Wm HXWm.out
      go_wp2_with fail
      refine (HHO.out Wm HXWm.out).mono ?_
      rintro e Wh ⟨rfl, hbh⟩
      have HXWh := Lib.hid (gNx HXWm.out hbh)
      have HEOWh := Lib.hid (HEOWm.out.kept (hbh.block ob (HEOWm.out.low)))
      have HERWh := Lib.hid (HERWm.out.kept (hbh.block rc (HERWm.out.low)))
      clear hbh g0 g1
      obtain ⟨Wa, hWa⟩ : ∃ Wa, Wa = Wh.alloc (.cells #[.int .i64 x, .int .i64 hh, .float .f64 dr] 50) := ⟨_, rfl⟩
      have hba : Below Wh.heap.size Wh Wa := by rw [hWa]; exact gAl _ _
      obtain ⟨hb, hhb⟩ : ∃ hb, hb = Wh.heap.size := ⟨_, rfl⟩
      have HHB : Hid (Wa.heap[hb]? = some (.cells #[.int .i64 x, .int .i64 hh, .float .f64 dr] 50 (0, 0))) := Lib.hid (by rw [hWa, hhb]; exact heap_alloc_new Wh _)
      have HXWa := Lib.hid (gNx HXWh.out hba)
      have HEOWa := Lib.hid (HEOWh.out.kept (hba.block ob (HEOWh.out.low)))
      have HERWa := Lib.hid (HERWh.out.kept (hba.block rc (HERWh.out.low)))
      have HNH : Hid (ob ≠ hb ∧ hb ≠ ob ∧ hb < Wa.heap.size) := Lib.hid ⟨by have := HEOWh.out.low; omega, by have := HEOWh.out.low; omega, (Array.getElem?_eq_some_iff.1 HHB.out).1⟩
      have HSS : Hid (∀ V, Below Wa.heap.size Wa V → V.cell? ⟨hb, 1, none⟩ = some (.int .i64 hh) ∧ V.cell? ⟨hb, 2, none⟩ = some (.float .f64 dr)) := Lib.hid (fun V hV => by
        have e := (hV.block hb HNH.out.2.2).trans HHB.out
        exact ⟨by rw [cell_of_row V _ 1 _ _ (0, 0) e]; rfl, by rw [cell_of_row V _ 2 _ _ (0, 0) e]; rfl⟩)
      go_upto_region 11 with (fail)
      rw [← hWa, ← hhb]
      clear hWa hba hhb
      refine wp_region_held_drew (S := fun V => V.cell? ⟨hb, 1, none⟩ = some (.int .i64 hh) ∧ V.cell? ⟨hb, 2, none⟩ = some (.float .f64 dr)) (by kernel_rfl) (HSS.out _ (Below.drew (Below.refl _ _))) (fun hH => ?_)
      have hs0 := HSS.out _ (Below.drew (Below.refl _ _))
      have hbd : Below Wa.heap.size Wa Wa.drew := Below.drew (Below.refl _ _)
      have HXV0 : Hid (Below W1.heap.size W1 Wa.drew) := Lib.hid (gNx HXWa.out hbd)
      have HEOV0 := Lib.hid (HEOWa.out.kept (hbd.block ob (HEOWa.out.low)))
      have HERV0 := Lib.hid (HERWa.out.kept (hbd.block rc (HERWa.out.low)))
      clear hbd
      generalize Wa.drew = V0 at *
      obtain ⟨p0, p1, p2, p3, p4, p5, e0, ek1, e2, e3, e4, e5⟩ := HEOV0.out.cells
      have HSV0 := Lib.hid hs0
      refine tk 0 (by assumption) rfl (by kernel_rfl) (fun _ _ _ h => h) (fun V hV => by go_simp; try with_reducible rfl) ?_
      try simp only [Act.put, sqA, sqB, sqC, sqD, sqE, sqF]
      refine tk 1 (by assumption) rfl (by kernel_rfl) (fun _ _ _ h => h) (fun V hV => by obtain ⟨hx0, hx1⟩ := hV; go_simp; try with_reducible rfl) ?_
      try simp only [Act.put, sqA, sqB, sqC, sqD, sqE, sqF]
      refine tk 2 (by assumption) rfl (by kernel_rfl) (fun _ _ _ h => h) (fun V hV => by go_simp; try with_reducible rfl) ?_
      try simp only [Act.put, sqA, sqB, sqC, sqD, sqE, sqF]
      refine tk 3 (by assumption) rfl (by kernel_rfl) (fun _ _ _ h => h) (fun V hV => by obtain ⟨hx0, hx1⟩ := hV; go_simp; try with_reducible rfl) ?_
      try simp only [Act.put, sqA, sqB, sqC, sqD, sqE, sqF]
      refine tk 4 (by assumption) rfl (by kernel_rfl) (fun _ _ _ h => h) (fun V hV => by go_simp; try with_reducible rfl) ?_
      try simp only [Act.put, sqA, sqB, sqC, sqD, sqE, sqF]
      refine wpAnyH_ready (rs := [5]) (by kernel_rfl) (by simp) ?_
      refine AllReadyH.cons (o := _) rfl (fun K hK => ?_) AllReadyH.nil
      go_simp
      refine hK.out _ _ (by have h1 := HNH.out; obtain ⟨y1, y2⟩ := hs0; exact ⟨by first | exact y1 | (go_simp; done) | (simp [*]; done), by first | exact y2 | (go_simp; done) | (simp [*]; done)⟩) (fun hH => ?_)
      clear hK K
      try simp only [Act.put, sqA, sqB, sqC, sqD, sqE, sqF]
      refine tk 6 (by assumption) rfl (by kernel_rfl) (fun _ _ _ h => h) (fun V hV => by go_simp; try with_reducible rfl) ?_
      try simp only [Act.put, sqA, sqB, sqC, sqD, sqE, sqF]
      refine wpAnyH_ready (rs := [7]) (by kernel_rfl) (by simp) ?_
      refine AllReadyH.cons (o := _) rfl (fun K hK => ?_) AllReadyH.nil
      go_simp
      refine hK.out _ _ (by have h1 := HNH.out; obtain ⟨y1, y2⟩ := hs0; exact ⟨by first | exact y1 | (go_simp; done) | (simp [*]; done), by first | exact y2 | (go_simp; done) | (simp [*]; done)⟩) (fun hH => ?_)
      clear hK K
      try simp only [Act.put, sqA, sqB, sqC, sqD, sqE, sqF]
      refine wpAnyH_done (by kernel_rfl) ?_ _
      clear hs0 p0 p1 p2 p3 p4 p5 e0 ek1 e2 e3 e4 e5
      obtain ⟨V1, hWV1⟩ : ∃ V1, V1 = V0.setCell ⟨ob, 4, none⟩ (.float .f64 dr) := ⟨_, rfl⟩
      have HEOV1 : Hid (EnAt V1 ob (.int .i64 x) (.int .i64 0) (.float .f64 d1) (.int .i64 0) (.float .f64 dr) (.int .i64 0)) := Lib.hid (by rw [hWV1]; exact heap_setCell_same V0 ob 4 _ _ (.float .f64 dr) HEOV0.out)
      have HERV1 : Hid (EnAt V1 rc (.int .i64 0) (.int .i64 0) (.float .f64 0) (.int .i64 0) (.float .f64 0) (.int .i64 0)) := Lib.hid (by rw [hWV1]; unfold EnAt; rw [Below.heap_setCell _ _ _ _ (fun e => HNE.out.2.1 e.symm)]; exact HERV0.out)
      have HXV1 : Hid (Below W1.heap.size W1 V1) := Lib.hid (by rw [hWV1]; exact HXV0.out.setCell HNE.out.2.2 _)
      obtain ⟨V2, hWV2⟩ : ∃ V2, V2 = V1.setCell ⟨ob, 5, none⟩ (.int .i64 hh) := ⟨_, rfl⟩
      have HEOV2 : Hid (EnAt V2 ob (.int .i64 x) (.int .i64 0) (.float .f64 d1) (.int .i64 0) (.float .f64 dr) (.int .i64 hh)) := Lib.hid (by rw [hWV2]; exact heap_setCell_same V1 ob 5 _ _ (.int .i64 hh) HEOV1.out)
      have HERV2 : Hid (EnAt V2 rc (.int .i64 0) (.int .i64 0) (.float .f64 0) (.int .i64 0) (.float .f64 0) (.int .i64 0)) := Lib.hid (by rw [hWV2]; unfold EnAt; rw [Below.heap_setCell _ _ _ _ (fun e => HNE.out.2.1 e.symm)]; exact HERV1.out)
      have HXV2 : Hid (Below W1.heap.size W1 V2) := Lib.hid (by rw [hWV2]; exact HXV1.out.setCell HNE.out.2.2 _)
      rw [← hWV1, ← hWV2]
      have HH2 : Hid (V2.cell? ⟨hb, 1, none⟩ = some (.int .i64 hh) ∧ V2.cell? ⟨hb, 2, none⟩ = some (.float .f64 dr)) := Lib.hid (by
        have q : V2.heap[hb]? = V0.heap[hb]? := by rw [hWV2, Below.heap_setCell _ _ _ _ HNH.out.2.1, hWV1, Below.heap_setCell _ _ _ _ HNH.out.2.1]
        have h := HSV0.out
        exact ⟨(World.cell?_of_block q).trans h.1, (World.cell?_of_block q).trans h.2⟩)
      clear hWV1 hWV2
      obtain ⟨y1, y2⟩ := HH2.out
      cases bl with
      | true =>
        have HZF : Hid (Z = [.int .i64 x, .int .i64 2, .float .f64 d1, .int .i64 0, .float .f64 dr, .int .i64 hh]) := Lib.hid (by rw [HZ.out]; simp)
        obtain ⟨p0, p1, p2, p3, p4, p5, e0, ek1, e2, e3, e4, e5⟩ := HEOV2.out.cells
        go_upto_region 14 with (fail)
        obtain ⟨Wk, hWWk⟩ : ∃ Wk, Wk = V2.setCell ⟨ob, 1, none⟩ (.int .i64 2) := ⟨_, rfl⟩
        rw [← hWWk]
        have HEOWk : Hid (EnAt Wk ob (.int .i64 x) (.int .i64 2) (.float .f64 d1) (.int .i64 0) (.float .f64 dr) (.int .i64 hh)) := Lib.hid (by rw [hWWk]; exact heap_setCell_same V2 ob 1 _ _ (.int .i64 2) HEOV2.out)
        have HERWk : Hid (EnAt Wk rc (.int .i64 0) (.int .i64 0) (.float .f64 0) (.int .i64 0) (.float .f64 0) (.int .i64 0)) := Lib.hid (by rw [hWWk]; unfold EnAt; rw [Below.heap_setCell _ _ _ _ (fun e => HNE.out.2.1 e.symm)]; exact HERV2.out)
        have HXWk : Hid (Below W1.heap.size W1 Wk) := Lib.hid (by rw [hWWk]; exact HXV2.out.setCell HNE.out.2.2 _)
        clear hWWk
        clear p0 p1 p2 p3 p4 p5 e0 ek1 e2 e3 e4 e5
        obtain ⟨o0, o1, o2, o3, o4, o5, -⟩ := HEOWk.out.cells
        obtain ⟨z0, z1, z2, z3, z4, z5, f0, f1, f2, f3, f4, f5⟩ := HERWk.out.cells
        go_wp2_with fail
        have hq0 := heap_setCell_same Wk rc 0 _ _ (.int .i64 x) HERWk.out
        have hq1 := heap_setCell_same _ rc 1 _ _ (.int .i64 2) hq0
        have hq2 := heap_setCell_same _ rc 2 _ _ (.float .f64 d1) hq1
        have hq3 := heap_setCell_same _ rc 3 _ _ (.int .i64 0) hq2
        have hq4 := heap_setCell_same _ rc 4 _ _ (.float .f64 dr) hq3
        have hq5 := heap_setCell_same _ rc 5 _ _ (.int .i64 hh) hq4
        refine bodyPost_ret (results_cell Tryz.results41 _ _ rc 0 [.int .i64 x, .int .i64 2, .float .f64 d1, .int .i64 0, .float .f64 dr, .int .i64 hh] _ rfl ?_ Tryz.underlying43 (by rfl) (by kernel_rfl)) rfl ?_
        · intro j v hj
          match j with
          | 0 => simp at hj; subst hj; rw [cell_of_row _ _ _ _ _ (0, 0) hq5]; rfl
          | 1 => simp at hj; subst hj; rw [cell_of_row _ _ _ _ _ (0, 0) hq5]; rfl
          | 2 => simp at hj; subst hj; rw [cell_of_row _ _ _ _ _ (0, 0) hq5]; rfl
          | 3 => simp at hj; subst hj; rw [cell_of_row _ _ _ _ _ (0, 0) hq5]; rfl
          | 4 => simp at hj; subst hj; rw [cell_of_row _ _ _ _ _ (0, 0) hq5]; rfl
          | 5 => simp at hj; subst hj; rw [cell_of_row _ _ _ _ _ (0, 0) hq5]; rfl
          | j + 6 => simp at hj
        · refine ⟨?_, ((((((gNx HB1.out HXWk.out).setCell HNE.out.1 _).setCell HNE.out.1 _).setCell HNE.out.1 _).setCell HNE.out.1 _).setCell HNE.out.1 _).setCell HNE.out.1 _⟩
          rw [HZF.out]
      | false =>
        have HUH := Lib.hid (HUN.out (by simp))
        have HZF : Hid (Z = [.int .i64 0, .int .i64 0, .float .f64 0, .int .i64 0, .float .f64 0, .int .i64 0]) := Lib.hid (by rw [HZ.out]; simp [HUH.out])
        go_wp2_with fail
        refine (HFR.out _).mono ?_
        rintro e w' ⟨rfl, rfl⟩
        obtain ⟨z0, z1, z2, z3, z4, z5, f0, f1, f2, f3, f4, f5⟩ := HERV2.out.cells
        go_wp2_with fail
        have hq0 := heap_setCell_same V2 rc 0 _ _ (.int .i64 0) HERV2.out
        have hq1 := heap_setCell_same _ rc 1 _ _ (.int .i64 0) hq0
        have hq2 := heap_setCell_same _ rc 2 _ _ (.float .f64 0) hq1
        have hq3 := heap_setCell_same _ rc 3 _ _ (.int .i64 0) hq2
        have hq4 := heap_setCell_same _ rc 4 _ _ (.float .f64 0) hq3
        have hq5 := heap_setCell_same _ rc 5 _ _ (.int .i64 0) hq4
        refine bodyPost_ret (results_cell Tryz.results41 _ _ rc 0 [.int .i64 0, .int .i64 0, .float .f64 0, .int .i64 0, .float .f64 0, .int .i64 0] _ rfl ?_ Tryz.underlying43 (by rfl) (by kernel_rfl)) rfl ?_
        · intro j v hj
          match j with
          | 0 => simp at hj; subst hj; rw [cell_of_row _ _ _ _ _ (0, 0) hq5]; rfl
          | 1 => simp at hj; subst hj; rw [cell_of_row _ _ _ _ _ (0, 0) hq5]; rfl
          | 2 => simp at hj; subst hj; rw [cell_of_row _ _ _ _ _ (0, 0) hq5]; rfl
          | 3 => simp at hj; subst hj; rw [cell_of_row _ _ _ _ _ (0, 0) hq5]; rfl
          | 4 => simp at hj; subst hj; rw [cell_of_row _ _ _ _ _ (0, 0) hq5]; rfl
          | 5 => simp at hj; subst hj; rw [cell_of_row _ _ _ _ _ (0, 0) hq5]; rfl
          | j + 6 => simp at hj
        · refine ⟨?_, ((((((gNx HB1.out HXV2.out).setCell HNE.out.1 _).setCell HNE.out.1 _).setCell HNE.out.1 _).setCell HNE.out.1 _).setCell HNE.out.1 _).setCell HNE.out.1 _⟩
          rw [HZF.out]
  | some n =>
    have HEQ := HEQ0
    have HNT3 := Lib.hid (HNT2.out n rfl)
    simp only [Option.isNone_some] at HFR ⊢
    obtain ⟨g0, g1⟩ := HKG.out W4 HXW4.out
    go_wp2_with fail
    refine (HNT3.out W4 HXW4.out).mono ?_
    rintro e W5 ⟨rfl, hb5⟩
    have HXW5 := Lib.hid (gNx HXW4.out hb5)
    have HEOW5 := Lib.hid (HEOW4.out.kept (hb5.block ob (HEOW4.out.low)))
    have HERW5 := Lib.hid (HERW4.out.kept (hb5.block rc (HERW4.out.low)))
    clear hb5 g0 g1
    obtain ⟨p0, p1, p2, p3, p4, p5, e0, ek1, e2, e3, e4, e5⟩ := HEOW5.out.cells
    go_upto_region 5 with (fail)
    obtain ⟨W6, hWW6⟩ : ∃ W6, W6 = W5.setCell ⟨ob, 3, none⟩ (.int .i64 nx) := ⟨_, rfl⟩
    rw [← hWW6]
    have HEOW6 : Hid (EnAt W6 ob (.int .i64 x) (.int .i64 0) (.float .f64 d1) (.int .i64 nx) (.float .f64 0) (.int .i64 0)) := Lib.hid (by rw [hWW6]; exact heap_setCell_same W5 ob 3 _ _ (.int .i64 nx) HEOW5.out)
    have HERW6 : Hid (EnAt W6 rc (.int .i64 0) (.int .i64 0) (.float .f64 0) (.int .i64 0) (.float .f64 0) (.int .i64 0)) := Lib.hid (by rw [hWW6]; unfold EnAt; rw [Below.heap_setCell _ _ _ _ (fun e => HNE.out.2.1 e.symm)]; exact HERW5.out)
    have HXW6 : Hid (Below W1.heap.size W1 W6) := Lib.hid (by rw [hWW6]; exact HXW5.out.setCell HNE.out.2.2 _)
    clear hWW6
    clear p0 p1 p2 p3 p4 p5 e0 ek1 e2 e3 e4 e5
    obtain ⟨g0, g1⟩ := HKG.out W6 HXW6.out
    go_wp2_with fail
    refine (HMK.out W6 HXW6.out).mono ?_
    rintro e Wm ⟨rfl, hbm⟩
    have HXWm := Lib.hid (gNx HXW6.out hbm)
    have HEOWm := Lib.hid (HEOW6.out.kept (hbm.block ob (HEOW6.out.low)))
    have HERWm := Lib.hid (HERW6.out.kept (hbm.block rc (HERW6.out.low)))
    clear hbm g0 g1
    cases mk with
    | true =>
      have HZ := Lib.hid (HZM.out rfl)
      clear HZM HZH
      have HZF : Hid (Z = [.int .i64 x, .int .i64 1, .float .f64 d1, .int .i64 nx, .float .f64 0, .int .i64 0]) := Lib.hid (by rw [HZ.out]; simp)
      go_upto_region 6 with (fail)
      go_wp2_with fail
      refine (HFR.out _).mono ?_
      rintro e w' ⟨rfl, rfl⟩
      obtain ⟨p0, p1, p2, p3, p4, p5, e0, ek1, e2, e3, e4, e5⟩ := HEOWm.out.cells
      go_upto_region 9 with (fail)
      obtain ⟨Wk, hWWk⟩ : ∃ Wk, Wk = Wm.setCell ⟨ob, 1, none⟩ (.int .i64 1) := ⟨_, rfl⟩
      rw [← hWWk]
      have HEOWk : Hid (EnAt Wk ob (.int .i64 x) (.int .i64 1) (.float .f64 d1) (.int .i64 nx) (.float .f64 0) (.int .i64 0)) := Lib.hid (by rw [hWWk]; exact heap_setCell_same Wm ob 1 _ _ (.int .i64 1) HEOWm.out)
      have HERWk : Hid (EnAt Wk rc (.int .i64 0) (.int .i64 0) (.float .f64 0) (.int .i64 0) (.float .f64 0) (.int .i64 0)) := Lib.hid (by rw [hWWk]; unfold EnAt; rw [Below.heap_setCell _ _ _ _ (fun e => HNE.out.2.1 e.symm)]; exact HERWm.out)
      have HXWk : Hid (Below W1.heap.size W1 Wk) := Lib.hid (by rw [hWWk]; exact HXWm.out.setCell HNE.out.2.2 _)
      clear hWWk
      clear p0 p1 p2 p3 p4 p5 e0 ek1 e2 e3 e4 e5
      obtain ⟨o0, o1, o2, o3, o4, o5, -⟩ := HEOWk.out.cells
      obtain ⟨z0, z1, z2, z3, z4, z5, f0, f1, f2, f3, f4, f5⟩ := HERWk.out.cells
      go_wp2_with fail
      have hq0 := heap_setCell_same Wk rc 0 _ _ (.int .i64 x) HERWk.out
      have hq1 := heap_setCell_same _ rc 1 _ _ (.int .i64 1) hq0
      have hq2 := heap_setCell_same _ rc 2 _ _ (.float .f64 d1) hq1
      have hq3 := heap_setCell_same _ rc 3 _ _ (.int .i64 nx) hq2
      have hq4 := heap_setCell_same _ rc 4 _ _ (.float .f64 0) hq3
      have hq5 := heap_setCell_same _ rc 5 _ _ (.int .i64 0) hq4
      refine bodyPost_ret (results_cell Tryz.results41 _ _ rc 0 [.int .i64 x, .int .i64 1, .float .f64 d1, .int .i64 nx, .float .f64 0, .int .i64 0] _ rfl ?_ Tryz.underlying43 (by rfl) (by kernel_rfl)) rfl ?_
      · intro j v hj
        match j with
        | 0 => simp at hj; subst hj; rw [cell_of_row _ _ _ _ _ (0, 0) hq5]; rfl
        | 1 => simp at hj; subst hj; rw [cell_of_row _ _ _ _ _ (0, 0) hq5]; rfl
        | 2 => simp at hj; subst hj; rw [cell_of_row _ _ _ _ _ (0, 0) hq5]; rfl
        | 3 => simp at hj; subst hj; rw [cell_of_row _ _ _ _ _ (0, 0) hq5]; rfl
        | 4 => simp at hj; subst hj; rw [cell_of_row _ _ _ _ _ (0, 0) hq5]; rfl
        | 5 => simp at hj; subst hj; rw [cell_of_row _ _ _ _ _ (0, 0) hq5]; rfl
        | j + 6 => simp at hj
      · refine ⟨?_, ((((((gNx HB1.out HXWk.out).setCell HNE.out.1 _).setCell HNE.out.1 _).setCell HNE.out.1 _).setCell HNE.out.1 _).setCell HNE.out.1 _).setCell HNE.out.1 _⟩
        rw [HZF.out]
    | false =>
      have HZ := Lib.hid (HZH.out rfl)
      clear HZM HZH
      obtain ⟨g0, g1⟩ := HKG.out Wm HXWm.out
      go_wp2_with fail
      refine (HHO.out Wm HXWm.out).mono ?_
      rintro e Wh ⟨rfl, hbh⟩
      have HXWh := Lib.hid (gNx HXWm.out hbh)
      have HEOWh := Lib.hid (HEOWm.out.kept (hbh.block ob (HEOWm.out.low)))
      have HERWh := Lib.hid (HERWm.out.kept (hbh.block rc (HERWm.out.low)))
      clear hbh g0 g1
      obtain ⟨Wa, hWa⟩ : ∃ Wa, Wa = Wh.alloc (.cells #[.int .i64 x, .int .i64 hh, .float .f64 dr] 50) := ⟨_, rfl⟩
      have hba : Below Wh.heap.size Wh Wa := by rw [hWa]; exact gAl _ _
      obtain ⟨hb, hhb⟩ : ∃ hb, hb = Wh.heap.size := ⟨_, rfl⟩
      have HHB : Hid (Wa.heap[hb]? = some (.cells #[.int .i64 x, .int .i64 hh, .float .f64 dr] 50 (0, 0))) := Lib.hid (by rw [hWa, hhb]; exact heap_alloc_new Wh _)
      have HXWa := Lib.hid (gNx HXWh.out hba)
      have HEOWa := Lib.hid (HEOWh.out.kept (hba.block ob (HEOWh.out.low)))
      have HERWa := Lib.hid (HERWh.out.kept (hba.block rc (HERWh.out.low)))
      have HNH : Hid (ob ≠ hb ∧ hb ≠ ob ∧ hb < Wa.heap.size) := Lib.hid ⟨by have := HEOWh.out.low; omega, by have := HEOWh.out.low; omega, (Array.getElem?_eq_some_iff.1 HHB.out).1⟩
      have HSS : Hid (∀ V, Below Wa.heap.size Wa V → V.cell? ⟨hb, 1, none⟩ = some (.int .i64 hh) ∧ V.cell? ⟨hb, 2, none⟩ = some (.float .f64 dr)) := Lib.hid (fun V hV => by
        have e := (hV.block hb HNH.out.2.2).trans HHB.out
        exact ⟨by rw [cell_of_row V _ 1 _ _ (0, 0) e]; rfl, by rw [cell_of_row V _ 2 _ _ (0, 0) e]; rfl⟩)
      go_upto_region 11 with (fail)
      rw [← hWa, ← hhb]
      clear hWa hba hhb
      refine wp_region_held_drew (S := fun V => V.cell? ⟨hb, 1, none⟩ = some (.int .i64 hh) ∧ V.cell? ⟨hb, 2, none⟩ = some (.float .f64 dr)) (by kernel_rfl) (HSS.out _ (Below.drew (Below.refl _ _))) (fun hH => ?_)
      have hs0 := HSS.out _ (Below.drew (Below.refl _ _))
      have hbd : Below Wa.heap.size Wa Wa.drew := Below.drew (Below.refl _ _)
      have HXV0 : Hid (Below W1.heap.size W1 Wa.drew) := Lib.hid (gNx HXWa.out hbd)
      have HEOV0 := Lib.hid (HEOWa.out.kept (hbd.block ob (HEOWa.out.low)))
      have HERV0 := Lib.hid (HERWa.out.kept (hbd.block rc (HERWa.out.low)))
      clear hbd
      generalize Wa.drew = V0 at *
      obtain ⟨p0, p1, p2, p3, p4, p5, e0, ek1, e2, e3, e4, e5⟩ := HEOV0.out.cells
      have HSV0 := Lib.hid hs0
      refine tk 0 (by assumption) rfl (by kernel_rfl) (fun _ _ _ h => h) (fun V hV => by go_simp; try with_reducible rfl) ?_
      try simp only [Act.put, sqA, sqB, sqC, sqD, sqE, sqF]
      refine tk 1 (by assumption) rfl (by kernel_rfl) (fun _ _ _ h => h) (fun V hV => by obtain ⟨hx0, hx1⟩ := hV; go_simp; try with_reducible rfl) ?_
      try simp only [Act.put, sqA, sqB, sqC, sqD, sqE, sqF]
      refine tk 2 (by assumption) rfl (by kernel_rfl) (fun _ _ _ h => h) (fun V hV => by go_simp; try with_reducible rfl) ?_
      try simp only [Act.put, sqA, sqB, sqC, sqD, sqE, sqF]
      refine tk 3 (by assumption) rfl (by kernel_rfl) (fun _ _ _ h => h) (fun V hV => by obtain ⟨hx0, hx1⟩ := hV; go_simp; try with_reducible rfl) ?_
      try simp only [Act.put, sqA, sqB, sqC, sqD, sqE, sqF]
      refine tk 4 (by assumption) rfl (by kernel_rfl) (fun _ _ _ h => h) (fun V hV => by go_simp; try with_reducible rfl) ?_
      try simp only [Act.put, sqA, sqB, sqC, sqD, sqE, sqF]
      refine wpAnyH_ready (rs := [5]) (by kernel_rfl) (by simp) ?_
      refine AllReadyH.cons (o := _) rfl (fun K hK => ?_) AllReadyH.nil
      go_simp
      refine hK.out _ _ (by have h1 := HNH.out; obtain ⟨y1, y2⟩ := hs0; exact ⟨by first | exact y1 | (go_simp; done) | (simp [*]; done), by first | exact y2 | (go_simp; done) | (simp [*]; done)⟩) (fun hH => ?_)
      clear hK K
      try simp only [Act.put, sqA, sqB, sqC, sqD, sqE, sqF]
      refine tk 6 (by assumption) rfl (by kernel_rfl) (fun _ _ _ h => h) (fun V hV => by go_simp; try with_reducible rfl) ?_
      try simp only [Act.put, sqA, sqB, sqC, sqD, sqE, sqF]
      refine wpAnyH_ready (rs := [7]) (by kernel_rfl) (by simp) ?_
      refine AllReadyH.cons (o := _) rfl (fun K hK => ?_) AllReadyH.nil
      go_simp
      refine hK.out _ _ (by have h1 := HNH.out; obtain ⟨y1, y2⟩ := hs0; exact ⟨by first | exact y1 | (go_simp; done) | (simp [*]; done), by first | exact y2 | (go_simp; done) | (simp [*]; done)⟩) (fun hH => ?_)
      clear hK K
      try simp only [Act.put, sqA, sqB, sqC, sqD, sqE, sqF]
      refine wpAnyH_done (by kernel_rfl) ?_ _
      clear hs0 p0 p1 p2 p3 p4 p5 e0 ek1 e2 e3 e4 e5
      obtain ⟨V1, hWV1⟩ : ∃ V1, V1 = V0.setCell ⟨ob, 4, none⟩ (.float .f64 dr) := ⟨_, rfl⟩
      have HEOV1 : Hid (EnAt V1 ob (.int .i64 x) (.int .i64 0) (.float .f64 d1) (.int .i64 nx) (.float .f64 dr) (.int .i64 0)) := Lib.hid (by rw [hWV1]; exact heap_setCell_same V0 ob 4 _ _ (.float .f64 dr) HEOV0.out)
      have HERV1 : Hid (EnAt V1 rc (.int .i64 0) (.int .i64 0) (.float .f64 0) (.int .i64 0) (.float .f64 0) (.int .i64 0)) := Lib.hid (by rw [hWV1]; unfold EnAt; rw [Below.heap_setCell _ _ _ _ (fun e => HNE.out.2.1 e.symm)]; exact HERV0.out)
      have HXV1 : Hid (Below W1.heap.size W1 V1) := Lib.hid (by rw [hWV1]; exact HXV0.out.setCell HNE.out.2.2 _)
      obtain ⟨V2, hWV2⟩ : ∃ V2, V2 = V1.setCell ⟨ob, 5, none⟩ (.int .i64 hh) := ⟨_, rfl⟩
      have HEOV2 : Hid (EnAt V2 ob (.int .i64 x) (.int .i64 0) (.float .f64 d1) (.int .i64 nx) (.float .f64 dr) (.int .i64 hh)) := Lib.hid (by rw [hWV2]; exact heap_setCell_same V1 ob 5 _ _ (.int .i64 hh) HEOV1.out)
      have HERV2 : Hid (EnAt V2 rc (.int .i64 0) (.int .i64 0) (.float .f64 0) (.int .i64 0) (.float .f64 0) (.int .i64 0)) := Lib.hid (by rw [hWV2]; unfold EnAt; rw [Below.heap_setCell _ _ _ _ (fun e => HNE.out.2.1 e.symm)]; exact HERV1.out)
      have HXV2 : Hid (Below W1.heap.size W1 V2) := Lib.hid (by rw [hWV2]; exact HXV1.out.setCell HNE.out.2.2 _)
      rw [← hWV1, ← hWV2]
      have HH2 : Hid (V2.cell? ⟨hb, 1, none⟩ = some (.int .i64 hh) ∧ V2.cell? ⟨hb, 2, none⟩ = some (.float .f64 dr)) := Lib.hid (by
        have q : V2.heap[hb]? = V0.heap[hb]? := by rw [hWV2, Below.heap_setCell _ _ _ _ HNH.out.2.1, hWV1, Below.heap_setCell _ _ _ _ HNH.out.2.1]
        have h := HSV0.out
        exact ⟨(World.cell?_of_block q).trans h.1, (World.cell?_of_block q).trans h.2⟩)
      clear hWV1 hWV2
      obtain ⟨y1, y2⟩ := HH2.out
      cases bl with
      | true =>
        have HZF : Hid (Z = [.int .i64 x, .int .i64 2, .float .f64 d1, .int .i64 nx, .float .f64 dr, .int .i64 hh]) := Lib.hid (by rw [HZ.out]; simp)
        obtain ⟨p0, p1, p2, p3, p4, p5, e0, ek1, e2, e3, e4, e5⟩ := HEOV2.out.cells
        go_upto_region 14 with (fail)
        obtain ⟨Wk, hWWk⟩ : ∃ Wk, Wk = V2.setCell ⟨ob, 1, none⟩ (.int .i64 2) := ⟨_, rfl⟩
        rw [← hWWk]
        have HEOWk : Hid (EnAt Wk ob (.int .i64 x) (.int .i64 2) (.float .f64 d1) (.int .i64 nx) (.float .f64 dr) (.int .i64 hh)) := Lib.hid (by rw [hWWk]; exact heap_setCell_same V2 ob 1 _ _ (.int .i64 2) HEOV2.out)
        have HERWk : Hid (EnAt Wk rc (.int .i64 0) (.int .i64 0) (.float .f64 0) (.int .i64 0) (.float .f64 0) (.int .i64 0)) := Lib.hid (by rw [hWWk]; unfold EnAt; rw [Below.heap_setCell _ _ _ _ (fun e => HNE.out.2.1 e.symm)]; exact HERV2.out)
        have HXWk : Hid (Below W1.heap.size W1 Wk) := Lib.hid (by rw [hWWk]; exact HXV2.out.setCell HNE.out.2.2 _)
        clear hWWk
        clear p0 p1 p2 p3 p4 p5 e0 ek1 e2 e3 e4 e5
        obtain ⟨o0, o1, o2, o3, o4, o5, -⟩ := HEOWk.out.cells
        obtain ⟨z0, z1, z2, z3, z4, z5, f0, f1, f2, f3, f4, f5⟩ := HERWk.out.cells
        go_wp2_with fail
        have hq0 := heap_setCell_same Wk rc 0 _ _ (.int .i64 x) HERWk.out
        have hq1 := heap_setCell_same _ rc 1 _ _ (.int .i64 2) hq0
        have hq2 := heap_setCell_same _ rc 2 _ _ (.float .f64 d1) hq1
        have hq3 := heap_setCell_same _ rc 3 _ _ (.int .i64 nx) hq2
        have hq4 := heap_setCell_same _ rc 4 _ _ (.float .f64 dr) hq3
        have hq5 := heap_setCell_same _ rc 5 _ _ (.int .i64 hh) hq4
        refine bodyPost_ret (results_cell Tryz.results41 _ _ rc 0 [.int .i64 x, .int .i64 2, .float .f64 d1, .int .i64 nx, .float .f64 dr, .int .i64 hh] _ rfl ?_ Tryz.underlying43 (by rfl) (by kernel_rfl)) rfl ?_
        · intro j v hj
          match j with
          | 0 => simp at hj; subst hj; rw [cell_of_row _ _ _ _ _ (0, 0) hq5]; rfl
          | 1 => simp at hj; subst hj; rw [cell_of_row _ _ _ _ _ (0, 0) hq5]; rfl
          | 2 => simp at hj; subst hj; rw [cell_of_row _ _ _ _ _ (0, 0) hq5]; rfl
          | 3 => simp at hj; subst hj; rw [cell_of_row _ _ _ _ _ (0, 0) hq5]; rfl
          | 4 => simp at hj; subst hj; rw [cell_of_row _ _ _ _ _ (0, 0) hq5]; rfl
          | 5 => simp at hj; subst hj; rw [cell_of_row _ _ _ _ _ (0, 0) hq5]; rfl
          | j + 6 => simp at hj
        · refine ⟨?_, ((((((gNx HB1.out HXWk.out).setCell HNE.out.1 _).setCell HNE.out.1 _).setCell HNE.out.1 _).setCell HNE.out.1 _).setCell HNE.out.1 _).setCell HNE.out.1 _⟩
          rw [HZF.out]
      | false =>
        by_cases huh : u = hh
        · have HZF : Hid (Z = [.int .i64 x, .int .i64 3, .float .f64 d1, .int .i64 nx, .float .f64 dr, .int .i64 hh]) := Lib.hid (by rw [HZ.out]; simp [huh])
          have e1 : (hh == u) = true := by simp [huh]
          have e2 := HEQ.out huh
          clear huh
          go_wp2_with fail
          refine (HFR.out _).mono ?_
          rintro e w' ⟨rfl, rfl⟩
          obtain ⟨p0, p1, p2, p3, p4, p5, e0, ek1, e2, e3, e4, e5⟩ := HEOV2.out.cells
          go_upto_region 17 with (fail)
          obtain ⟨Wk, hWWk⟩ : ∃ Wk, Wk = V2.setCell ⟨ob, 1, none⟩ (.int .i64 3) := ⟨_, rfl⟩
          rw [← hWWk]
          have HEOWk : Hid (EnAt Wk ob (.int .i64 x) (.int .i64 3) (.float .f64 d1) (.int .i64 nx) (.float .f64 dr) (.int .i64 hh)) := Lib.hid (by rw [hWWk]; exact heap_setCell_same V2 ob 1 _ _ (.int .i64 3) HEOV2.out)
          have HERWk : Hid (EnAt Wk rc (.int .i64 0) (.int .i64 0) (.float .f64 0) (.int .i64 0) (.float .f64 0) (.int .i64 0)) := Lib.hid (by rw [hWWk]; unfold EnAt; rw [Below.heap_setCell _ _ _ _ (fun e => HNE.out.2.1 e.symm)]; exact HERV2.out)
          have HXWk : Hid (Below W1.heap.size W1 Wk) := Lib.hid (by rw [hWWk]; exact HXV2.out.setCell HNE.out.2.2 _)
          clear hWWk
          clear p0 p1 p2 p3 p4 p5 e0 ek1 e2 e3 e4 e5
          obtain ⟨o0, o1, o2, o3, o4, o5, -⟩ := HEOWk.out.cells
          obtain ⟨z0, z1, z2, z3, z4, z5, f0, f1, f2, f3, f4, f5⟩ := HERWk.out.cells
          go_wp2_with fail
          have hq0 := heap_setCell_same Wk rc 0 _ _ (.int .i64 x) HERWk.out
          have hq1 := heap_setCell_same _ rc 1 _ _ (.int .i64 3) hq0
          have hq2 := heap_setCell_same _ rc 2 _ _ (.float .f64 d1) hq1
          have hq3 := heap_setCell_same _ rc 3 _ _ (.int .i64 nx) hq2
          have hq4 := heap_setCell_same _ rc 4 _ _ (.float .f64 dr) hq3
          have hq5 := heap_setCell_same _ rc 5 _ _ (.int .i64 hh) hq4
          refine bodyPost_ret (results_cell Tryz.results41 _ _ rc 0 [.int .i64 x, .int .i64 3, .float .f64 d1, .int .i64 nx, .float .f64 dr, .int .i64 hh] _ rfl ?_ Tryz.underlying43 (by rfl) (by kernel_rfl)) rfl ?_
          · intro j v hj
            match j with
            | 0 => simp at hj; subst hj; rw [cell_of_row _ _ _ _ _ (0, 0) hq5]; rfl
            | 1 => simp at hj; subst hj; rw [cell_of_row _ _ _ _ _ (0, 0) hq5]; rfl
            | 2 => simp at hj; subst hj; rw [cell_of_row _ _ _ _ _ (0, 0) hq5]; rfl
            | 3 => simp at hj; subst hj; rw [cell_of_row _ _ _ _ _ (0, 0) hq5]; rfl
            | 4 => simp at hj; subst hj; rw [cell_of_row _ _ _ _ _ (0, 0) hq5]; rfl
            | 5 => simp at hj; subst hj; rw [cell_of_row _ _ _ _ _ (0, 0) hq5]; rfl
            | j + 6 => simp at hj
          · refine ⟨?_, ((((((gNx HB1.out HXWk.out).setCell HNE.out.1 _).setCell HNE.out.1 _).setCell HNE.out.1 _).setCell HNE.out.1 _).setCell HNE.out.1 _).setCell HNE.out.1 _⟩
            rw [HZF.out]
        · have HUH := Lib.hid huh
          have e1 : (hh == u) = false := by simpa using fun e => huh e.symm
          clear huh
          have HZF : Hid (Z = [.int .i64 0, .int .i64 0, .float .f64 0, .int .i64 0, .float .f64 0, .int .i64 0]) := Lib.hid (by rw [HZ.out]; simp [HUH.out])
          go_wp2_with fail
          refine (HFR.out _).mono ?_
          rintro e w' ⟨rfl, rfl⟩
          obtain ⟨z0, z1, z2, z3, z4, z5, f0, f1, f2, f3, f4, f5⟩ := HERV2.out.cells
          go_wp2_with fail
          have hq0 := heap_setCell_same V2 rc 0 _ _ (.int .i64 0) HERV2.out
          have hq1 := heap_setCell_same _ rc 1 _ _ (.int .i64 0) hq0
          have hq2 := heap_setCell_same _ rc 2 _ _ (.float .f64 0) hq1
          have hq3 := heap_setCell_same _ rc 3 _ _ (.int .i64 0) hq2
          have hq4 := heap_setCell_same _ rc 4 _ _ (.float .f64 0) hq3
          have hq5 := heap_setCell_same _ rc 5 _ _ (.int .i64 0) hq4
          refine bodyPost_ret (results_cell Tryz.results41 _ _ rc 0 [.int .i64 0, .int .i64 0, .float .f64 0, .int .i64 0, .float .f64 0, .int .i64 0] _ rfl ?_ Tryz.underlying43 (by rfl) (by kernel_rfl)) rfl ?_
          · intro j v hj
            match j with
            | 0 => simp at hj; subst hj; rw [cell_of_row _ _ _ _ _ (0, 0) hq5]; rfl
            | 1 => simp at hj; subst hj; rw [cell_of_row _ _ _ _ _ (0, 0) hq5]; rfl
            | 2 => simp at hj; subst hj; rw [cell_of_row _ _ _ _ _ (0, 0) hq5]; rfl
            | 3 => simp at hj; subst hj; rw [cell_of_row _ _ _ _ _ (0, 0) hq5]; rfl
            | 4 => simp at hj; subst hj; rw [cell_of_row _ _ _ _ _ (0, 0) hq5]; rfl
            | 5 => simp at hj; subst hj; rw [cell_of_row _ _ _ _ _ (0, 0) hq5]; rfl
            | j + 6 => simp at hj
          · refine ⟨?_, ((((((gNx HB1.out HXV2.out).setCell HNE.out.1 _).setCell HNE.out.1 _).setCell HNE.out.1 _).setCell HNE.out.1 _).setCell HNE.out.1 _).setCell HNE.out.1 _⟩
            rw [HZF.out]
end Go.Proofs.YtjlfpjjfldbknaaGreat
end

section
namespace Go.Proofs.YtjlfpjjfldbknaaGreat
open Go.RowKit Go.Lib Go.Fq Go.Pq Go.Iq Go.Nq Go.Ow Go.Bq
set_option linter.unusedVariables false
set_option linter.unusedSimpArgs false
set_option maxRecDepth 100000

set_option maxHeartbeats 4000000 in
theorem rbUp_any (x : Int) (G : Gr) (na : Option Addr) (nc : Nat) (la : Option Addr) (lc : Nat) (w : World) (hin : GrIn w G na la) (hz : checkG G = 0) :
    Calls Tryz.prog 24 #[.agg #[.slice na G.nodes.length nc, .slice la G.links.length lc], .int .i64 x] w fun e w' => e = .returned (.bool (upB G.nodes x)) ∧ Below w.heap.size w w' := by
  have n3 := (check_zero.1 hz).2.2.1
  obtain ⟨W1, hW1⟩ : ∃ W1, W1 = w.alloc (.cells #[.slice na G.nodes.length nc, .slice la G.links.length lc] 25) := ⟨_, rfl⟩
  have b1 : Below w.heap.size w W1 := by rw [hW1]; exact gAl _ _
  have s1 : w.heap.size < W1.heap.size := by rw [hW1]; simp
  have r1 : W1.heap[w.heap.size]? = some (.cells #[.slice na G.nodes.length nc, .slice la G.links.length lc] 25 (0, 0)) := by rw [hW1]; exact heap_alloc_new w _
  obtain ⟨gb, hgb⟩ : ∃ gb, gb = w.heap.size := ⟨_, rfl⟩
  rw [← hgb] at r1 s1
  have HKG : Hid (∀ V, Below W1.heap.size W1 V → V.cell? ⟨gb, 0, none⟩ = some (.slice na G.nodes.length nc) ∧ V.cell? ⟨gb, 1, none⟩ = some (.slice la G.links.length lc)) := Lib.hid (fun V hV => by
    have := two_cells ((hV.block _ s1).trans r1)
    exact ⟨this.1, this.2.1⟩)
  have HB1 := Lib.hid b1
  have HIN : Hid (∀ V, Below W1.heap.size W1 V → GrIn V G na la) := Lib.hid (fun V hV => (hin.below b1).below hV)
  have HWS : Hid (W1 = w.alloc (.cells #[.slice na G.nodes.length nc, .slice la G.links.length lc] 25) ∧ w.heap.size = gb) := Lib.hid ⟨hW1, hgb.symm⟩
  have HP := Lib.hid (rPlace_any G.nodes na nc la G.links.length lc x W1 (hin.below b1).nodes n3 (by have := (check_zero.1 hz).1; omega))
  have hub := upB_at n3 x
  obtain ⟨g0, g1⟩ := HKG.out W1 (Below.refl _ _)
  by_cases hh : has G.nodes x = true
  · rw [dif_pos hh] at hub
    obtain ⟨hk, hid⟩ := (has_at n3 x).1 hh
    have hpl : placeV G.nodes x = (Nq.ahead G.nodes x : Int) := by unfold placeV; rw [if_pos hh]
    rw [hpl] at HP
    obtain ⟨k, hkk⟩ : ∃ k, k = Nq.ahead G.nodes x := ⟨_, rfl⟩
    have HND : Hid (∀ V, Below W1.heap.size W1 V → ∃ b o, na = some ⟨b, o, none⟩ ∧ V.cell? ⟨b, o + k * 3 + 1, none⟩ = some (.bool (upB G.nodes x))) := Lib.hid (fun V hV => by
      obtain ⟨b, o, h1, -, h2⟩ := (HIN.out V hV).nodes.at k (by rw [hkk]; exact hk)
      obtain ⟨-, h3, -⟩ := h2 k (by rw [hkk]; exact hk)
      refine ⟨b, o, h1, ?_⟩
      subst hkk
      rw [h3, hub])
    rw [← hkk] at HP
    have hki : (k : Int) < (G.nodes.length : Int) := by rw [hkk]; omega
    have hk0 : (0 : Int) ≤ (k : Int) := by omega
    have hk1 : ¬ ((k : Int) < 0) := by omega
    generalize upB G.nodes x = ub at *
    clear hin b1 s1 r1 n3 hz hub hh hk hid hpl hkk hW1 hgb
    go_enter Tryz.func24, Tryz.ntmps24
    go_upto_region 1 with (fail)
    rw [← HWS.out.1, HWS.out.2]
    go_wp2_with fail
    refine HP.out.mono ?_
    rintro e w2 ⟨rfl, hb2⟩
    have HB2 := Lib.hid (gNx HB1.out hb2)
    clear g0 g1
    obtain ⟨g0, g1⟩ := HKG.out w2 hb2
    obtain ⟨b, o, rfl, hc⟩ := HND.out w2 hb2
    clear hb2
    go_wp2_with fail
    go_ret
    exact ⟨rfl, HB2.out⟩
  · have hf : has G.nodes x = false := by simpa using hh
    rw [dif_neg hh] at hub
    have hpl : placeV G.nodes x = -1 := by unfold placeV; rw [hf]; rfl
    rw [hpl] at HP
    rw [hub]
    clear hin b1 s1 r1 n3 hz hub hh hf hpl hW1 hgb
    go_enter Tryz.func24, Tryz.ntmps24
    go_upto_region 1 with (fail)
    rw [← HWS.out.1, HWS.out.2]
    go_wp2_with fail
    refine HP.out.mono ?_
    rintro e w2 ⟨rfl, hb2⟩
    have HB2 := Lib.hid (gNx HB1.out hb2)
    clear g0 g1 hb2
    go_wp2_with fail
    go_ret
    exact ⟨rfl, HB2.out⟩
end Go.Proofs.YtjlfpjjfldbknaaGreat
end

section
namespace Go.Proofs.YtjlfpjjfldbknaaGreat
open Go.RowKit Go.Lib Go.Fq Go.Pq Go.Iq Go.Nq Go.Ow Go.Bq
set_option linter.unusedVariables false
set_option linter.unusedSimpArgs false
set_option maxRecDepth 100000

noncomputable def knE (G : Gr) (max : Nat) (u v : Int) : Int := if ballE G max ≠ 0 then ballE G max else if (upB G.nodes u && upB G.nodes v) = true then 0 else 4
noncomputable def knB (G : Gr) (max : Nat) (u v : Int) : Bool := if ballE G max ≠ 0 then false else if (upB G.nodes u && upB G.nodes v) = true then knI G (qn max) u (G.nodes.getD (Nq.ahead G.nodes v) ⟨0, false, false⟩) else false
/-- What Knows tells is one thing. -/
theorem KnEnds.is {w w' : World} {G : Gr} {max : Nat} {u v : Int} {e : Ending} (h : KnEnds w G max u v e w') : Below w.heap.size w w' ∧ e = .returned (.tuple #[.bool (knB G max u v), .int .i64 (knE G max u v)]) := by
  obtain ⟨hb, ⟨h1, rfl⟩ | ⟨h1, h2, rfl⟩ | ⟨h1, h2, m, m1, m2, m3, rfl⟩⟩ := h
  · refine ⟨hb, ?_⟩
    unfold knB knE
    rw [if_pos h1, if_pos h1]
  · refine ⟨hb, ?_⟩
    unfold knB knE
    have hn : ¬ (ballE G max ≠ 0) := fun h => h h1
    rw [if_neg hn, if_neg hn, h2]; rfl
  · refine ⟨hb, ?_⟩
    have hv : upB G.nodes v = true := by rw [← m3]; exact mem_up m1 m2
    have n3 := (check_zero.1 (ballE_zero.1 h1).1).2.2.1
    have hm : G.nodes.getD (Nq.ahead G.nodes v) ⟨0, false, false⟩ = m := by
      obtain ⟨j, hj, rfl⟩ := List.getElem_of_mem m1
      have e := (idf_is n3 hj).1
      have e2 : Nq.ahead G.nodes v = j := by rw [← m3, e]; exact (aheadOf n3 hj).2
      rw [e2, List.getD_eq_getElem?_getD, List.getElem?_eq_getElem hj]; rfl
    unfold knB knE
    have hn : ¬ (ballE G max ≠ 0) := fun h => h h1
    rw [if_neg hn, if_neg hn, h2, hv, hm]; rfl
end Go.Proofs.YtjlfpjjfldbknaaGreat
end
