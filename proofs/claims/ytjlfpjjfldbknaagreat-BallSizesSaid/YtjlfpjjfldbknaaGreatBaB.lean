/- Balls: a sight's next and isNextToOneNear. -/
import Derived.Test.YtjlfpjjfldbknaaGreatBaA
namespace Go.Proofs.YtjlfpjjfldbknaaGreat
open Go.RowKit Go.Lib Go.Fq Go.Pq Go.Iq Go.Nq Go.Ow Go.Bq
set_option linter.unusedVariables false
set_option linter.unusedSimpArgs false
set_option maxRecDepth 100000

theorem qw_eqB2 {n m : Nat} (hn : n < 2 ^ 53) (hm : m < 2 ^ 53) : (FloatKind.f64.format.order (qw n) (qw m) == some .eq) = decide (n = m) := by
  rw [od_num (qw_nan hn) (qw_nan hm), Bool.eq_iff_iff, beq_iff_eq, Option.some.injEq, Int.compare_eq_eq, decide_eq_true_eq]
  exact ⟨ik_inj_qw hn hm, fun h => by rw [h]⟩
theorem sum_is2 (A : Option Nat) (q n : Nat) (hA : Sm A) (hq0 : 0 < q) (hq : q ≤ 4294967296) (hn : n ≤ 4294967296) : ∃ S, Ieee.double.add (qw q) (dw A) = some S ∧ (FloatKind.f64.format.order S (qw n) == some .eq) = sumIs A q n := by
  cases A with
  | none =>
    refine ⟨INF, some_far q hq, ?_⟩
    have := dw_eq (a := none) (b := some n) trivial hn
    exact this
  | some m =>
    unfold Sm at hA
    simp only at hA
    refine ⟨qw (q + m), add_qw q m (by omega) (by omega), ?_⟩
    unfold sumIs
    simp only
    rw [qw_eqB2 (by omega) (by omega), Nat.add_comm]
theorem Sg.hop {w : World} {sb db B0 : Nat} {H : Gr} {max : Nat} {na : Option Addr} {nc : Nat} {la : Option Addr} {lc : Nat} {hv : Value} (h : Sg w sb db B0 H max na nc la lc hv) {at_ : Nat} (hat : at_ < H.nodes.length) : ∃ rb c a c2, hv = .slice (some ⟨rb, 0, none⟩) H.nodes.length c ∧ w.cell? ⟨rb, at_, none⟩ = some (.slice a (rds H.nodes (liveG H).links at_).length c2) ∧ HpIn w db (rds H.nodes (liveG H).links at_) a := by
  obtain ⟨rb, c, cs, h1, h2, h3⟩ := h.hops
  rw [netL_len] at h1
  obtain ⟨a, c2, h4, h5⟩ := h3 at_ (by rw [netL_len]; exact hat)
  have e : (netL H.nodes (liveG H).links)[at_]'(by rw [netL_len]; exact hat) = rds H.nodes (liveG H).links at_ := by
    have := netL_at (liveG H).links hat
    rw [← this, List.getD_eq_getElem?_getD, List.getElem?_eq_getElem (by rw [netL_len]; exact hat)]; rfl
  rw [e] at h4 h5
  exact ⟨rb, c, a, c2, h1, h4, h5⟩
theorem rd_bound {H : Gr} {max : Nat} (h : BG H max) {s : Nat} {r : Rd} (hr : r ∈ rds H.nodes (liveG H).links s) : r.1 < H.nodes.length ∧ 0 < r.2 ∧ r.2 ≤ 4294967296 := by
  obtain ⟨b1, b2, b3, b4, -⟩ := road_bd h.hz h.hw (show Pq.Road H s r.1 r.2 from hr)
  omega
theorem deg_small {H : Gr} {max : Nat} (h : BG H max) (s : Nat) (hs : s < H.nodes.length) : (rds H.nodes (liveG H).links s).length ≤ 8192 := by
  have := deg_one H.nodes (liveG H).links s
  rw [netL_at _ hs] at this
  have h2 : (liveG H).links.length ≤ H.links.length := List.length_filter_le _ _
  have := (check_zero.1 h.hz).2.1
  omega
theorem bx_next {a b c : World} {db : Nat} (h : BelowX a.heap.size db a b) (k : BelowX b.heap.size db b c) : BelowX a.heap.size db a c :=
  h.trans ⟨k.os, k.tape, k.output, k.size, fun j hj hx => k.block j (Nat.lt_of_lt_of_le hj h.size) hx⟩
theorem bx_below {a b c : World} {db : Nat} (h : BelowX a.heap.size db a b) (k : Below b.heap.size b c) : BelowX a.heap.size db a c := bx_next h (BelowX.of_below k)
def HbS (V : World) (ll tt q : Nat) : Prop := V.cell? ⟨ll, 0, none⟩ = some (.int .i64 (tt : Int)) ∧ V.cell? ⟨ll, 1, none⟩ = some (.float .f64 (qw q))
set_option maxHeartbeats 16000000 in
theorem bNext_any (at_ to_ : Nat) (w : World) (sb db B0 : Nat) (H : Gr) (max : Nat) (na : Option Addr) (nc : Nat) (la : Option Addr) (lc : Nat) (hv : Value) (h : Sg w sb db B0 H max na nc la lc hv) (hat : at_ < H.nodes.length) (hto : to_ < H.nodes.length) :
    Calls Tryz.prog 53 #[.pointer (some ⟨sb, 0, none⟩), .int .i64 (at_ : Int), .int .i64 (to_ : Int)] w fun e w' => e = .returned (.int .i64 (nextI H (qn max) (idf H.nodes at_ : Int) (idf H.nodes to_ : Int))) ∧ Sg w' sb db B0 H max na nc la lc hv ∧ BelowX w.heap.size db w w' := by
  have hst := g_storeL
  have HSG := Lib.hid h
  have HD := Lib.hid (deg_small h.bg at_ hat)
  have HRB := Lib.hid (fun r hr => rd_bound h.bg (s := at_) (r := r) hr)
  have HBS := Lib.hid h.bg.small
  have HNL : Hid (H.nodes.length ≤ 256) := Lib.hid (check_zero.1 h.bg.hz).1
  have HTO := Lib.hid hto
  have HAT := Lib.hid hat
  have HID : Hid (∀ k (hk : k < H.nodes.length), H.nodes[k].id = (idf H.nodes k : Int)) := Lib.hid (fun k hk => h.bg.id hk)
  have HSM : Hid (∀ u, Sm (g_ (dst H (qn max) to_) u)) := Lib.hid (fun u => dst_sm h.bg.hz h.bg.hw h.bg.small.2.1 to_ u)
  have HNX := Lib.hid (next_rds h.bg.hz (qn max) hat hto)
  have HD0 := Lib.hid (bDist_any at_ to_ w sb db B0 H max na nc la lc hv h hat hto)
  generalize nextI H (qn max) (idf H.nodes at_ : Int) (idf H.nodes to_ : Int) = Z at *
  clear h hat hto
  cases hq : g_ (dst H (qn max) to_) at_ with
  | none =>
    rw [hq] at HNX HD0
    have hz := HNX.out
    simp only at hz
    subst hz
    have HIF := Lib.hid (fun W => bFar_any none trivial W)
    clear hq
    generalize dw none = d at *
    go_enter Tryz.func53, Tryz.ntmps53
    go_wp2_with fail
    refine HD0.out.mono ?_
    rintro e w2 ⟨rfl, hsg, hbx⟩
    have HS2 := Lib.hid hsg
    have HX2 := Lib.hid hbx
    clear hsg hbx
    go_wp2_with fail
    refine (HIF.out _).mono ?_
    rintro e w' ⟨rfl, rfl⟩
    go_wp2_with fail
    go_ret
    exact ⟨rfl, HS2.out, HX2.out⟩
  | some n =>
    rw [hq] at HNX HD0
    have hz := HNX.out
    simp only at hz
    have HZ := Lib.hid hz
    clear hz
    have hn : n ≤ 4294967296 := by have := HSM.out at_; rw [hq] at this; exact this
    have HN := Lib.hid hn
    have HIF := Lib.hid (fun W => bFar_any (some n) hn W)
    clear hq hn
    obtain ⟨d, hd⟩ : ∃ d, d = dw (some n) := ⟨_, rfl⟩
    have HDD : Hid (d = qw n) := Lib.hid hd
    rw [← hd] at HD0 HIF
    clear hd HNX
    go_enter Tryz.func53, Tryz.ntmps53
    go_wp2_with fail
    refine HD0.out.mono ?_
    rintro e w2 ⟨rfl, hsg, hbx⟩
    have HS2 := Lib.hid hsg
    have HX2 := Lib.hid hbx
    obtain ⟨rb, c, a, c2, hhv, hrc, hhp⟩ := hsg.hop HAT.out
    obtain ⟨c0, c1, c2', c3, c4⟩ := hsg.five
    have HHP : Hid (∀ V, BelowX w2.heap.size db w2 V → HpIn V db (rds H.nodes (liveG H).links at_) a) := Lib.hid (fun V hV => hhp.kept hV)
    subst hhv
    have hati : (at_ : Int) < (H.nodes.length : Int) := by have := HAT.out; omega
    have hat0 : (0 : Int) ≤ (at_ : Int) := by omega
    clear hsg hbx hhp HD0
    obtain ⟨R, hR⟩ : ∃ R, R = rds H.nodes (liveG H).links at_ := ⟨_, rfl⟩
    rw [← hR] at HD HRB HZ hrc HHP
    clear hR
    go_wp2_with (go_at_call 51; refine (HIF.out _).mono ?_; rintro e w' ⟨rfl, rfl⟩)
    clear c0 c1 c2' c3 c4 hrc hati hat0 HIF
    go_loopw [24] (fun i wr => ∃ k : Nat, i = .int .i64 (k : Int) ∧ k ≤ R.length ∧ Z = nxR H (dst H (qn max) to_) n (R.drop k) ∧ Sg wr sb db B0 H max na nc la lc (.slice (some ⟨rb, 0, none⟩) H.nodes.length c) ∧ BelowX w2.heap.size db w2 wr) (fun i _ => R.length - (RowKit.intOf i).toNat)
    case atStart => exact ⟨0, rfl, Nat.zero_le _, HZ.out, HS2.out, BelowX.refl _ _ _⟩
    case round =>
      obtain ⟨k, rfl, hk, hzk, hsg, hbx⟩ := hrel
      have HZK := Lib.hid hzk
      obtain ⟨wo, hwo⟩ : ∃ wo, wo = wr := ⟨_, rfl⟩
      subst hwo
      have HSW := Lib.hid hsg
      have HXW := Lib.hid hbx
      by_cases hlt : k < R.length
      · have hlti : (k : Int) < (R.length : Int) := by omega
        have hk0 : (0 : Int) ≤ (k : Int) := by omega
        have hkw : IntKind.i64.wrap ((k : Int) + 1) = (k : Int) + 1 := by rw [IntKind.wrap_i64]; have := HD.out; omega
        have HK1 : Hid (k + 1 ≤ R.length ∧ R.length - (k + 1) < R.length - k ∧ ((k : Int) + 1).toNat = k + 1 ∧ (k : Int) + 1 = ((k + 1 : Nat) : Int)) := Lib.hid ⟨by omega, by omega, by omega, by omega⟩
        obtain ⟨kb, kcs, hka, hkb, hkc⟩ := (HHP.out wo hbx).resolve_left (fun e => by rw [e] at hlt; simp at hlt)
        obtain ⟨k0, k1⟩ := hkc k hlt
        have HDR := Lib.hid (List.drop_eq_getElem_cons hlt)
        obtain ⟨r1, r2, r3⟩ := HRB.out _ (List.getElem_mem hlt)
        clear hsg hbx hkc
        generalize R[k] = r at *
        obtain ⟨tt, q⟩ := r
        simp only at k0 k1 r1 r2 r3
        have HQ : Hid (0 < q ∧ q ≤ 4294967296 ∧ tt < H.nodes.length) := Lib.hid ⟨r2, r3, r1⟩
        obtain ⟨W6, hW6⟩ : ∃ W6, W6 = wo.alloc (.cells #[.int .i64 (tt : Int), .float .f64 (qw q)] 80) := ⟨_, rfl⟩
        have b6 : Below wo.heap.size wo W6 := by rw [hW6]; exact gAl _ _
        have r6 : W6.heap[wo.heap.size]? = some (.cells #[.int .i64 (tt : Int), .float .f64 (qw q)] 80 (0, 0)) := by rw [hW6]; exact heap_alloc_new wo _
        have s6 : wo.heap.size < W6.heap.size := by rw [hW6]; simp
        obtain ⟨ll, hll⟩ : ∃ ll, ll = wo.heap.size := ⟨_, rfl⟩
        rw [← hll] at r6 s6
        have HSS : Hid (∀ V, BelowX W6.heap.size db W6 V → HbS V ll tt q) := Lib.hid (fun V hV => by
          have h := two_cells ((hV.block ll s6 (by have := HSW.out.dbs; omega)).trans r6)
          exact ⟨h.1, h.2.1⟩)
        have HS6 := Lib.hid (HSW.out.below b6)
        have HX6 := Lib.hid (bx_below HXW.out b6)
        subst hka
        clear b6 r6 s6 r1 r2 r3 hkb
        have HDI := Lib.hid (fun V (hV : Sg V sb db B0 H max na nc la lc (.slice (some ⟨rb, 0, none⟩) H.nodes.length c)) => bDist_any tt to_ V sb db B0 H max na nc la lc (.slice (some ⟨rb, 0, none⟩) H.nodes.length c) hV HQ.out.2.2 HTO.out)
        obtain ⟨S, hS, hS2⟩ := sum_is2 (g_ (dst H (qn max) to_) tt) q n (HSM.out tt) HQ.out.1 HQ.out.2.1 HN.out
        have HZR : Hid (Z = if sumIs (g_ (dst H (qn max) to_) tt) q n = true then (idf H.nodes tt : Int) else nxR H (dst H (qn max) to_) n (R.drop (k + 1))) := Lib.hid (by rw [HZK.out, HDR.out]; rfl)
        rw [← HDD.out] at hS2
        obtain ⟨tv, htv⟩ : ∃ tv, tv = sumIs (g_ (dst H (qn max) to_) tt) q n := ⟨_, rfl⟩
        rw [← htv] at hS2 HZR
        obtain ⟨da, hda⟩ : ∃ da, da = dw (g_ (dst H (qn max) to_) tt) := ⟨_, rfl⟩
        rw [← hda] at hS HDI
        obtain ⟨dq, hdq⟩ : ∃ dq, dq = qw q := ⟨_, rfl⟩
        have HDQ := Lib.hid hdq
        rw [← hdq] at hS k1 hW6
        have e1 := fun w => run_add_some (P := Tryz.prog) 26 dq da S hS w
        clear hS htv hda hdq hzk
        go_upto_region 7 with (fail)
        rw [← hW6, ← hll]
        clear hW6 hll k0 k1
        have HSS2 : Hid (∀ V, BelowX W6.heap.size db W6 V → V.cell? ⟨ll, 0, none⟩ = some (.int .i64 (tt : Int)) ∧ V.cell? ⟨ll, 1, none⟩ = some (.float .f64 dq)) := Lib.hid (fun V hV => by rw [HDQ.out]; exact HSS.out V hV)
        refine wp_region_held_drew (S := fun V => V.cell? ⟨ll, 0, none⟩ = some (.int .i64 (tt : Int)) ∧ V.cell? ⟨ll, 1, none⟩ = some (.float .f64 dq)) (by kernel_rfl) (HSS2.out _ (BelowX.of_below (Below.drew (Below.refl _ _)))) (fun hH => ?_)
        have hs0 := HSS2.out _ (BelowX.of_below (Below.drew (Below.refl _ _)))
        have HS7 := Lib.hid (HS6.out.below (Below.drew (Below.refl _ _)))
        have HX7 : Hid (BelowX W6.heap.size db W6 W6.drew) := Lib.hid (BelowX.of_below (Below.drew (Below.refl _ _)))
        generalize W6.drew = V0 at *
        refine tk 0 (by assumption) rfl (by kernel_rfl) (fun _ _ _ h => h) (fun V hV => by go_simp; try with_reducible rfl) ?_
        try simp only [Act.put, sqA, sqB, sqC, sqD, sqE, sqF]
        refine tk 1 (by assumption) rfl (by kernel_rfl) (fun _ _ _ h => h) (fun V hV => by obtain ⟨hx0, hx1⟩ := hV; go_simp; try with_reducible rfl) ?_
        try simp only [Act.put, sqA, sqB, sqC, sqD, sqE, sqF]
        refine tk 2 (by assumption) rfl (by kernel_rfl) (fun _ _ _ h => h) (fun V hV => by go_simp; try with_reducible rfl) ?_
        try simp only [Act.put, sqA, sqB, sqC, sqD, sqE, sqF]
        refine tk 3 (by assumption) rfl (by kernel_rfl) (fun _ _ _ h => h) (fun V hV => by go_simp; try with_reducible rfl) ?_
        try simp only [Act.put, sqA, sqB, sqC, sqD, sqE, sqF]
        refine tk 4 (by assumption) rfl (by kernel_rfl) (fun _ _ _ h => h) (fun V hV => by obtain ⟨hx0, hx1⟩ := hV; go_simp; try with_reducible rfl) ?_
        try simp only [Act.put, sqA, sqB, sqC, sqD, sqE, sqF]
        refine tk 5 (by assumption) rfl (by kernel_rfl) (fun _ _ _ h => h) (fun V hV => by go_simp; try with_reducible rfl) ?_
        try simp only [Act.put, sqA, sqB, sqC, sqD, sqE, sqF]
        refine tk 8 (by assumption) rfl (by kernel_rfl) (fun _ _ _ h => h) (fun V hV => by go_simp; try with_reducible rfl) ?_
        try simp only [Act.put, sqA, sqB, sqC, sqD, sqE, sqF]
        refine wpAnyH_ready (rs := [6]) (by kernel_rfl) (by simp) ?_
        refine AllReadyH.cons (o := _) rfl (fun K hK => ?_) AllReadyH.nil
        go_simp
        refine (HDI.out V0 HS7.out).mono ?_
        rintro e V1 ⟨rfl, hs1, hx1⟩
        have HS8 := Lib.hid hs1
        have HX8 := Lib.hid (bx_next HX7.out hx1)
        clear hs1 hx1
        go_wp2_with fail
        refine hK.out _ _ (HSS2.out _ HX8.out) (fun hH => ?_)
        clear hK K
        try simp only [Act.put, sqA, sqB, sqC, sqD, sqE, sqF]
        refine tk 7 (by assumption) rfl (by kernel_rfl) (fun _ _ _ h => h) (fun V hV => by go_simp; try with_reducible rfl) ?_
        try simp only [Act.put, sqA, sqB, sqC, sqD, sqE, sqF]
        refine tk 9 (by assumption) rfl (by kernel_rfl) (fun _ _ _ h => h) (fun V hV => by go_simp; try with_reducible rfl) ?_
        try simp only [Act.put, sqA, sqB, sqC, sqD, sqE, sqF]
        refine wpAnyH_done (by kernel_rfl) ?_ _
        clear hs0 e1
        have HX9 := Lib.hid (bx_next HX6.out HX8.out)
        cases tv with
        | false =>
          go_wp2_with fail
          refine ⟨⟨k + 1, congrArg (Value.int .i64) HK1.out.2.2.2, HK1.out.1, by rw [HZR.out]; rfl, HS8.out, HX9.out⟩, ?_⟩
          show R.length - ((k : Int) + 1).toNat < R.length - (k : Int).toNat
          rw [HK1.out.2.2.1]
          exact HK1.out.2.1
        | true =>
          have HZE : Hid (Z = (idf H.nodes tt : Int)) := Lib.hid (by rw [HZR.out]; rfl)
          obtain ⟨x0, x1⟩ := HSS2.out V1 HX8.out
          obtain ⟨c0, c1, c2', c3, c4⟩ := HS8.out.five
          obtain ⟨nb, no, hna, -, hnc⟩ := HS8.out.nodes.at tt HQ.out.2.2
          obtain ⟨ni, -⟩ := hnc tt HQ.out.2.2
          rw [HID.out tt HQ.out.2.2, ← HZE.out] at ni
          have htl : (tt : Int) < (H.nodes.length : Int) := by have := HQ.out; omega
          have ht0 : (0 : Int) ≤ (tt : Int) := by omega
          subst hna
          clear hnc
          go_upto_region 8 with (fail)
          go_quiet (fail)
          go_wp2_with fail
          go_ret
          exact ⟨rfl, HS8.out.below (Go.Iq.below_drewN (Below.refl _ _) _), bx_below (bx_next HX2.out HX9.out) (Go.Iq.below_drewN (Below.refl _ _) _)⟩
      · have hnk : ¬ (k : Int) < (R.length : Int) := by omega
        have HZE : Hid (Z = 0) := Lib.hid (by rw [HZK.out, List.drop_eq_nil_of_le (by omega)]; rfl)
        clear hlt hsg hbx hzk
        go_wp2_with fail
        go_ret
        refine ⟨?_, HSW.out, bx_next HX2.out HXW.out⟩
        rw [HZE.out]; rfl
set_option maxHeartbeats 16000000 in
theorem bNear_any (at_ to_ : Nat) (w : World) (sb db B0 : Nat) (H : Gr) (max : Nat) (na : Option Addr) (nc : Nat) (la : Option Addr) (lc : Nat) (hv : Value) (h : Sg w sb db B0 H max na nc la lc hv) (hat : at_ < H.nodes.length) (hto : to_ < H.nodes.length) :
    Calls Tryz.prog 52 #[.pointer (some ⟨sb, 0, none⟩), .int .i64 (at_ : Int), .int .i64 (to_ : Int)] w fun e w' => e = .returned (.bool (nearI H (qn max) (idf H.nodes at_ : Int) (idf H.nodes to_ : Int))) ∧ Sg w' sb db B0 H max na nc la lc hv ∧ BelowX w.heap.size db w w' := by
  have hst := g_storeL
  have HSG := Lib.hid h
  have HD := Lib.hid (deg_small h.bg at_ hat)
  have HRB := Lib.hid (fun r hr => rd_bound h.bg (s := at_) (r := r) hr)
  have HBS := Lib.hid h.bg.small
  have HNL : Hid (H.nodes.length ≤ 256) := Lib.hid (check_zero.1 h.bg.hz).1
  have HTO := Lib.hid hto
  have HAT := Lib.hid hat
  have HID : Hid (∀ k (hk : k < H.nodes.length), H.nodes[k].id = (idf H.nodes k : Int)) := Lib.hid (fun k hk => h.bg.id hk)
  have HSM : Hid (∀ u, Sm (g_ (dst H (qn max) to_) u)) := Lib.hid (fun u => dst_sm h.bg.hz h.bg.hw h.bg.small.2.1 to_ u)
  have HNX := Lib.hid (near_rds h.bg.hz (qn max) hat hto)
  generalize nearI H (qn max) (idf H.nodes at_ : Int) (idf H.nodes to_ : Int) = Z at *
  obtain ⟨rb, c, a, c2, hhv, hrc, hhp⟩ := h.hop hat
  obtain ⟨c0, c1, c2', c3, c4⟩ := h.five
  have HHP : Hid (∀ V, BelowX w.heap.size db w V → HpIn V db (rds H.nodes (liveG H).links at_) a) := Lib.hid (fun V hV => hhp.kept hV)
  have hati : (at_ : Int) < (H.nodes.length : Int) := by omega
  have hat0 : (0 : Int) ≤ (at_ : Int) := by omega
  subst hhv
  clear h hhp hat hto
  obtain ⟨R, hR⟩ : ∃ R, R = rds H.nodes (liveG H).links at_ := ⟨_, rfl⟩
  rw [← hR] at HD HRB HNX hrc HHP
  clear hR
  go_enter Tryz.func52, Tryz.ntmps52
  go_wp2_with fail
  clear c0 c1 c2' c3 c4 hrc hati hat0
  go_loopw [17] (fun i wr => ∃ k : Nat, i = .int .i64 (k : Int) ∧ k ≤ R.length ∧ Z = (R.drop k).any (fun r => (g_ (dst H (qn max) to_) r.1).isSome) ∧ Sg wr sb db B0 H max na nc la lc (.slice (some ⟨rb, 0, none⟩) H.nodes.length c) ∧ BelowX w.heap.size db w wr) (fun i _ => R.length - (RowKit.intOf i).toNat)
  case atStart => exact ⟨0, rfl, Nat.zero_le _, HNX.out, HSG.out, BelowX.refl _ _ _⟩
  case round =>
      obtain ⟨k, rfl, hk, hzk, hsg, hbx⟩ := hrel
      have HZK := Lib.hid hzk
      obtain ⟨wo, hwo⟩ : ∃ wo, wo = wr := ⟨_, rfl⟩
      subst hwo
      have HSW := Lib.hid hsg
      have HXW := Lib.hid hbx
      by_cases hlt : k < R.length
      · have hlti : (k : Int) < (R.length : Int) := by omega
        have hk0 : (0 : Int) ≤ (k : Int) := by omega
        have hkw : IntKind.i64.wrap ((k : Int) + 1) = (k : Int) + 1 := by rw [IntKind.wrap_i64]; have := HD.out; omega
        have HK1 : Hid (k + 1 ≤ R.length ∧ R.length - (k + 1) < R.length - k ∧ ((k : Int) + 1).toNat = k + 1 ∧ (k : Int) + 1 = ((k + 1 : Nat) : Int)) := Lib.hid ⟨by omega, by omega, by omega, by omega⟩
        obtain ⟨kb, kcs, hka, hkb, hkc⟩ := (HHP.out wo hbx).resolve_left (fun e => by rw [e] at hlt; simp at hlt)
        obtain ⟨k0, k1⟩ := hkc k hlt
        have HDR := Lib.hid (List.drop_eq_getElem_cons hlt)
        obtain ⟨r1, r2, r3⟩ := HRB.out _ (List.getElem_mem hlt)
        clear hsg hbx hkc
        generalize R[k] = r at *
        obtain ⟨tt, q⟩ := r
        simp only at k0 k1 r1 r2 r3
        have HQ : Hid (0 < q ∧ q ≤ 4294967296 ∧ tt < H.nodes.length) := Lib.hid ⟨r2, r3, r1⟩
        obtain ⟨W6, hW6⟩ : ∃ W6, W6 = wo.alloc (.cells #[.int .i64 (tt : Int), .float .f64 (qw q)] 80) := ⟨_, rfl⟩
        have b6 : Below wo.heap.size wo W6 := by rw [hW6]; exact gAl _ _
        have r6 : W6.heap[wo.heap.size]? = some (.cells #[.int .i64 (tt : Int), .float .f64 (qw q)] 80 (0, 0)) := by rw [hW6]; exact heap_alloc_new wo _
        have s6 : wo.heap.size < W6.heap.size := by rw [hW6]; simp
        obtain ⟨ll, hll⟩ : ∃ ll, ll = wo.heap.size := ⟨_, rfl⟩
        rw [← hll] at r6 s6
        have HSS : Hid (∀ V, BelowX W6.heap.size db W6 V → HbS V ll tt q) := Lib.hid (fun V hV => by
          have h := two_cells ((hV.block ll s6 (by have := HSW.out.dbs; omega)).trans r6)
          exact ⟨h.1, h.2.1⟩)
        have HS6 := Lib.hid (HSW.out.below b6)
        have HX6 := Lib.hid (bx_below HXW.out b6)
        subst hka
        clear b6 r6 s6 r1 r2 r3 hkb
        have HDI := Lib.hid (fun V (hV : Sg V sb db B0 H max na nc la lc (.slice (some ⟨rb, 0, none⟩) H.nodes.length c)) => bDist_any tt to_ V sb db B0 H max na nc la lc (.slice (some ⟨rb, 0, none⟩) H.nodes.length c) hV HQ.out.2.2 HTO.out)
        have HZR : Hid (Z = ((g_ (dst H (qn max) to_) tt).isSome || (R.drop (k + 1)).any (fun r => (g_ (dst H (qn max) to_) r.1).isSome))) := Lib.hid (by rw [HZK.out, HDR.out]; rfl)
        have HFR := Lib.hid (fun W => bFar_any (g_ (dst H (qn max) to_) tt) (HSM.out tt) W)
        have HIS : Hid ((g_ (dst H (qn max) to_) tt).isSome = !(g_ (dst H (qn max) to_) tt).isNone) := Lib.hid (by cases g_ (dst H (qn max) to_) tt <;> rfl)
        obtain ⟨tv, htv⟩ : ∃ tv, tv = (g_ (dst H (qn max) to_) tt).isNone := ⟨_, rfl⟩
        rw [HIS.out, ← htv] at HZR
        rw [← htv] at HFR
        obtain ⟨da, hda⟩ : ∃ da, da = dw (g_ (dst H (qn max) to_) tt) := ⟨_, rfl⟩
        rw [← hda] at HFR HDI
        clear htv hda hzk
        go_upto_region 4 with (fail)
        rw [← hW6, ← hll]
        clear hW6 hll k0 k1
        obtain ⟨l0, l1⟩ := HSS.out W6 (BelowX.refl _ _ _)
        go_wp2_with fail
        refine (HDI.out W6 HS6.out).mono ?_
        rintro e V1 ⟨rfl, hs1, hx1⟩
        have HS8 := Lib.hid hs1
        have HX9 := Lib.hid (bx_next HX6.out hx1)
        clear hs1 hx1 l0 l1
        cases tv with
        | true =>
          go_wp2_with fail
          refine (HFR.out _).mono ?_
          rintro e w' ⟨rfl, rfl⟩
          go_wp2_with fail
          refine ⟨⟨k + 1, congrArg (Value.int .i64) HK1.out.2.2.2, HK1.out.1, by rw [HZR.out]; rfl, HS8.out, HX9.out⟩, ?_⟩
          show R.length - ((k : Int) + 1).toNat < R.length - (k : Int).toNat
          rw [HK1.out.2.2.1]
          exact HK1.out.2.1
        | false =>
          have HZE : Hid (Z = true) := Lib.hid (by rw [HZR.out]; rfl)
          go_wp2_with fail
          refine (HFR.out _).mono ?_
          rintro e w' ⟨rfl, rfl⟩
          go_wp2_with fail
          go_ret
          refine ⟨?_, HS8.out, HX9.out⟩
          rw [HZE.out]; rfl
      · have hnk : ¬ (k : Int) < (R.length : Int) := by omega
        have HZE : Hid (Z = false) := Lib.hid (by rw [HZK.out, List.drop_eq_nil_of_le (by omega)]; rfl)
        clear hlt hsg hbx hzk
        go_wp2_with fail
        go_ret
        refine ⟨?_, HSW.out, HXW.out⟩
        rw [HZE.out]; rfl
end Go.Proofs.YtjlfpjjfldbknaaGreat
