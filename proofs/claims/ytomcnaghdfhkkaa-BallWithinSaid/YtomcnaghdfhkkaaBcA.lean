/- Balls: a sight's knows; the program's Knows. Balls: the law of balls: who knows whom. -/
import Derived.Test.YtomcnaghdfhkkaaBaH
import Derived.Test.YtomcnaghdfhkkaaBqD
import Derived.Test.YtomcnaghdfhkkaaBbB
section
namespace Go.Proofs.Ytomcnaghdfhkkaa
open Go.RowKit Go.Lib Go.Fq Go.Pq Go.Iq Go.Nq Go.Ow Go.Bq
set_option linter.unusedVariables false
set_option linter.unusedSimpArgs false
set_option maxRecDepth 100000

theorem kn_places {H : Gr} (hz : checkG H = 0) (lim : Nat) {a t : Nat} (ha : a < H.nodes.length) (ht : t < H.nodes.length) : knI H lim (idf H.nodes a : Int) H.nodes[t] = (decide (a = t) || (kindP H lim a t H.nodes[t] != 0 && (g_ (dst H lim t) a).isSome)) := by
  have n3 := (check_zero.1 hz).2.2.1
  have e := (idf_is n3 ht).1
  unfold knI
  rw [e, dI_at hz lim ha ht]
  by_cases h : a = t
  · subst h; simp
  · have h2 : ¬ ((idf H.nodes a : Int) = (idf H.nodes t : Int)) := fun e2 => h (idf_inj hz ha ht (by omega))
    unfold kindP
    rw [if_neg h, decide_eq_false h2, decide_eq_false h]
set_option maxHeartbeats 16000000 in
theorem bKnows_any (at_ to_ : Nat) (w : World) (sb db B0 : Nat) (H : Gr) (max : Nat) (na : Option Addr) (nc : Nat) (la : Option Addr) (lc : Nat) (hv : Value) (h : Sg w sb db B0 H max na nc la lc hv) (hat : at_ < H.nodes.length) (hto : to_ < H.nodes.length) :
    Calls Try.prog 49 #[.pointer (some ⟨sb, 0, none⟩), .int .i64 (at_ : Int), .int .i64 (to_ : Int)] w fun e w' => e = .returned (.bool (knI H (qn max) (idf H.nodes at_ : Int) H.nodes[to_])) ∧ Sg w' sb db B0 H max na nc la lc hv ∧ BelowX w.heap.size db w w' := by
  have hst := g_storeL
  have HSM := Lib.hid (dst_sm h.bg.hz h.bg.hw h.bg.small.2.1 to_ at_)
  have HDF := Lib.hid (bDistsFrom_any to_ w sb db B0 H max na nc la lc hv h hto)
  have HHO := Lib.hid (fun V (hV : Sg V sb db B0 H max na nc la lc hv) => bHome_any to_ V sb db B0 H max na nc la lc hv hV hto)
  have HKI := Lib.hid (fun V (hV : Sg V sb db B0 H max na nc la lc hv) => bKind_any at_ to_ V sb db B0 H max na nc la lc hv hV hat hto)
  have HDI := Lib.hid (fun V (hV : Sg V sb db B0 H max na nc la lc hv) => bDist_any at_ to_ V sb db B0 H max na nc la lc hv hV hat hto)
  have hZ := kn_places h.bg.hz (qn max) hat hto
  have hab : at_ ≠ to_ → ((at_ : Int) == (to_ : Int)) = false := fun e => by simp; omega
  have hab2 : at_ = to_ → ((at_ : Int) == (to_ : Int)) = true := fun e => by simp [e]
  obtain ⟨kv, hkv⟩ : ∃ kv, kv = kindP H (qn max) at_ to_ H.nodes[to_] := ⟨_, rfl⟩
  rw [← hkv] at hZ HKI
  generalize knI H (qn max) (idf H.nodes at_ : Int) H.nodes[to_] = Z at *
  obtain ⟨D, hD⟩ : ∃ D, D = g_ (dst H (qn max) to_) at_ := ⟨_, rfl⟩
  rw [← hD] at HSM HDI hZ
  have HFR := Lib.hid (fun W => bFar_any D HSM.out W)
  obtain ⟨x, hx⟩ : ∃ x, x = (idf H.nodes to_ : Int) := ⟨_, rfl⟩
  rw [← hx] at HHO HKI
  obtain ⟨rh, hrh⟩ : ∃ rh, rh = (homeI H (qn max) x).1 := ⟨_, rfl⟩
  obtain ⟨rr, hrr⟩ : ∃ rr, rr = dw (homeI H (qn max) x).2 := ⟨_, rfl⟩
  rw [← hrh, ← hrr] at HHO HKI
  clear h hat hto hkv hD hx hrh hrr
  by_cases hne : at_ = to_
  · have e1 := hab2 hne
    have HZ : Hid (Z = true) := Lib.hid (by rw [hZ]; simp [hne])
    clear hne hab hab2 hZ
    go_enter Try.func49, Try.ntmps49
    go_wp2_with fail
    refine HDF.out.mono ?_
    rintro e W2 ⟨b, c, rfl, -, hs2, hx2⟩
    have HS2 := Lib.hid hs2
    have HX2 := Lib.hid hx2
    clear hs2 hx2
    go_wp2_with fail
    go_ret
    refine ⟨?_, HS2.out, HX2.out⟩
    rw [HZ.out]; rfl
  · have e1 := hab hne
    have HZ : Hid (Z = (kv != 0 && D.isSome)) := Lib.hid (by rw [hZ, decide_eq_false hne]; rfl)
    clear hne hab hab2 hZ
    go_enter Try.func49, Try.ntmps49
    go_wp2_with fail
    refine HDF.out.mono ?_
    rintro e W2 ⟨b, c, rfl, -, hs2, hx2⟩
    have HS2 := Lib.hid hs2
    have HX2 := Lib.hid hx2
    clear hs2 hx2
    go_wp2_with fail
    refine (HHO.out W2 HS2.out).mono ?_
    rintro e W3 ⟨rfl, hs3, hx3⟩
    have HS3 := Lib.hid hs3
    have HX3 := Lib.hid (bx_next HX2.out hx3)
    clear hs3 hx3
    go_wp2_with fail
    refine (HKI.out W3 HS3.out).mono ?_
    rintro e W4 ⟨rfl, hs4, hx4⟩
    have HS4 := Lib.hid hs4
    have HX4 := Lib.hid (bx_next HX3.out hx4)
    clear hs4 hx4
    by_cases hk0 : kv = 0
    · have e2 : (kv != 0) = false := by simp [hk0]
      clear hk0
      go_wp2_with fail
      go_ret
      refine ⟨?_, HS4.out, HX4.out⟩
      rw [HZ.out, e2]; rfl
    · have e2 : (kv != 0) = true := by simp [hk0]
      clear hk0
      go_wp2_with fail
      refine (HDI.out W4 HS4.out).mono ?_
      rintro e W5 ⟨rfl, hs5, hx5⟩
      have HS5 := Lib.hid hs5
      have HX5 := Lib.hid (bx_next HX4.out hx5)
      clear hs5 hx5
      go_wp2_with fail
      refine (HFR.out _).mono ?_
      rintro e w' ⟨rfl, rfl⟩
      go_wp2_with fail
      go_ret
      refine ⟨?_, HS5.out, HX5.out⟩
      rw [HZ.out, e2]; cases D <;> rfl
/-- What Knows tells. -/
def KnEnds (w : World) (G : Gr) (max : Nat) (u v : Int) (e : Ending) (w' : World) : Prop := Below w.heap.size w w' ∧
  ((ballE G max ≠ 0 ∧ e = .returned (.tuple #[.bool false, .int .i64 (ballE G max)])) ∨
   (ballE G max = 0 ∧ (upB G.nodes u && upB G.nodes v) = false ∧ e = .returned (.tuple #[.bool false, .int .i64 4])) ∨
   (ballE G max = 0 ∧ upB G.nodes u = true ∧ ∃ m ∈ G.nodes, m.up = true ∧ m.id = v ∧ e = .returned (.tuple #[.bool (knI G (qn max) u m), .int .i64 0])))
set_option maxHeartbeats 8000000 in
theorem pKnows_any (G : Gr) (na : Option Addr) (nc : Nat) (la : Option Addr) (lc : Nat) (max : Nat) (u v : Int) (w : World) (hin : GrIn w G na la) (hm : max < 2 ^ 64) :
    Calls Try.prog 24 #[.agg #[.slice na G.nodes.length nc, .slice la G.links.length lc], .float .f64 max, .int .i64 u, .int .i64 v] w fun e w' => KnEnds w G max u v e w' := by
  obtain ⟨W1, hW1⟩ : ∃ W1, W1 = w.alloc (.cells #[.slice na G.nodes.length nc, .slice la G.links.length lc] 25) := ⟨_, rfl⟩
  have b1 : Below w.heap.size w W1 := by rw [hW1]; exact gAl _ _
  have r1 : W1.heap[w.heap.size]? = some (.cells #[.slice na G.nodes.length nc, .slice la G.links.length lc] 25 (0, 0)) := by rw [hW1]; exact heap_alloc_new w _
  obtain ⟨g0, g1, -, -⟩ := two_cells r1
  have HC := Lib.hid (sightOf_any G na nc la lc max W1 (hin.below b1) hm)
  have HB1 := Lib.hid b1
  have HWT := Lib.hid hin.wts
  clear hin b1 r1 hm
  go_enter Try.func24, Try.ntmps24
  go_upto_region 1 with (fail)
  rw [← hW1]
  clear hW1
  go_wp2_with fail
  refine HC.out.mono ?_
  rintro e w2 he
  obtain ⟨hb2, ⟨hne, rfl⟩ | ⟨hE, sb, db, B0, an, cn, al, cl, hv, rfl, hsb, hdb, hsg⟩⟩ := he.cases
  · have HB2 := Lib.hid (gNx HB1.out hb2)
    have HNE := Lib.hid hne
    obtain ⟨E, hE⟩ : ∃ E, E = ballE G max := ⟨_, rfl⟩
    have HEE := Lib.hid hE
    rw [← hE]
    have hz : (E != 0) = true := by rw [hE]; simpa using hne
    clear hb2 he hne hE g0 g1
    go_wp2_with fail
    refine bodyPost_ret (v := .tuple #[.bool false, .int .i64 E]) (by simp [results, Try.results24, go_sem]) rfl ?_
    exact ⟨HB2.out, Or.inl ⟨HNE.out, by rw [HEE.out]⟩⟩
  · have HB2 := Lib.hid (gNx HB1.out hb2)
    have HE := Lib.hid hE
    have HSB : Hid (w.heap.size ≤ w2.heap.size ∧ w.heap.size ≤ db) := Lib.hid (by have := hb2.size; have := HB1.out.size; omega)
    have HP := Lib.hid (bPlace_any u w2 sb db B0 (liveG G) max an cn al cl hv hsg)
    have HP2 := Lib.hid (fun V (hV : Sg V sb db B0 (liveG G) max an cn al cl hv) => bPlace_any v V sb db B0 (liveG G) max an cn al cl hv hV)
    have HSG := Lib.hid hsg
    have HUP : Hid (has (liveG G).nodes u = upB G.nodes u) := Lib.hid (up_live G.nodes u).2
    have HUP2 : Hid (has (liveG G).nodes v = upB G.nodes v) := Lib.hid (up_live G.nodes v).2
    rw [HUP.out] at HP
    rw [HUP2.out] at HP2
    have n3 := (check_zero.1 hsg.bg.hz).2.2.1
    have HKU : Hid (upB G.nodes u = true → Nq.ahead (liveG G).nodes u < (liveG G).nodes.length ∧ (idf (liveG G).nodes (Nq.ahead (liveG G).nodes u) : Int) = u) := Lib.hid (fun e => ⟨((has_at n3 u).1 (HUP.out.trans e)).1, (id_at n3 (HUP.out.trans e)).1⟩)
    have HKV : Hid (upB G.nodes v = true → ∃ hk : Nq.ahead (liveG G).nodes v < (liveG G).nodes.length, ((liveG G).nodes[Nq.ahead (liveG G).nodes v]'hk).id = v) := Lib.hid (fun e => (has_at n3 v).1 (HUP2.out.trans e))
    obtain ⟨a, ha⟩ : ∃ a, a = Nq.ahead (liveG G).nodes u := ⟨_, rfl⟩
    obtain ⟨t, ht⟩ : ∃ t, t = Nq.ahead (liveG G).nodes v := ⟨_, rfl⟩
    rw [← ha] at HP HKU
    rw [← ht] at HP2 HKV
    obtain ⟨uu, huu⟩ : ∃ uu, uu = upB G.nodes u := ⟨_, rfl⟩
    obtain ⟨uv, huv⟩ : ∃ uv, uv = upB G.nodes v := ⟨_, rfl⟩
    have HUU := Lib.hid huu.symm
    have HUV := Lib.hid huv.symm
    rw [← huu] at HP HKU
    rw [← huv] at HP2 HKV
    clear hb2 he hE g0 g1 hsg hsb hdb n3 ha ht HUP HUP2 huu huv
    go_wp2_with fail
    refine HP.out.mono ?_
    rintro e w3 ⟨rfl, hb3⟩
    have HB3 : Hid (Below w.heap.size w w3) := Lib.hid (gNx HB2.out hb3)
    have HS3 := Lib.hid (HSG.out.below hb3)
    clear hb3
    go_wp2_with fail
    refine (HP2.out w3 HS3.out).mono ?_
    rintro e w4 ⟨rfl, hb4⟩
    have HB4 : Hid (Below w.heap.size w w4 ∧ w.heap.size ≤ w4.heap.size) := Lib.hid ⟨gNx HB3.out hb4, (gNx HB3.out hb4).size⟩
    have HS4 := Lib.hid (HS3.out.below hb4)
    clear hb4
    cases uu with
    | false =>
      go_wp2_with fail
      refine bodyPost_ret (v := .tuple #[.bool false, .int .i64 4]) (by simp [results, Try.results24, go_sem]) rfl ?_
      exact ⟨HB4.out.1, Or.inr (Or.inl ⟨HE.out, by rw [HUU.out]; rfl, rfl⟩)⟩
    | true =>
      cases uv with
      | false =>
        go_wp2_with fail
        refine bodyPost_ret (v := .tuple #[.bool false, .int .i64 4]) (by simp [results, Try.results24, go_sem]) rfl ?_
        exact ⟨HB4.out.1, Or.inr (Or.inl ⟨HE.out, by rw [HUV.out, Bool.and_false], rfl⟩)⟩
      | true =>
        obtain ⟨ha, hau⟩ := HKU.out rfl
        obtain ⟨ht, htv⟩ := HKV.out rfl
        have HK := Lib.hid (bKnows_any a t w4 sb db B0 (liveG G) max an cn al cl hv HS4.out ha ht)
        rw [hau] at HK
        have hmm : (liveG G).nodes[t] ∈ G.nodes ∧ ((liveG G).nodes[t]).up = true := List.mem_filter.1 (show (liveG G).nodes[t] ∈ G.nodes.filter (·.up) from List.getElem_mem ht)
        rw [← kn_live (ballE_zero.1 HE.out).1 HWT.out (qn max) HUU.out hmm.1 hmm.2] at HK
        have HMM := Lib.hid hmm
        have HTV := Lib.hid htv
        generalize (liveG G).nodes[t] = m at *
        clear ha hau ht htv hmm
        go_wp2_with fail
        refine HK.out.mono ?_
        rintro e w5 ⟨rfl, -, hbx⟩
        have HB5 : Hid (Below w.heap.size w w5) := Lib.hid (HB4.out.1.trans (hbx.below HB4.out.2 HSB.out.2))
        clear hbx
        go_wp2_with fail
        refine bodyPost_ret (v := .tuple #[.bool (knI G (qn max) u m), .int .i64 0]) (by simp [results, Try.results24, go_sem]) rfl ?_
        exact ⟨HB5.out, Or.inr (Or.inr ⟨HE.out, HUU.out, m, HMM.out.1, HMM.out.2, HTV.out, rfl⟩)⟩
end Go.Proofs.Ytomcnaghdfhkkaa
end

section
namespace Go.Proofs.Ytomcnaghdfhkkaa
open Go.RowKit Go.Lib Go.Fq Go.Pq Go.Iq Go.Nq Go.Ow Go.Bq
set_option linter.unusedVariables false
set_option linter.unusedSimpArgs false
set_option maxRecDepth 100000

theorem dw_top {a : Option Nat} (h : Sm a) : (FloatKind.f64.format.order (dw a) 9218868437227405311 == some .gt) = a.isNone := by
  cases a with
  | none => decide +kernel
  | some n =>
    have hn : n < 2 ^ 53 := by have : n ≤ 4294967296 := h; omega
    have h1 := ik_qw_inf n hn
    have e1 : ik 9218868437227405312 = 9218868437227405312 := by decide +kernel
    have e2 : ik 9218868437227405311 = 9218868437227405311 := by decide +kernel
    have h3 := qw_nan hn
    have h4 : nanB 9218868437227405311 = false := by decide +kernel
    show (FloatKind.f64.format.order (qw n) _ == some .gt) = false
    by_cases hlt : ik (qw n) < ik 9218868437227405311
    · rw [od_lt h3 h4 hlt]; rfl
    · rw [od_same h3 h4 (by omega)]; rfl
theorem rbFar_any (a : Option Nat) (h : Sm a) (w : World) : Calls Try.prog 23 #[.float .f64 (dw a)] w fun e w' => e = .returned (.bool a.isNone) ∧ w = w' := by
  have e1 := dw_top h
  generalize dw a = d at *
  generalize a.isNone = b at *
  clear h
  go_enter Try.func23, Try.ntmps23
  go_wp2_with fail
  go_ret
  exact ⟨rfl, rfl⟩
/-- What knows tells of two that are up. -/
theorem wKnows_any (k : Nat) (v : Int) (max : Nat) (G : Gr) (na : Option Addr) (nc : Nat) (la : Option Addr) (lc : Nat) (w : World) (hin : GrIn w G na la) (hm : max < 2 ^ 64) (hE : ballE G max = 0) (hk : k < G.nodes.length) (hup : G.nodes[k].up = true) (hv : upB G.nodes v = true) (hne : (idf G.nodes k : Int) ≠ v) :
    Calls Try.prog 24 #[.agg #[.slice na G.nodes.length nc, .slice la G.links.length lc], .float .f64 max, .int .i64 (idf G.nodes k : Int), .int .i64 v] w fun e w' => e = .returned (.tuple #[.bool (ltO (g_ (dst G (qn max) (Nq.ahead G.nodes v)) k) (homeI (liveG G) (qn max) v).2 || ((g_ (dst G (qn max) (Nq.ahead G.nodes v)) k).isSome && ((idf G.nodes k : Int) == (homeI (liveG G) (qn max) v).1 || (homeI (liveG G) (qn max) v).1 == v))), .int .i64 0]) ∧ Below w.heap.size w w' := by
  obtain ⟨hz, hl⟩ := ballE_zero.1 hE
  have n3 := (check_zero.1 hz).2.2.1
  have hu : upB G.nodes (idf G.nodes k : Int) = true := by
    have := mem_up (List.getElem_mem hk) hup
    rw [(idf_is n3 hk).1] at this; exact this
  obtain ⟨lim, l1, l2, l3⟩ := limit_q max hm hl
  have hq : 0 < qn max := by rw [l3, qn_qw (by omega)]; omega
  refine (pKnows_any G na nc la lc max _ v w hin hm).mono ?_
  rintro e w' ⟨hb, ⟨h, -⟩ | ⟨-, h, -⟩ | ⟨-, -, m, m1, m2, m3, rfl⟩⟩
  · exact absurd hE h
  · rw [hu, hv] at h; cases h
  · refine ⟨?_, hb⟩
    have h := kn_want hz hin.wts hq (u := (idf G.nodes k : Int)) m1 m2 (by rw [m3]; exact hne)
    rw [m3, home_live hz hin.wts (qn max) hv] at h
    unfold dI at h
    rw [(aheadOf n3 hk).2] at h
    rw [h]
def WiS (V : World) (dg k hg i d1 d2 : Nat) (y : Int) : Prop := V.cell? ⟨dg, k, none⟩ = some (.float .f64 d1) ∧ V.cell? ⟨hg, i * 3 + 2, none⟩ = some (.float .f64 d2) ∧ V.cell? ⟨hg, i * 3 + 1, none⟩ = some (.int .i64 y)
set_option maxHeartbeats 16000000 in
theorem law_bwithin (G : Gr) (na : Option Addr) (nc : Nat) (la : Option Addr) (lc : Nat) (max : Nat) (v : Int) (w : World) (hin : GrIn w G na la) (hm : max < 2 ^ 64) (_ : (Lit.int .i64 v).wf = true) :
    Calls Try.prog 6 #[.agg #[.slice na G.nodes.length nc, .slice la G.links.length lc], .float .f64 max, .int .i64 v] w fun e w' => e = .returned (.bool true) ∧ Below w.heap.size w w' := by
  obtain ⟨W1, hW1⟩ : ∃ W1, W1 = w.alloc (.cells #[.slice na G.nodes.length nc, .slice la G.links.length lc] 25) := ⟨_, rfl⟩
  have b1 : Below w.heap.size w W1 := by rw [hW1]; exact gAl _ _
  have s1 : w.heap.size < W1.heap.size := by rw [hW1]; simp
  have r1 : W1.heap[w.heap.size]? = some (.cells #[.slice na G.nodes.length nc, .slice la G.links.length lc] 25 (0, 0)) := by rw [hW1]; exact heap_alloc_new w _
  obtain ⟨gb, hgb⟩ : ∃ gb, gb = w.heap.size := ⟨_, rfl⟩
  rw [← hgb] at r1 s1
  have HKG : Hid (∀ V, Below W1.heap.size W1 V → V.cell? ⟨gb, 0, none⟩ = some (.slice na G.nodes.length nc) ∧ V.cell? ⟨gb, 1, none⟩ = some (.slice la G.links.length lc)) := Lib.hid (fun V hV => by
    have := two_cells ((hV.block _ s1).trans r1)
    exact ⟨this.1, this.2.1⟩)
  have HB1 := Lib.hid b1
  have HIN : Hid (∀ V, Below W1.heap.size W1 V → GrIn V G na la) := Lib.hid (fun V hV => (hin.below b1).below hV)
  have HAW := Lib.hid (fun V => bAwake_any V)
  have HC := Lib.hid (pHomes_any G na nc la lc max W1 (hin.below b1) hm)
  have HMX := Lib.hid hm
  have HWT : Hid (Wts G) := Lib.hid hin.wts
  have HWS : Hid (W1 = w.alloc (.cells #[.slice na G.nodes.length nc, .slice la G.links.length lc] 25) ∧ w.heap.size = gb) := Lib.hid ⟨hW1, hgb.symm⟩
  obtain ⟨g0, g1⟩ := HKG.out W1 (Below.refl _ _)
  clear hin b1 s1 r1 hm hW1 hgb
  go_enter Try.func6, Try.ntmps6
  go_upto_region 1 with (fail)
  rw [← HWS.out.1, HWS.out.2]
  clear HWS
  go_wp2_with fail
  refine HC.out.mono ?_
  clear HC
  rintro e w2 ⟨hb2, hcase⟩
  have HB2 := Lib.hid hb2
  clear g0 g1
  obtain ⟨g0, g1⟩ := HKG.out w2 hb2
  rcases hcase with ⟨hne, rfl⟩ | ⟨hE, vh, rfl, ho⟩
  · have HNE := Lib.hid hne
    have HR := Lib.hid (rbHomes_any max G na nc la lc w2 (HIN.out w2 hb2) HMX.out)
    obtain ⟨E, hE⟩ : ∃ E, E = ballE G max := ⟨_, rfl⟩
    have HEE := Lib.hid hE
    rw [← hE]
    have hee : (E == E) = true := by simp
    have hez : (E != 0) = true := by rw [hE]; simpa using hne
    clear hne hE hb2
    go_wp2_with fail
    refine HR.out.mono ?_
    rintro e w4 ⟨hb4, ⟨-, rfl⟩ | ⟨hE2, -⟩⟩
    case inr => exact absurd hE2 HNE.out
    rw [← HEE.out]
    have HB4 := Lib.hid (gNx HB2.out hb4)
    clear hb4 g0 g1
    go_wp2_with fail
    refine (HAW.out _).mono ?_
    rintro e w5 ⟨rfl, hb5⟩
    have HB5 := Lib.hid (gNx HB1.out (gNx HB4.out hb5))
    clear hb5
    go_wp2_with fail
    go_ret
    exact ⟨rfl, HB5.out⟩
  · have HE := Lib.hid hE
    obtain ⟨ha, hcap, rfl⟩ := ho.slice
    have HHC : Hid (∀ V, Below w2.heap.size w2 V → ∀ i, i < (liveG G).nodes.length → ∃ hg, ha = some ⟨hg, 0, none⟩ ∧ V.cell? ⟨hg, i * 3, none⟩ = some (.int .i64 (idf (liveG G).nodes i : Int)) ∧ V.cell? ⟨hg, i * 3 + 1, none⟩ = some (.int .i64 (homeI (liveG G) (qn max) (idf (liveG G).nodes i : Int)).1) ∧ V.cell? ⟨hg, i * 3 + 2, none⟩ = some (.float .f64 (dw (homeI (liveG G) (qn max) (idf (liveG G).nodes i : Int)).2))) := Lib.hid (fun V hV i hi => by
      obtain ⟨hg, c, e, -, cur, h1, h2⟩ := hm_in (ho.below hV) (by omega)
      simp only [Value.slice.injEq] at e
      obtain ⟨q0, q1, q2⟩ := h2 i hi
      exact ⟨hg, e.1, q0, q1, q2⟩)
    have HDS := Lib.hid (rDists_any G na nc la lc max v w2 (HIN.out w2 hb2) HMX.out)
    have HNL : Hid (G.nodes.length ≤ 256 ∧ (liveG G).nodes.length ≤ 256) := Lib.hid ⟨(check_zero.1 (ballE_zero.1 hE).1).1, (check_zero.1 (live_keeps (ballE_zero.1 hE).1).1).1⟩
    clear ho hE hb2
    go_wp2_with fail
    refine HDS.out.mono ?_
    clear HDS
    rintro e w3 (⟨hne, rfl, hb3⟩ | ⟨-, l, dv, rfl, hod, hdp, hb3⟩)
    · have HB3 := Lib.hid (gNx HB2.out hb3)
      obtain ⟨E, hE⟩ : ∃ E, E = askE G max [v] := ⟨_, rfl⟩
      rw [← hE] at hne ⊢
      have hez : (E == 0) = false := by simpa using hne
      clear hb3 hne hE g0 g1
      obtain ⟨nl, hnl⟩ : ∃ nl, nl = (liveG G).nodes.length := ⟨_, rfl⟩
      rw [← hnl]
      clear hnl
      go_wp2_with fail
      go_loopw [12] (fun x wr => x = .int .i64 0 ∧ Below W1.heap.size W1 wr) (fun _ _ => 0)
      case atStart => exact ⟨rfl, HB3.out⟩
      case round =>
        obtain ⟨rfl, hbx⟩ := hrel
        have HXW := Lib.hid hbx
        clear hbx
        by_cases hlt : (0 : Int) < (nl : Int)
        · go_wp2_with fail
          refine (HAW.out _).mono ?_
          rintro e w5 ⟨rfl, hb5⟩
          have HB5 := Lib.hid (gNx HB1.out (gNx HXW.out hb5))
          clear hb5
          go_wp2_with fail
          go_ret
          exact ⟨rfl, HB5.out⟩
        · go_wp2_with fail
          refine (HAW.out _).mono ?_
          rintro e w5 ⟨rfl, hb5⟩
          have HB5 := Lib.hid (gNx HB1.out (gNx HXW.out hb5))
          clear hb5
          go_wp2_with fail
          go_ret
          exact ⟨rfl, HB5.out⟩
    · have HB3 := Lib.hid (gNx HB2.out hb3)
      have hz := (ballE_zero.1 HE.out).1
      have hll := dst_is hz HWT.out hdp
      subst hll
      obtain ⟨da, dcap, rfl⟩ := hod.slice
      have HDC : Hid (∀ V, Below w3.heap.size w3 V → ∀ k, k < G.nodes.length → ∃ dg, da = some ⟨dg, 0, none⟩ ∧ V.cell? ⟨dg, k, none⟩ = some (.float .f64 (dw (g_ (dst G (qn max) (Nq.ahead G.nodes v)) k)))) := Lib.hid (fun V hV k hk => by
        obtain ⟨dg, c, e, h⟩ := row_cells4 (hod.below hV) (dst_len hz HWT.out _ _) (by omega)
        simp only [Value.slice.injEq] at e
        exact ⟨dg, e.1, h V (Below.refl _ _) k hk⟩)
      have HHC3 := Lib.hid (fun V (hV : Below w3.heap.size w3 V) => HHC.out V (gNx hb3 hV))
      have HSMD : Hid (∀ k, Sm (g_ (dst G (qn max) (Nq.ahead G.nodes v)) k)) := Lib.hid (fun k => by
        obtain ⟨lim, l1, l2, l3⟩ := limit_q max HMX.out (ballE_zero.1 HE.out).2
        exact dst_sm hz HWT.out (by rw [l3, qn_qw (by omega)]; exact l2) _ k)
      have HSMH : Hid (Sm (homeI (liveG G) (qn max) v).2) := Lib.hid (by
        obtain ⟨lim, l1, l2, l3⟩ := limit_q max HMX.out (ballE_zero.1 HE.out).2
        rcases home_is (g := liveG G) (qn max) v with ⟨-, e⟩ | ⟨m, -, -, -, -, e, -⟩
        · rw [e]; trivial
        · rw [e]; exact dI_sm (live_keeps hz).1 HWT.out.live (by rw [l3, qn_qw (by omega)]; exact l2) _ _)
      have HID : Hid (∀ k (hk : k < G.nodes.length), G.nodes[k].id = (idf G.nodes k : Int)) := Lib.hid (fun k hk => (idf_is (check_zero.1 hz).2.2.1 hk).1)
      have HUV : Hid (∀ i, i < (liveG G).nodes.length → (idf (liveG G).nodes i : Int) = v → upB G.nodes v = true) := Lib.hid (fun i hi e => by
        have h1 := List.mem_filter.1 (show (liveG G).nodes[i] ∈ G.nodes.filter (·.up) from List.getElem_mem hi)
        have h2 := mem_up h1.1 h1.2
        rw [(idf_is (check_zero.1 (live_keeps hz).1).2.2.1 hi).1, e] at h2
        exact h2)
      clear hod hdp hz HHC hb3 g0 g1
      go_wp2_with fail
      go_loopw [12] (fun x wr => ∃ i : Nat, x = .int .i64 (i : Int) ∧ i ≤ (liveG G).nodes.length ∧ Below W1.heap.size W1 wr ∧ Below w3.heap.size w3 wr) (fun x _ => (liveG G).nodes.length - (RowKit.intOf x).toNat)
      case atStart => exact ⟨0, rfl, Nat.zero_le _, HB3.out, Below.refl _ _⟩
      case round =>
        obtain ⟨i, rfl, hi, hbx, hb3x⟩ := hrel
        obtain ⟨wi, hwi⟩ : ∃ wi, wi = wr := ⟨_, rfl⟩
        subst hwi
        have HXI := Lib.hid hbx
        have HXI3 := Lib.hid hb3x
        by_cases hlt : i < (liveG G).nodes.length
        · have hltj : (i : Int) < ((liveG G).nodes.length : Int) := by omega
          have hi0 : (0 : Int) ≤ (i : Int) := by omega
          have hiw : IntKind.i64.wrap ((i : Int) + 1) = (i : Int) + 1 := by rw [IntKind.wrap_i64]; have := HNL.out; omega
          have HI1 : Hid (i + 1 ≤ (liveG G).nodes.length ∧ (liveG G).nodes.length - (i + 1) < (liveG G).nodes.length - i ∧ ((i : Int) + 1).toNat = i + 1 ∧ (i : Int) + 1 = ((i + 1 : Nat) : Int)) := Lib.hid ⟨by omega, by omega, by omega, by omega⟩
          obtain ⟨hg, hha, q0, -, -⟩ := HHC3.out wi hb3x i hlt
          have HH4 : Hid (∀ V, Below wi.heap.size wi V → V.cell? ⟨hg, i * 3, none⟩ = some (.int .i64 (idf (liveG G).nodes i : Int)) ∧ V.cell? ⟨hg, i * 3 + 1, none⟩ = some (.int .i64 (homeI (liveG G) (qn max) (idf (liveG G).nodes i : Int)).1) ∧ V.cell? ⟨hg, i * 3 + 2, none⟩ = some (.float .f64 (dw (homeI (liveG G) (qn max) (idf (liveG G).nodes i : Int)).2))) := Lib.hid (fun V hV => by
            obtain ⟨hg2, e, h⟩ := HHC3.out V (gNx hb3x hV) i hlt
            rw [hha] at e
            simp only [Option.some.injEq, Addr.mk.injEq, and_true] at e
            subst e
            exact h)
          have HUV2 := Lib.hid (HUV.out i hlt)
          subst hha
          obtain ⟨x, hx⟩ : ∃ x, x = (idf (liveG G).nodes i : Int) := ⟨_, rfl⟩
          rw [← hx] at q0 HH4 HUV2
          clear hlt hi hbx hb3x hx
          by_cases hxv : x = v
          case neg =>
            have e1 : (x != v) = true := by simpa using hxv
            clear hxv
            go_wp2_with fail
            refine ⟨⟨i + 1, congrArg (Value.int .i64) HI1.out.2.2.2, HI1.out.1, HXI.out, HXI3.out⟩, ?_⟩
            show (liveG G).nodes.length - ((i : Int) + 1).toNat < (liveG G).nodes.length - (i : Int).toNat
            rw [HI1.out.2.2.1]
            exact HI1.out.2.1
          case pos =>
            have HUP := Lib.hid (HUV2.out hxv)
            subst hxv
            have e1 : (x != x) = false := by simp
            clear HUV2
            obtain ⟨rh, hrh⟩ : ∃ rh, rh = homeI (liveG G) (qn max) x := ⟨_, rfl⟩
            have HRH := Lib.hid hrh
            rw [← hrh] at HH4 HSMH
            clear hrh
            obtain ⟨y, rr⟩ := rh
            simp only at HH4 HSMH
            obtain ⟨d2, hd2⟩ : ∃ d2, d2 = dw rr := ⟨_, rfl⟩
            rw [← hd2] at HH4
            have HD2 := Lib.hid hd2
            clear hd2
            go_wp2_with fail
            clear q0 e1
            go_loopw [13] (fun z wr => ∃ k : Nat, z = .int .i64 (k : Int) ∧ k ≤ G.nodes.length ∧ Below wi.heap.size wi wr) (fun z _ => G.nodes.length - (RowKit.intOf z).toNat)
            case atStart => exact ⟨0, rfl, Nat.zero_le _, Below.refl _ _⟩
            case round =>
              obtain ⟨k, rfl, hk, hbx⟩ := hrel
              obtain ⟨wo, hwo⟩ : ∃ wo, wo = wr := ⟨_, rfl⟩
              subst hwo
              have HXO := Lib.hid hbx
              have HX1 := Lib.hid (gNx HXI.out hbx)
              obtain ⟨g0, g1⟩ := HKG.out wo (gNx HXI.out hbx)
              by_cases hlt : k < G.nodes.length
              · have hlti : (k : Int) < (G.nodes.length : Int) := by omega
                have hk0 : (0 : Int) ≤ (k : Int) := by omega
                have hkw : IntKind.i64.wrap ((k : Int) + 1) = (k : Int) + 1 := by rw [IntKind.wrap_i64]; have := HNL.out; omega
                have HK1 : Hid (k + 1 ≤ G.nodes.length ∧ G.nodes.length - (k + 1) < G.nodes.length - k ∧ ((k : Int) + 1).toNat = k + 1 ∧ (k : Int) + 1 = ((k + 1 : Nat) : Int)) := Lib.hid ⟨by omega, by omega, by omega, by omega⟩
                obtain ⟨b, o, hna, hbb, hnc⟩ := (HIN.out wo (gNx HXI.out hbx)).nodes.at k hlt
                obtain ⟨n0, n1, -⟩ := hnc k hlt
                rw [HID.out k hlt] at n0
                obtain ⟨dg, hda, -⟩ := HDC.out wo (gNx HXI3.out hbx) k hlt
                have HSS : Hid (∀ V, Below wo.heap.size wo V → WiS V dg k hg i (dw (g_ (dst G (qn max) (Nq.ahead G.nodes x)) k)) d2 y) := Lib.hid (fun V hV => by
                  obtain ⟨dg2, e, h⟩ := HDC.out V (gNx HXI3.out (gNx hbx hV)) k hlt
                  rw [hda] at e
                  simp only [Option.some.injEq, Addr.mk.injEq, and_true] at e
                  subst e
                  obtain ⟨-, p1, p2⟩ := HH4.out V (gNx hbx hV)
                  exact ⟨h, p2, p1⟩)
                have HKW := Lib.hid (fun V (hV : Below W1.heap.size W1 V) hup hne => wKnows_any k x max G na nc la lc V (HIN.out V hV) HMX.out HE.out hlt hup HUP.out hne)
                rw [← HRH.out] at HKW
                simp only at HKW
                obtain ⟨u, hu⟩ : ∃ u, u = (idf G.nodes k : Int) := ⟨_, rfl⟩
                have HSM := Lib.hid (HSMD.out k)
                obtain ⟨D, hD⟩ : ∃ D, D = g_ (dst G (qn max) (Nq.ahead G.nodes x)) k := ⟨_, rfl⟩
                have HFR := Lib.hid (fun W => rbFar_any _ HSM.out W)
                have hlt2 := dw_lt HSM.out HSMH.out
                rw [← hu] at n0 HKW
                rw [← hD] at HSS HKW HFR hlt2 HSM
                rw [← HD2.out] at hlt2
                obtain ⟨d1, hd1⟩ : ∃ d1, d1 = dw D := ⟨_, rfl⟩
                rw [← hd1] at HSS HFR hlt2
                subst hna hda
                generalize G.nodes[k].up = up at *
                clear hbx hlt hk hbb hnc hu hD hd1
                cases up with
                | false =>
                  go_wp2_with fail
                  refine ⟨⟨k + 1, congrArg (Value.int .i64) HK1.out.2.2.2, HK1.out.1, HXO.out⟩, ?_⟩
                  show G.nodes.length - ((k : Int) + 1).toNat < G.nodes.length - (k : Int).toNat
                  rw [HK1.out.2.2.1]
                  exact HK1.out.2.1
                | true =>
                  by_cases hux : u = x
                  · have e1 : (u == x) = true := by simpa using hux
                    clear hux
                    go_wp2_with fail
                    refine ⟨⟨k + 1, congrArg (Value.int .i64) HK1.out.2.2.2, HK1.out.1, HXO.out⟩, ?_⟩
                    show G.nodes.length - ((k : Int) + 1).toNat < G.nodes.length - (k : Int).toNat
                    rw [HK1.out.2.2.1]
                    exact HK1.out.2.1
                  · have e1 : (u == x) = false := by simpa using hux
                    have HKV := Lib.hid (fun V hV => HKW.out V hV rfl hux)
                    clear hux HKW
                    obtain ⟨bl, hbl⟩ : ∃ bl, bl = ltO D rr := ⟨_, rfl⟩
                    rw [← hbl] at hlt2 HKV
                    clear hbl
                    cases bl with
                    | true =>
                      simp only [Bool.true_or] at HKV
                      go_upto_region 15 with (fail)
                      clear g0 g1 n0 n1
                      refine wp_region_held_drew (S := fun V => WiS V dg k hg i d1 d2 y) (by kernel_rfl) (HSS.out _ (Below.drew (Below.refl _ _))) (fun hH => ?_)
                      have hs0 := HSS.out _ (Below.drew (Below.refl _ _))
                      have B0' : Hid (Below wo.heap.size wo wo.drew) := Lib.hid (Below.drew (Below.refl _ _))
                      generalize wo.drew = V0 at *
                      refine tk 0 (by assumption) rfl (by kernel_rfl) (fun _ _ _ h => h) (fun V hV => by go_simp; try with_reducible rfl) ?_
                      try simp only [Act.put, List.setIfInBounds_toArray, List.set_cons_zero, List.set_cons_succ, List.getElem_toArray, List.getElem_cons_succ, List.getElem_cons_zero]
                      refine tk 1 (by assumption) rfl (by kernel_rfl) (fun _ _ _ h => h) (fun V hV => by go_simp; try with_reducible rfl) ?_
                      try simp only [Act.put, List.setIfInBounds_toArray, List.set_cons_zero, List.set_cons_succ, List.getElem_toArray, List.getElem_cons_succ, List.getElem_cons_zero]
                      refine tk 2 (by assumption) rfl (by kernel_rfl) (fun _ _ _ h => h) (fun V hV => by go_simp; try with_reducible rfl) ?_
                      try simp only [Act.put, List.setIfInBounds_toArray, List.set_cons_zero, List.set_cons_succ, List.getElem_toArray, List.getElem_cons_succ, List.getElem_cons_zero]
                      refine tk 3 (by assumption) rfl (by kernel_rfl) (fun _ _ _ h => h) (fun V hV => by obtain ⟨hx0, hx1, hx2⟩ := hV; go_simp; try with_reducible rfl) ?_
                      try simp only [Act.put, List.setIfInBounds_toArray, List.set_cons_zero, List.set_cons_succ, List.getElem_toArray, List.getElem_cons_succ, List.getElem_cons_zero]
                      refine tk 4 (by assumption) rfl (by kernel_rfl) (fun _ _ _ h => h) (fun V hV => by go_simp; try with_reducible rfl) ?_
                      try simp only [Act.put, List.setIfInBounds_toArray, List.set_cons_zero, List.set_cons_succ, List.getElem_toArray, List.getElem_cons_succ, List.getElem_cons_zero]
                      refine tk 5 (by assumption) rfl (by kernel_rfl) (fun _ _ _ h => h) (fun V hV => by go_simp; try with_reducible rfl) ?_
                      try simp only [Act.put, List.setIfInBounds_toArray, List.set_cons_zero, List.set_cons_succ, List.getElem_toArray, List.getElem_cons_succ, List.getElem_cons_zero]
                      refine tk 6 (by assumption) rfl (by kernel_rfl) (fun _ _ _ h => h) (fun V hV => by go_simp; try with_reducible rfl) ?_
                      try simp only [Act.put, List.setIfInBounds_toArray, List.set_cons_zero, List.set_cons_succ, List.getElem_toArray, List.getElem_cons_succ, List.getElem_cons_zero]
                      refine tk 7 (by assumption) rfl (by kernel_rfl) (fun _ _ _ h => h) (fun V hV => by go_simp; try with_reducible rfl) ?_
                      try simp only [Act.put, List.setIfInBounds_toArray, List.set_cons_zero, List.set_cons_succ, List.getElem_toArray, List.getElem_cons_succ, List.getElem_cons_zero]
                      refine tk 8 (by assumption) rfl (by kernel_rfl) (fun _ _ _ h => h) (fun V hV => by obtain ⟨hx0, hx1, hx2⟩ := hV; go_simp; try with_reducible rfl) ?_
                      try simp only [Act.put, List.setIfInBounds_toArray, List.set_cons_zero, List.set_cons_succ, List.getElem_toArray, List.getElem_cons_succ, List.getElem_cons_zero]
                      refine tk 9 (by assumption) rfl (by kernel_rfl) (fun _ _ _ h => h) (fun V hV => by go_simp; try with_reducible rfl) ?_
                      try simp only [Act.put, List.setIfInBounds_toArray, List.set_cons_zero, List.set_cons_succ, List.getElem_toArray, List.getElem_cons_succ, List.getElem_cons_zero]
                      refine tk 10 (by assumption) rfl (by kernel_rfl) (fun _ _ _ h => h) (fun V hV => by go_simp; try with_reducible rfl) ?_
                      try simp only [Act.put, List.setIfInBounds_toArray, List.set_cons_zero, List.set_cons_succ, List.getElem_toArray, List.getElem_cons_succ, List.getElem_cons_zero]
                      refine wpAnyH_take (i := 11) (oi := _) (v := undef) rfl (by kernel_rfl) (by kernel_rfl) (by kernel_rfl) (fun _ _ _ h => h) (Or.inr ⟨by kernel_rfl, rfl⟩) (by assumption) ?_
                      try simp only [Act.put, List.setIfInBounds_toArray, List.set_cons_zero, List.set_cons_succ, List.getElem_toArray, List.getElem_cons_succ, List.getElem_cons_zero]
                      refine wpAnyH_take (i := 12) (oi := _) (v := undef) rfl (by kernel_rfl) (by kernel_rfl) (by kernel_rfl) (fun _ _ _ h => h) (Or.inr ⟨by kernel_rfl, rfl⟩) (by assumption) ?_
                      try simp only [Act.put, List.setIfInBounds_toArray, List.set_cons_zero, List.set_cons_succ, List.getElem_toArray, List.getElem_cons_succ, List.getElem_cons_zero]
                      refine wpAnyH_take (i := 13) (oi := _) (v := undef) rfl (by kernel_rfl) (by kernel_rfl) (by kernel_rfl) (fun _ _ _ h => h) (Or.inr ⟨by kernel_rfl, rfl⟩) (by assumption) ?_
                      try simp only [Act.put, List.setIfInBounds_toArray, List.set_cons_zero, List.set_cons_succ, List.getElem_toArray, List.getElem_cons_succ, List.getElem_cons_zero]
                      refine wpAnyH_take (i := 14) (oi := _) (v := undef) rfl (by kernel_rfl) (by kernel_rfl) (by kernel_rfl) (fun _ _ _ h => h) (Or.inr ⟨by kernel_rfl, rfl⟩) (by assumption) ?_
                      try simp only [Act.put, List.setIfInBounds_toArray, List.set_cons_zero, List.set_cons_succ, List.getElem_toArray, List.getElem_cons_succ, List.getElem_cons_zero]
                      refine wpAnyH_take (i := 15) (oi := _) (v := undef) rfl (by kernel_rfl) (by kernel_rfl) (by kernel_rfl) (fun _ _ _ h => h) (Or.inr ⟨by kernel_rfl, rfl⟩) (by assumption) ?_
                      try simp only [Act.put, List.setIfInBounds_toArray, List.set_cons_zero, List.set_cons_succ, List.getElem_toArray, List.getElem_cons_succ, List.getElem_cons_zero]
                      refine wpAnyH_take (i := 16) (oi := _) (v := undef) rfl (by kernel_rfl) (by kernel_rfl) (by kernel_rfl) (fun _ _ _ h => h) (Or.inr ⟨by kernel_rfl, rfl⟩) (by assumption) ?_
                      try simp only [Act.put, List.setIfInBounds_toArray, List.set_cons_zero, List.set_cons_succ, List.getElem_toArray, List.getElem_cons_succ, List.getElem_cons_zero]
                      refine wpAnyH_take (i := 17) (oi := _) (v := undef) rfl (by kernel_rfl) (by kernel_rfl) (by kernel_rfl) (fun _ _ _ h => h) (Or.inr ⟨by kernel_rfl, rfl⟩) (by assumption) ?_
                      try simp only [Act.put, List.setIfInBounds_toArray, List.set_cons_zero, List.set_cons_succ, List.getElem_toArray, List.getElem_cons_succ, List.getElem_cons_zero]
                      refine wpAnyH_take (i := 18) (oi := _) (v := undef) rfl (by kernel_rfl) (by kernel_rfl) (by kernel_rfl) (fun _ _ _ h => h) (Or.inr ⟨by kernel_rfl, rfl⟩) (by assumption) ?_
                      try simp only [Act.put, List.setIfInBounds_toArray, List.set_cons_zero, List.set_cons_succ, List.getElem_toArray, List.getElem_cons_succ, List.getElem_cons_zero]
                      refine wpAnyH_take (i := 19) (oi := _) (v := undef) rfl (by kernel_rfl) (by kernel_rfl) (by kernel_rfl) (fun _ _ _ h => h) (Or.inr ⟨by kernel_rfl, rfl⟩) (by assumption) ?_
                      try simp only [Act.put, List.setIfInBounds_toArray, List.set_cons_zero, List.set_cons_succ, List.getElem_toArray, List.getElem_cons_succ, List.getElem_cons_zero]
                      refine wpAnyH_take (i := 20) (oi := _) (v := undef) rfl (by kernel_rfl) (by kernel_rfl) (by kernel_rfl) (fun _ _ _ h => h) (Or.inr ⟨by kernel_rfl, rfl⟩) (by assumption) ?_
                      try simp only [Act.put, List.setIfInBounds_toArray, List.set_cons_zero, List.set_cons_succ, List.getElem_toArray, List.getElem_cons_succ, List.getElem_cons_zero]
                      refine wpAnyH_take (i := 21) (oi := _) (v := undef) rfl (by kernel_rfl) (by kernel_rfl) (by kernel_rfl) (fun _ _ _ h => h) (Or.inr ⟨by kernel_rfl, rfl⟩) (by assumption) ?_
                      try simp only [Act.put, List.setIfInBounds_toArray, List.set_cons_zero, List.set_cons_succ, List.getElem_toArray, List.getElem_cons_succ, List.getElem_cons_zero]
                      refine wpAnyH_take (i := 22) (oi := _) (v := undef) rfl (by kernel_rfl) (by kernel_rfl) (by kernel_rfl) (fun _ _ _ h => h) (Or.inr ⟨by kernel_rfl, rfl⟩) (by assumption) ?_
                      try simp only [Act.put, List.setIfInBounds_toArray, List.set_cons_zero, List.set_cons_succ, List.getElem_toArray, List.getElem_cons_succ, List.getElem_cons_zero]
                      refine wpAnyH_take (i := 23) (oi := _) (v := undef) rfl (by kernel_rfl) (by kernel_rfl) (by kernel_rfl) (fun _ _ _ h => h) (Or.inr ⟨by kernel_rfl, rfl⟩) (by assumption) ?_
                      try simp only [Act.put, List.setIfInBounds_toArray, List.set_cons_zero, List.set_cons_succ, List.getElem_toArray, List.getElem_cons_succ, List.getElem_cons_zero]
                      refine wpAnyH_take (i := 24) (oi := _) (v := undef) rfl (by kernel_rfl) (by kernel_rfl) (by kernel_rfl) (fun _ _ _ h => h) (Or.inr ⟨by kernel_rfl, rfl⟩) (by assumption) ?_
                      try simp only [Act.put, List.setIfInBounds_toArray, List.set_cons_zero, List.set_cons_succ, List.getElem_toArray, List.getElem_cons_succ, List.getElem_cons_zero]
                      refine wpAnyH_take (i := 25) (oi := _) (v := undef) rfl (by kernel_rfl) (by kernel_rfl) (by kernel_rfl) (fun _ _ _ h => h) (Or.inr ⟨by kernel_rfl, rfl⟩) (by assumption) ?_
                      try simp only [Act.put, List.setIfInBounds_toArray, List.set_cons_zero, List.set_cons_succ, List.getElem_toArray, List.getElem_cons_succ, List.getElem_cons_zero]
                      refine wpAnyH_take (i := 26) (oi := _) (v := undef) rfl (by kernel_rfl) (by kernel_rfl) (by kernel_rfl) (fun _ _ _ h => h) (Or.inr ⟨by kernel_rfl, rfl⟩) (by assumption) ?_
                      try simp only [Act.put, List.setIfInBounds_toArray, List.set_cons_zero, List.set_cons_succ, List.getElem_toArray, List.getElem_cons_succ, List.getElem_cons_zero]
                      refine wpAnyH_take (i := 27) (oi := _) (v := undef) rfl (by kernel_rfl) (by kernel_rfl) (by kernel_rfl) (fun _ _ _ h => h) (Or.inr ⟨by kernel_rfl, rfl⟩) (by assumption) ?_
                      try simp only [Act.put, List.setIfInBounds_toArray, List.set_cons_zero, List.set_cons_succ, List.getElem_toArray, List.getElem_cons_succ, List.getElem_cons_zero]
                      refine wpAnyH_take (i := 28) (oi := _) (v := undef) rfl (by kernel_rfl) (by kernel_rfl) (by kernel_rfl) (fun _ _ _ h => h) (Or.inr ⟨by kernel_rfl, rfl⟩) (by assumption) ?_
                      try simp only [Act.put, List.setIfInBounds_toArray, List.set_cons_zero, List.set_cons_succ, List.getElem_toArray, List.getElem_cons_succ, List.getElem_cons_zero]
                      refine wpAnyH_take (i := 29) (oi := _) (v := undef) rfl (by kernel_rfl) (by kernel_rfl) (by kernel_rfl) (fun _ _ _ h => h) (Or.inr ⟨by kernel_rfl, rfl⟩) (by assumption) ?_
                      try simp only [Act.put, List.setIfInBounds_toArray, List.set_cons_zero, List.set_cons_succ, List.getElem_toArray, List.getElem_cons_succ, List.getElem_cons_zero]
                      refine wpAnyH_take (i := 30) (oi := _) (v := undef) rfl (by kernel_rfl) (by kernel_rfl) (by kernel_rfl) (fun _ _ _ h => h) (Or.inr ⟨by kernel_rfl, rfl⟩) (by assumption) ?_
                      try simp only [Act.put, List.setIfInBounds_toArray, List.set_cons_zero, List.set_cons_succ, List.getElem_toArray, List.getElem_cons_succ, List.getElem_cons_zero]
                      refine wpAnyH_take (i := 31) (oi := _) (v := undef) rfl (by kernel_rfl) (by kernel_rfl) (by kernel_rfl) (fun _ _ _ h => h) (Or.inr ⟨by kernel_rfl, rfl⟩) (by assumption) ?_
                      try simp only [Act.put, List.setIfInBounds_toArray, List.set_cons_zero, List.set_cons_succ, List.getElem_toArray, List.getElem_cons_succ, List.getElem_cons_zero]
                      refine wpAnyH_take (i := 32) (oi := _) (v := undef) rfl (by kernel_rfl) (by kernel_rfl) (by kernel_rfl) (fun _ _ _ h => h) (Or.inr ⟨by kernel_rfl, rfl⟩) (by assumption) ?_
                      try simp only [Act.put, List.setIfInBounds_toArray, List.set_cons_zero, List.set_cons_succ, List.getElem_toArray, List.getElem_cons_succ, List.getElem_cons_zero]
                      refine wpAnyH_take (i := 33) (oi := _) (v := undef) rfl (by kernel_rfl) (by kernel_rfl) (by kernel_rfl) (fun _ _ _ h => h) (Or.inr ⟨by kernel_rfl, rfl⟩) (by assumption) ?_
                      try simp only [Act.put, List.setIfInBounds_toArray, List.set_cons_zero, List.set_cons_succ, List.getElem_toArray, List.getElem_cons_succ, List.getElem_cons_zero]
                      refine wpAnyH_take (i := 34) (oi := _) (v := undef) rfl (by kernel_rfl) (by kernel_rfl) (by kernel_rfl) (fun _ _ _ h => h) (Or.inr ⟨by kernel_rfl, rfl⟩) (by assumption) ?_
                      try simp only [Act.put, List.setIfInBounds_toArray, List.set_cons_zero, List.set_cons_succ, List.getElem_toArray, List.getElem_cons_succ, List.getElem_cons_zero]
                      refine tk 35 (by assumption) rfl (by kernel_rfl) (fun _ _ _ h => h) (fun V hV => by go_simp; try with_reducible rfl) ?_
                      try simp only [Act.put, List.setIfInBounds_toArray, List.set_cons_zero, List.set_cons_succ, List.getElem_toArray, List.getElem_cons_succ, List.getElem_cons_zero]
                      refine tk 36 (by assumption) rfl (by kernel_rfl) (fun _ _ _ h => h) (fun V hV => by go_simp; try with_reducible rfl) ?_
                      try simp only [Act.put, List.setIfInBounds_toArray, List.set_cons_zero, List.set_cons_succ, List.getElem_toArray, List.getElem_cons_succ, List.getElem_cons_zero]
                      refine wpAnyH_done (by kernel_rfl) ?_ _
                      have HX9 := Lib.hid (gNx HX1.out B0'.out)
                      have HKC := Lib.hid (HKV.out _ HX9.out)
                      obtain ⟨g0, g1⟩ := HKG.out _ HX9.out
                      clear hs0
                      go_wp2_with fail
                      refine HKC.out.mono ?_
                      rintro e w9 ⟨rfl, hb9⟩
                      have HX10 := Lib.hid (gNx (gNx HXO.out B0'.out) hb9)
                      clear hb9 g0 g1
                      go_wp2_with fail
                      refine ⟨⟨k + 1, congrArg (Value.int .i64) HK1.out.2.2.2, HK1.out.1, HX10.out⟩, ?_⟩
                      show G.nodes.length - ((k : Int) + 1).toNat < G.nodes.length - (k : Int).toNat
                      rw [HK1.out.2.2.1]
                      exact HK1.out.2.1
                    | false =>
                      cases D with
                      | none =>
                        simp only [Option.isSome_none, Bool.false_and, Bool.or_false] at HKV
                        simp only [Option.isNone_none] at HFR
                        go_upto_region 15 with (fail)
                        clear g0 g1 n0 n1
                        refine wp_region_held_drew (S := fun V => WiS V dg k hg i d1 d2 y) (by kernel_rfl) (HSS.out _ (Below.drew (Below.refl _ _))) (fun hH => ?_)
                        have hs0 := HSS.out _ (Below.drew (Below.refl _ _))
                        have B0' : Hid (Below wo.heap.size wo wo.drew) := Lib.hid (Below.drew (Below.refl _ _))
                        generalize wo.drew = V0 at *
                        refine tk 0 (by assumption) rfl (by kernel_rfl) (fun _ _ _ h => h) (fun V hV => by go_simp; try with_reducible rfl) ?_
                        try simp only [Act.put, List.setIfInBounds_toArray, List.set_cons_zero, List.set_cons_succ, List.getElem_toArray, List.getElem_cons_succ, List.getElem_cons_zero]
                        refine tk 1 (by assumption) rfl (by kernel_rfl) (fun _ _ _ h => h) (fun V hV => by go_simp; try with_reducible rfl) ?_
                        try simp only [Act.put, List.setIfInBounds_toArray, List.set_cons_zero, List.set_cons_succ, List.getElem_toArray, List.getElem_cons_succ, List.getElem_cons_zero]
                        refine tk 2 (by assumption) rfl (by kernel_rfl) (fun _ _ _ h => h) (fun V hV => by go_simp; try with_reducible rfl) ?_
                        try simp only [Act.put, List.setIfInBounds_toArray, List.set_cons_zero, List.set_cons_succ, List.getElem_toArray, List.getElem_cons_succ, List.getElem_cons_zero]
                        refine tk 3 (by assumption) rfl (by kernel_rfl) (fun _ _ _ h => h) (fun V hV => by obtain ⟨hx0, hx1, hx2⟩ := hV; go_simp; try with_reducible rfl) ?_
                        try simp only [Act.put, List.setIfInBounds_toArray, List.set_cons_zero, List.set_cons_succ, List.getElem_toArray, List.getElem_cons_succ, List.getElem_cons_zero]
                        refine tk 4 (by assumption) rfl (by kernel_rfl) (fun _ _ _ h => h) (fun V hV => by go_simp; try with_reducible rfl) ?_
                        try simp only [Act.put, List.setIfInBounds_toArray, List.set_cons_zero, List.set_cons_succ, List.getElem_toArray, List.getElem_cons_succ, List.getElem_cons_zero]
                        refine tk 5 (by assumption) rfl (by kernel_rfl) (fun _ _ _ h => h) (fun V hV => by go_simp; try with_reducible rfl) ?_
                        try simp only [Act.put, List.setIfInBounds_toArray, List.set_cons_zero, List.set_cons_succ, List.getElem_toArray, List.getElem_cons_succ, List.getElem_cons_zero]
                        refine tk 6 (by assumption) rfl (by kernel_rfl) (fun _ _ _ h => h) (fun V hV => by go_simp; try with_reducible rfl) ?_
                        try simp only [Act.put, List.setIfInBounds_toArray, List.set_cons_zero, List.set_cons_succ, List.getElem_toArray, List.getElem_cons_succ, List.getElem_cons_zero]
                        refine tk 7 (by assumption) rfl (by kernel_rfl) (fun _ _ _ h => h) (fun V hV => by go_simp; try with_reducible rfl) ?_
                        try simp only [Act.put, List.setIfInBounds_toArray, List.set_cons_zero, List.set_cons_succ, List.getElem_toArray, List.getElem_cons_succ, List.getElem_cons_zero]
                        refine tk 8 (by assumption) rfl (by kernel_rfl) (fun _ _ _ h => h) (fun V hV => by obtain ⟨hx0, hx1, hx2⟩ := hV; go_simp; try with_reducible rfl) ?_
                        try simp only [Act.put, List.setIfInBounds_toArray, List.set_cons_zero, List.set_cons_succ, List.getElem_toArray, List.getElem_cons_succ, List.getElem_cons_zero]
                        refine tk 9 (by assumption) rfl (by kernel_rfl) (fun _ _ _ h => h) (fun V hV => by go_simp; try with_reducible rfl) ?_
                        try simp only [Act.put, List.setIfInBounds_toArray, List.set_cons_zero, List.set_cons_succ, List.getElem_toArray, List.getElem_cons_succ, List.getElem_cons_zero]
                        refine tk 10 (by assumption) rfl (by kernel_rfl) (fun _ _ _ h => h) (fun V hV => by go_simp; try with_reducible rfl) ?_
                        try simp only [Act.put, List.setIfInBounds_toArray, List.set_cons_zero, List.set_cons_succ, List.getElem_toArray, List.getElem_cons_succ, List.getElem_cons_zero]
                        refine tk 11 (by assumption) rfl (by kernel_rfl) (fun _ _ _ h => h) (fun V hV => by go_simp; try with_reducible rfl) ?_
                        try simp only [Act.put, List.setIfInBounds_toArray, List.set_cons_zero, List.set_cons_succ, List.getElem_toArray, List.getElem_cons_succ, List.getElem_cons_zero]
                        refine tk 12 (by assumption) rfl (by kernel_rfl) (fun _ _ _ h => h) (fun V hV => by go_simp; try with_reducible rfl) ?_
                        try simp only [Act.put, List.setIfInBounds_toArray, List.set_cons_zero, List.set_cons_succ, List.getElem_toArray, List.getElem_cons_succ, List.getElem_cons_zero]
                        refine tk 13 (by assumption) rfl (by kernel_rfl) (fun _ _ _ h => h) (fun V hV => by go_simp; try with_reducible rfl) ?_
                        try simp only [Act.put, List.setIfInBounds_toArray, List.set_cons_zero, List.set_cons_succ, List.getElem_toArray, List.getElem_cons_succ, List.getElem_cons_zero]
                        refine tk 14 (by assumption) rfl (by kernel_rfl) (fun _ _ _ h => h) (fun V hV => by obtain ⟨hx0, hx1, hx2⟩ := hV; go_simp; try with_reducible rfl) ?_
                        try simp only [Act.put, List.setIfInBounds_toArray, List.set_cons_zero, List.set_cons_succ, List.getElem_toArray, List.getElem_cons_succ, List.getElem_cons_zero]
                        refine wpAnyH_ready (rs := [15]) (by kernel_rfl) (by simp) ?_
                        refine AllReadyH.cons (o := _) rfl (fun K hK => ?_) AllReadyH.nil
                        go_simp
                        refine (HFR.out _).mono ?_
                        rintro e w' ⟨rfl, rfl⟩
                        go_wp2_with fail
                        refine hK.out _ _ (HSS.out _ B0'.out) (fun hH => ?_)
                        clear hK K
                        try simp only [Act.put, List.setIfInBounds_toArray, List.set_cons_zero, List.set_cons_succ, List.getElem_toArray, List.getElem_cons_succ, List.getElem_cons_zero]
                        refine tk 16 (by assumption) rfl (by kernel_rfl) (fun _ _ _ h => h) (fun V hV => by go_simp; try with_reducible rfl) ?_
                        try simp only [Act.put, List.setIfInBounds_toArray, List.set_cons_zero, List.set_cons_succ, List.getElem_toArray, List.getElem_cons_succ, List.getElem_cons_zero]
                        refine tk 17 (by assumption) rfl (by kernel_rfl) (fun _ _ _ h => h) (fun V hV => by go_simp; try with_reducible rfl) ?_
                        try simp only [Act.put, List.setIfInBounds_toArray, List.set_cons_zero, List.set_cons_succ, List.getElem_toArray, List.getElem_cons_succ, List.getElem_cons_zero]
                        refine wpAnyH_take (i := 18) (oi := _) (v := undef) rfl (by kernel_rfl) (by kernel_rfl) (by kernel_rfl) (fun _ _ _ h => h) (Or.inr ⟨by kernel_rfl, rfl⟩) (by assumption) ?_
                        try simp only [Act.put, List.setIfInBounds_toArray, List.set_cons_zero, List.set_cons_succ, List.getElem_toArray, List.getElem_cons_succ, List.getElem_cons_zero]
                        refine wpAnyH_take (i := 19) (oi := _) (v := undef) rfl (by kernel_rfl) (by kernel_rfl) (by kernel_rfl) (fun _ _ _ h => h) (Or.inr ⟨by kernel_rfl, rfl⟩) (by assumption) ?_
                        try simp only [Act.put, List.setIfInBounds_toArray, List.set_cons_zero, List.set_cons_succ, List.getElem_toArray, List.getElem_cons_succ, List.getElem_cons_zero]
                        refine wpAnyH_take (i := 20) (oi := _) (v := undef) rfl (by kernel_rfl) (by kernel_rfl) (by kernel_rfl) (fun _ _ _ h => h) (Or.inr ⟨by kernel_rfl, rfl⟩) (by assumption) ?_
                        try simp only [Act.put, List.setIfInBounds_toArray, List.set_cons_zero, List.set_cons_succ, List.getElem_toArray, List.getElem_cons_succ, List.getElem_cons_zero]
                        refine wpAnyH_take (i := 21) (oi := _) (v := undef) rfl (by kernel_rfl) (by kernel_rfl) (by kernel_rfl) (fun _ _ _ h => h) (Or.inr ⟨by kernel_rfl, rfl⟩) (by assumption) ?_
                        try simp only [Act.put, List.setIfInBounds_toArray, List.set_cons_zero, List.set_cons_succ, List.getElem_toArray, List.getElem_cons_succ, List.getElem_cons_zero]
                        refine wpAnyH_take (i := 22) (oi := _) (v := undef) rfl (by kernel_rfl) (by kernel_rfl) (by kernel_rfl) (fun _ _ _ h => h) (Or.inr ⟨by kernel_rfl, rfl⟩) (by assumption) ?_
                        try simp only [Act.put, List.setIfInBounds_toArray, List.set_cons_zero, List.set_cons_succ, List.getElem_toArray, List.getElem_cons_succ, List.getElem_cons_zero]
                        refine wpAnyH_take (i := 23) (oi := _) (v := undef) rfl (by kernel_rfl) (by kernel_rfl) (by kernel_rfl) (fun _ _ _ h => h) (Or.inr ⟨by kernel_rfl, rfl⟩) (by assumption) ?_
                        try simp only [Act.put, List.setIfInBounds_toArray, List.set_cons_zero, List.set_cons_succ, List.getElem_toArray, List.getElem_cons_succ, List.getElem_cons_zero]
                        refine wpAnyH_take (i := 24) (oi := _) (v := undef) rfl (by kernel_rfl) (by kernel_rfl) (by kernel_rfl) (fun _ _ _ h => h) (Or.inr ⟨by kernel_rfl, rfl⟩) (by assumption) ?_
                        try simp only [Act.put, List.setIfInBounds_toArray, List.set_cons_zero, List.set_cons_succ, List.getElem_toArray, List.getElem_cons_succ, List.getElem_cons_zero]
                        refine wpAnyH_take (i := 25) (oi := _) (v := undef) rfl (by kernel_rfl) (by kernel_rfl) (by kernel_rfl) (fun _ _ _ h => h) (Or.inr ⟨by kernel_rfl, rfl⟩) (by assumption) ?_
                        try simp only [Act.put, List.setIfInBounds_toArray, List.set_cons_zero, List.set_cons_succ, List.getElem_toArray, List.getElem_cons_succ, List.getElem_cons_zero]
                        refine wpAnyH_take (i := 26) (oi := _) (v := undef) rfl (by kernel_rfl) (by kernel_rfl) (by kernel_rfl) (fun _ _ _ h => h) (Or.inr ⟨by kernel_rfl, rfl⟩) (by assumption) ?_
                        try simp only [Act.put, List.setIfInBounds_toArray, List.set_cons_zero, List.set_cons_succ, List.getElem_toArray, List.getElem_cons_succ, List.getElem_cons_zero]
                        refine wpAnyH_take (i := 27) (oi := _) (v := undef) rfl (by kernel_rfl) (by kernel_rfl) (by kernel_rfl) (fun _ _ _ h => h) (Or.inr ⟨by kernel_rfl, rfl⟩) (by assumption) ?_
                        try simp only [Act.put, List.setIfInBounds_toArray, List.set_cons_zero, List.set_cons_succ, List.getElem_toArray, List.getElem_cons_succ, List.getElem_cons_zero]
                        refine wpAnyH_take (i := 28) (oi := _) (v := undef) rfl (by kernel_rfl) (by kernel_rfl) (by kernel_rfl) (fun _ _ _ h => h) (Or.inr ⟨by kernel_rfl, rfl⟩) (by assumption) ?_
                        try simp only [Act.put, List.setIfInBounds_toArray, List.set_cons_zero, List.set_cons_succ, List.getElem_toArray, List.getElem_cons_succ, List.getElem_cons_zero]
                        refine wpAnyH_take (i := 29) (oi := _) (v := undef) rfl (by kernel_rfl) (by kernel_rfl) (by kernel_rfl) (fun _ _ _ h => h) (Or.inr ⟨by kernel_rfl, rfl⟩) (by assumption) ?_
                        try simp only [Act.put, List.setIfInBounds_toArray, List.set_cons_zero, List.set_cons_succ, List.getElem_toArray, List.getElem_cons_succ, List.getElem_cons_zero]
                        refine wpAnyH_take (i := 30) (oi := _) (v := undef) rfl (by kernel_rfl) (by kernel_rfl) (by kernel_rfl) (fun _ _ _ h => h) (Or.inr ⟨by kernel_rfl, rfl⟩) (by assumption) ?_
                        try simp only [Act.put, List.setIfInBounds_toArray, List.set_cons_zero, List.set_cons_succ, List.getElem_toArray, List.getElem_cons_succ, List.getElem_cons_zero]
                        refine wpAnyH_take (i := 31) (oi := _) (v := undef) rfl (by kernel_rfl) (by kernel_rfl) (by kernel_rfl) (fun _ _ _ h => h) (Or.inr ⟨by kernel_rfl, rfl⟩) (by assumption) ?_
                        try simp only [Act.put, List.setIfInBounds_toArray, List.set_cons_zero, List.set_cons_succ, List.getElem_toArray, List.getElem_cons_succ, List.getElem_cons_zero]
                        refine wpAnyH_take (i := 32) (oi := _) (v := undef) rfl (by kernel_rfl) (by kernel_rfl) (by kernel_rfl) (fun _ _ _ h => h) (Or.inr ⟨by kernel_rfl, rfl⟩) (by assumption) ?_
                        try simp only [Act.put, List.setIfInBounds_toArray, List.set_cons_zero, List.set_cons_succ, List.getElem_toArray, List.getElem_cons_succ, List.getElem_cons_zero]
                        refine wpAnyH_take (i := 33) (oi := _) (v := undef) rfl (by kernel_rfl) (by kernel_rfl) (by kernel_rfl) (fun _ _ _ h => h) (Or.inr ⟨by kernel_rfl, rfl⟩) (by assumption) ?_
                        try simp only [Act.put, List.setIfInBounds_toArray, List.set_cons_zero, List.set_cons_succ, List.getElem_toArray, List.getElem_cons_succ, List.getElem_cons_zero]
                        refine tk 34 (by assumption) rfl (by kernel_rfl) (fun _ _ _ h => h) (fun V hV => by go_simp; try with_reducible rfl) ?_
                        try simp only [Act.put, List.setIfInBounds_toArray, List.set_cons_zero, List.set_cons_succ, List.getElem_toArray, List.getElem_cons_succ, List.getElem_cons_zero]
                        refine tk 35 (by assumption) rfl (by kernel_rfl) (fun _ _ _ h => h) (fun V hV => by go_simp; try with_reducible rfl) ?_
                        try simp only [Act.put, List.setIfInBounds_toArray, List.set_cons_zero, List.set_cons_succ, List.getElem_toArray, List.getElem_cons_succ, List.getElem_cons_zero]
                        refine tk 36 (by assumption) rfl (by kernel_rfl) (fun _ _ _ h => h) (fun V hV => by go_simp; try with_reducible rfl) ?_
                        try simp only [Act.put, List.setIfInBounds_toArray, List.set_cons_zero, List.set_cons_succ, List.getElem_toArray, List.getElem_cons_succ, List.getElem_cons_zero]
                        refine wpAnyH_done (by kernel_rfl) ?_ _
                        have HX9 := Lib.hid (gNx HX1.out B0'.out)
                        have HKC := Lib.hid (HKV.out _ HX9.out)
                        obtain ⟨g0, g1⟩ := HKG.out _ HX9.out
                        clear hs0
                        go_wp2_with fail
                        refine HKC.out.mono ?_
                        rintro e w9 ⟨rfl, hb9⟩
                        have HX10 := Lib.hid (gNx (gNx HXO.out B0'.out) hb9)
                        clear hb9 g0 g1
                        go_wp2_with fail
                        refine ⟨⟨k + 1, congrArg (Value.int .i64) HK1.out.2.2.2, HK1.out.1, HX10.out⟩, ?_⟩
                        show G.nodes.length - ((k : Int) + 1).toNat < G.nodes.length - (k : Int).toNat
                        rw [HK1.out.2.2.1]
                        exact HK1.out.2.1
                      | some n =>
                        simp only [Option.isSome_some, Bool.true_and, Bool.false_or] at HKV
                        simp only [Option.isNone_some] at HFR
                        by_cases huy : u = y
                        · have e2 : (u == y) = true := by simpa using huy
                          rw [e2, Bool.true_or] at HKV
                          clear huy
                          go_upto_region 15 with (fail)
                          clear g0 g1 n0 n1
                          refine wp_region_held_drew (S := fun V => WiS V dg k hg i d1 d2 y) (by kernel_rfl) (HSS.out _ (Below.drew (Below.refl _ _))) (fun hH => ?_)
                          have hs0 := HSS.out _ (Below.drew (Below.refl _ _))
                          have B0' : Hid (Below wo.heap.size wo wo.drew) := Lib.hid (Below.drew (Below.refl _ _))
                          generalize wo.drew = V0 at *
                          refine tk 0 (by assumption) rfl (by kernel_rfl) (fun _ _ _ h => h) (fun V hV => by go_simp; try with_reducible rfl) ?_
                          try simp only [Act.put, List.setIfInBounds_toArray, List.set_cons_zero, List.set_cons_succ, List.getElem_toArray, List.getElem_cons_succ, List.getElem_cons_zero]
                          refine tk 1 (by assumption) rfl (by kernel_rfl) (fun _ _ _ h => h) (fun V hV => by go_simp; try with_reducible rfl) ?_
                          try simp only [Act.put, List.setIfInBounds_toArray, List.set_cons_zero, List.set_cons_succ, List.getElem_toArray, List.getElem_cons_succ, List.getElem_cons_zero]
                          refine tk 2 (by assumption) rfl (by kernel_rfl) (fun _ _ _ h => h) (fun V hV => by go_simp; try with_reducible rfl) ?_
                          try simp only [Act.put, List.setIfInBounds_toArray, List.set_cons_zero, List.set_cons_succ, List.getElem_toArray, List.getElem_cons_succ, List.getElem_cons_zero]
                          refine tk 3 (by assumption) rfl (by kernel_rfl) (fun _ _ _ h => h) (fun V hV => by obtain ⟨hx0, hx1, hx2⟩ := hV; go_simp; try with_reducible rfl) ?_
                          try simp only [Act.put, List.setIfInBounds_toArray, List.set_cons_zero, List.set_cons_succ, List.getElem_toArray, List.getElem_cons_succ, List.getElem_cons_zero]
                          refine tk 4 (by assumption) rfl (by kernel_rfl) (fun _ _ _ h => h) (fun V hV => by go_simp; try with_reducible rfl) ?_
                          try simp only [Act.put, List.setIfInBounds_toArray, List.set_cons_zero, List.set_cons_succ, List.getElem_toArray, List.getElem_cons_succ, List.getElem_cons_zero]
                          refine tk 5 (by assumption) rfl (by kernel_rfl) (fun _ _ _ h => h) (fun V hV => by go_simp; try with_reducible rfl) ?_
                          try simp only [Act.put, List.setIfInBounds_toArray, List.set_cons_zero, List.set_cons_succ, List.getElem_toArray, List.getElem_cons_succ, List.getElem_cons_zero]
                          refine tk 6 (by assumption) rfl (by kernel_rfl) (fun _ _ _ h => h) (fun V hV => by go_simp; try with_reducible rfl) ?_
                          try simp only [Act.put, List.setIfInBounds_toArray, List.set_cons_zero, List.set_cons_succ, List.getElem_toArray, List.getElem_cons_succ, List.getElem_cons_zero]
                          refine tk 7 (by assumption) rfl (by kernel_rfl) (fun _ _ _ h => h) (fun V hV => by go_simp; try with_reducible rfl) ?_
                          try simp only [Act.put, List.setIfInBounds_toArray, List.set_cons_zero, List.set_cons_succ, List.getElem_toArray, List.getElem_cons_succ, List.getElem_cons_zero]
                          refine tk 8 (by assumption) rfl (by kernel_rfl) (fun _ _ _ h => h) (fun V hV => by obtain ⟨hx0, hx1, hx2⟩ := hV; go_simp; try with_reducible rfl) ?_
                          try simp only [Act.put, List.setIfInBounds_toArray, List.set_cons_zero, List.set_cons_succ, List.getElem_toArray, List.getElem_cons_succ, List.getElem_cons_zero]
                          refine tk 9 (by assumption) rfl (by kernel_rfl) (fun _ _ _ h => h) (fun V hV => by go_simp; try with_reducible rfl) ?_
                          try simp only [Act.put, List.setIfInBounds_toArray, List.set_cons_zero, List.set_cons_succ, List.getElem_toArray, List.getElem_cons_succ, List.getElem_cons_zero]
                          refine tk 10 (by assumption) rfl (by kernel_rfl) (fun _ _ _ h => h) (fun V hV => by go_simp; try with_reducible rfl) ?_
                          try simp only [Act.put, List.setIfInBounds_toArray, List.set_cons_zero, List.set_cons_succ, List.getElem_toArray, List.getElem_cons_succ, List.getElem_cons_zero]
                          refine tk 11 (by assumption) rfl (by kernel_rfl) (fun _ _ _ h => h) (fun V hV => by go_simp; try with_reducible rfl) ?_
                          try simp only [Act.put, List.setIfInBounds_toArray, List.set_cons_zero, List.set_cons_succ, List.getElem_toArray, List.getElem_cons_succ, List.getElem_cons_zero]
                          refine tk 12 (by assumption) rfl (by kernel_rfl) (fun _ _ _ h => h) (fun V hV => by go_simp; try with_reducible rfl) ?_
                          try simp only [Act.put, List.setIfInBounds_toArray, List.set_cons_zero, List.set_cons_succ, List.getElem_toArray, List.getElem_cons_succ, List.getElem_cons_zero]
                          refine tk 13 (by assumption) rfl (by kernel_rfl) (fun _ _ _ h => h) (fun V hV => by go_simp; try with_reducible rfl) ?_
                          try simp only [Act.put, List.setIfInBounds_toArray, List.set_cons_zero, List.set_cons_succ, List.getElem_toArray, List.getElem_cons_succ, List.getElem_cons_zero]
                          refine tk 14 (by assumption) rfl (by kernel_rfl) (fun _ _ _ h => h) (fun V hV => by obtain ⟨hx0, hx1, hx2⟩ := hV; go_simp; try with_reducible rfl) ?_
                          try simp only [Act.put, List.setIfInBounds_toArray, List.set_cons_zero, List.set_cons_succ, List.getElem_toArray, List.getElem_cons_succ, List.getElem_cons_zero]
                          refine wpAnyH_ready (rs := [15]) (by kernel_rfl) (by simp) ?_
                          refine AllReadyH.cons (o := _) rfl (fun K hK => ?_) AllReadyH.nil
                          go_simp
                          refine (HFR.out _).mono ?_
                          rintro e w' ⟨rfl, rfl⟩
                          go_wp2_with fail
                          refine hK.out _ _ (HSS.out _ B0'.out) (fun hH => ?_)
                          clear hK K
                          try simp only [Act.put, List.setIfInBounds_toArray, List.set_cons_zero, List.set_cons_succ, List.getElem_toArray, List.getElem_cons_succ, List.getElem_cons_zero]
                          refine tk 16 (by assumption) rfl (by kernel_rfl) (fun _ _ _ h => h) (fun V hV => by go_simp; try with_reducible rfl) ?_
                          try simp only [Act.put, List.setIfInBounds_toArray, List.set_cons_zero, List.set_cons_succ, List.getElem_toArray, List.getElem_cons_succ, List.getElem_cons_zero]
                          refine tk 17 (by assumption) rfl (by kernel_rfl) (fun _ _ _ h => h) (fun V hV => by go_simp; try with_reducible rfl) ?_
                          try simp only [Act.put, List.setIfInBounds_toArray, List.set_cons_zero, List.set_cons_succ, List.getElem_toArray, List.getElem_cons_succ, List.getElem_cons_zero]
                          refine tk 18 (by assumption) rfl (by kernel_rfl) (fun _ _ _ h => h) (fun V hV => by go_simp; try with_reducible rfl) ?_
                          try simp only [Act.put, List.setIfInBounds_toArray, List.set_cons_zero, List.set_cons_succ, List.getElem_toArray, List.getElem_cons_succ, List.getElem_cons_zero]
                          refine tk 19 (by assumption) rfl (by kernel_rfl) (fun _ _ _ h => h) (fun V hV => by go_simp; try with_reducible rfl) ?_
                          try simp only [Act.put, List.setIfInBounds_toArray, List.set_cons_zero, List.set_cons_succ, List.getElem_toArray, List.getElem_cons_succ, List.getElem_cons_zero]
                          refine tk 20 (by assumption) rfl (by kernel_rfl) (fun _ _ _ h => h) (fun V hV => by go_simp; try with_reducible rfl) ?_
                          try simp only [Act.put, List.setIfInBounds_toArray, List.set_cons_zero, List.set_cons_succ, List.getElem_toArray, List.getElem_cons_succ, List.getElem_cons_zero]
                          refine tk 21 (by assumption) rfl (by kernel_rfl) (fun _ _ _ h => h) (fun V hV => by go_simp; try with_reducible rfl) ?_
                          try simp only [Act.put, List.setIfInBounds_toArray, List.set_cons_zero, List.set_cons_succ, List.getElem_toArray, List.getElem_cons_succ, List.getElem_cons_zero]
                          refine tk 22 (by assumption) rfl (by kernel_rfl) (fun _ _ _ h => h) (fun V hV => by go_simp; try with_reducible rfl) ?_
                          try simp only [Act.put, List.setIfInBounds_toArray, List.set_cons_zero, List.set_cons_succ, List.getElem_toArray, List.getElem_cons_succ, List.getElem_cons_zero]
                          refine tk 23 (by assumption) rfl (by kernel_rfl) (fun _ _ _ h => h) (fun V hV => by obtain ⟨hx0, hx1, hx2⟩ := hV; go_simp; try with_reducible rfl) ?_
                          try simp only [Act.put, List.setIfInBounds_toArray, List.set_cons_zero, List.set_cons_succ, List.getElem_toArray, List.getElem_cons_succ, List.getElem_cons_zero]
                          refine tk 24 (by assumption) rfl (by kernel_rfl) (fun _ _ _ h => h) (fun V hV => by go_simp; try with_reducible rfl) ?_
                          try simp only [Act.put, List.setIfInBounds_toArray, List.set_cons_zero, List.set_cons_succ, List.getElem_toArray, List.getElem_cons_succ, List.getElem_cons_zero]
                          refine tk 25 (by assumption) rfl (by kernel_rfl) (fun _ _ _ h => h) (fun V hV => by go_simp; try with_reducible rfl) ?_
                          try simp only [Act.put, List.setIfInBounds_toArray, List.set_cons_zero, List.set_cons_succ, List.getElem_toArray, List.getElem_cons_succ, List.getElem_cons_zero]
                          refine wpAnyH_take (i := 26) (oi := _) (v := undef) rfl (by kernel_rfl) (by kernel_rfl) (by kernel_rfl) (fun _ _ _ h => h) (Or.inr ⟨by kernel_rfl, rfl⟩) (by assumption) ?_
                          try simp only [Act.put, List.setIfInBounds_toArray, List.set_cons_zero, List.set_cons_succ, List.getElem_toArray, List.getElem_cons_succ, List.getElem_cons_zero]
                          refine wpAnyH_take (i := 27) (oi := _) (v := undef) rfl (by kernel_rfl) (by kernel_rfl) (by kernel_rfl) (fun _ _ _ h => h) (Or.inr ⟨by kernel_rfl, rfl⟩) (by assumption) ?_
                          try simp only [Act.put, List.setIfInBounds_toArray, List.set_cons_zero, List.set_cons_succ, List.getElem_toArray, List.getElem_cons_succ, List.getElem_cons_zero]
                          refine wpAnyH_take (i := 28) (oi := _) (v := undef) rfl (by kernel_rfl) (by kernel_rfl) (by kernel_rfl) (fun _ _ _ h => h) (Or.inr ⟨by kernel_rfl, rfl⟩) (by assumption) ?_
                          try simp only [Act.put, List.setIfInBounds_toArray, List.set_cons_zero, List.set_cons_succ, List.getElem_toArray, List.getElem_cons_succ, List.getElem_cons_zero]
                          refine wpAnyH_take (i := 29) (oi := _) (v := undef) rfl (by kernel_rfl) (by kernel_rfl) (by kernel_rfl) (fun _ _ _ h => h) (Or.inr ⟨by kernel_rfl, rfl⟩) (by assumption) ?_
                          try simp only [Act.put, List.setIfInBounds_toArray, List.set_cons_zero, List.set_cons_succ, List.getElem_toArray, List.getElem_cons_succ, List.getElem_cons_zero]
                          refine wpAnyH_take (i := 30) (oi := _) (v := undef) rfl (by kernel_rfl) (by kernel_rfl) (by kernel_rfl) (fun _ _ _ h => h) (Or.inr ⟨by kernel_rfl, rfl⟩) (by assumption) ?_
                          try simp only [Act.put, List.setIfInBounds_toArray, List.set_cons_zero, List.set_cons_succ, List.getElem_toArray, List.getElem_cons_succ, List.getElem_cons_zero]
                          refine wpAnyH_take (i := 31) (oi := _) (v := undef) rfl (by kernel_rfl) (by kernel_rfl) (by kernel_rfl) (fun _ _ _ h => h) (Or.inr ⟨by kernel_rfl, rfl⟩) (by assumption) ?_
                          try simp only [Act.put, List.setIfInBounds_toArray, List.set_cons_zero, List.set_cons_succ, List.getElem_toArray, List.getElem_cons_succ, List.getElem_cons_zero]
                          refine wpAnyH_take (i := 32) (oi := _) (v := undef) rfl (by kernel_rfl) (by kernel_rfl) (by kernel_rfl) (fun _ _ _ h => h) (Or.inr ⟨by kernel_rfl, rfl⟩) (by assumption) ?_
                          try simp only [Act.put, List.setIfInBounds_toArray, List.set_cons_zero, List.set_cons_succ, List.getElem_toArray, List.getElem_cons_succ, List.getElem_cons_zero]
                          refine tk 33 (by assumption) rfl (by kernel_rfl) (fun _ _ _ h => h) (fun V hV => by go_simp; try with_reducible rfl) ?_
                          try simp only [Act.put, List.setIfInBounds_toArray, List.set_cons_zero, List.set_cons_succ, List.getElem_toArray, List.getElem_cons_succ, List.getElem_cons_zero]
                          refine tk 34 (by assumption) rfl (by kernel_rfl) (fun _ _ _ h => h) (fun V hV => by go_simp; try with_reducible rfl) ?_
                          try simp only [Act.put, List.setIfInBounds_toArray, List.set_cons_zero, List.set_cons_succ, List.getElem_toArray, List.getElem_cons_succ, List.getElem_cons_zero]
                          refine tk 35 (by assumption) rfl (by kernel_rfl) (fun _ _ _ h => h) (fun V hV => by go_simp; try with_reducible rfl) ?_
                          try simp only [Act.put, List.setIfInBounds_toArray, List.set_cons_zero, List.set_cons_succ, List.getElem_toArray, List.getElem_cons_succ, List.getElem_cons_zero]
                          refine tk 36 (by assumption) rfl (by kernel_rfl) (fun _ _ _ h => h) (fun V hV => by go_simp; try with_reducible rfl) ?_
                          try simp only [Act.put, List.setIfInBounds_toArray, List.set_cons_zero, List.set_cons_succ, List.getElem_toArray, List.getElem_cons_succ, List.getElem_cons_zero]
                          refine wpAnyH_done (by kernel_rfl) ?_ _
                          have HX9 := Lib.hid (gNx HX1.out B0'.out)
                          have HKC := Lib.hid (HKV.out _ HX9.out)
                          obtain ⟨g0, g1⟩ := HKG.out _ HX9.out
                          clear hs0
                          go_wp2_with fail
                          refine HKC.out.mono ?_
                          rintro e w9 ⟨rfl, hb9⟩
                          have HX10 := Lib.hid (gNx (gNx HXO.out B0'.out) hb9)
                          clear hb9 g0 g1
                          go_wp2_with fail
                          refine ⟨⟨k + 1, congrArg (Value.int .i64) HK1.out.2.2.2, HK1.out.1, HX10.out⟩, ?_⟩
                          show G.nodes.length - ((k : Int) + 1).toNat < G.nodes.length - (k : Int).toNat
                          rw [HK1.out.2.2.1]
                          exact HK1.out.2.1
                        · have e2 : (u == y) = false := by simpa using huy
                          rw [e2, Bool.false_or] at HKV
                          clear huy
                          by_cases hyx : y = x
                          · have e3 : (y == x) = true := by simpa using hyx
                            rw [e3] at HKV
                            clear hyx
                            go_upto_region 15 with (fail)
                            clear g0 g1 n0 n1
                            refine wp_region_held_drew (S := fun V => WiS V dg k hg i d1 d2 y) (by kernel_rfl) (HSS.out _ (Below.drew (Below.refl _ _))) (fun hH => ?_)
                            have hs0 := HSS.out _ (Below.drew (Below.refl _ _))
                            have B0' : Hid (Below wo.heap.size wo wo.drew) := Lib.hid (Below.drew (Below.refl _ _))
                            generalize wo.drew = V0 at *
                            refine tk 0 (by assumption) rfl (by kernel_rfl) (fun _ _ _ h => h) (fun V hV => by go_simp; try with_reducible rfl) ?_
                            try simp only [Act.put, List.setIfInBounds_toArray, List.set_cons_zero, List.set_cons_succ, List.getElem_toArray, List.getElem_cons_succ, List.getElem_cons_zero]
                            refine tk 1 (by assumption) rfl (by kernel_rfl) (fun _ _ _ h => h) (fun V hV => by go_simp; try with_reducible rfl) ?_
                            try simp only [Act.put, List.setIfInBounds_toArray, List.set_cons_zero, List.set_cons_succ, List.getElem_toArray, List.getElem_cons_succ, List.getElem_cons_zero]
                            refine tk 2 (by assumption) rfl (by kernel_rfl) (fun _ _ _ h => h) (fun V hV => by go_simp; try with_reducible rfl) ?_
                            try simp only [Act.put, List.setIfInBounds_toArray, List.set_cons_zero, List.set_cons_succ, List.getElem_toArray, List.getElem_cons_succ, List.getElem_cons_zero]
                            refine tk 3 (by assumption) rfl (by kernel_rfl) (fun _ _ _ h => h) (fun V hV => by obtain ⟨hx0, hx1, hx2⟩ := hV; go_simp; try with_reducible rfl) ?_
                            try simp only [Act.put, List.setIfInBounds_toArray, List.set_cons_zero, List.set_cons_succ, List.getElem_toArray, List.getElem_cons_succ, List.getElem_cons_zero]
                            refine tk 4 (by assumption) rfl (by kernel_rfl) (fun _ _ _ h => h) (fun V hV => by go_simp; try with_reducible rfl) ?_
                            try simp only [Act.put, List.setIfInBounds_toArray, List.set_cons_zero, List.set_cons_succ, List.getElem_toArray, List.getElem_cons_succ, List.getElem_cons_zero]
                            refine tk 5 (by assumption) rfl (by kernel_rfl) (fun _ _ _ h => h) (fun V hV => by go_simp; try with_reducible rfl) ?_
                            try simp only [Act.put, List.setIfInBounds_toArray, List.set_cons_zero, List.set_cons_succ, List.getElem_toArray, List.getElem_cons_succ, List.getElem_cons_zero]
                            refine tk 6 (by assumption) rfl (by kernel_rfl) (fun _ _ _ h => h) (fun V hV => by go_simp; try with_reducible rfl) ?_
                            try simp only [Act.put, List.setIfInBounds_toArray, List.set_cons_zero, List.set_cons_succ, List.getElem_toArray, List.getElem_cons_succ, List.getElem_cons_zero]
                            refine tk 7 (by assumption) rfl (by kernel_rfl) (fun _ _ _ h => h) (fun V hV => by go_simp; try with_reducible rfl) ?_
                            try simp only [Act.put, List.setIfInBounds_toArray, List.set_cons_zero, List.set_cons_succ, List.getElem_toArray, List.getElem_cons_succ, List.getElem_cons_zero]
                            refine tk 8 (by assumption) rfl (by kernel_rfl) (fun _ _ _ h => h) (fun V hV => by obtain ⟨hx0, hx1, hx2⟩ := hV; go_simp; try with_reducible rfl) ?_
                            try simp only [Act.put, List.setIfInBounds_toArray, List.set_cons_zero, List.set_cons_succ, List.getElem_toArray, List.getElem_cons_succ, List.getElem_cons_zero]
                            refine tk 9 (by assumption) rfl (by kernel_rfl) (fun _ _ _ h => h) (fun V hV => by go_simp; try with_reducible rfl) ?_
                            try simp only [Act.put, List.setIfInBounds_toArray, List.set_cons_zero, List.set_cons_succ, List.getElem_toArray, List.getElem_cons_succ, List.getElem_cons_zero]
                            refine tk 10 (by assumption) rfl (by kernel_rfl) (fun _ _ _ h => h) (fun V hV => by go_simp; try with_reducible rfl) ?_
                            try simp only [Act.put, List.setIfInBounds_toArray, List.set_cons_zero, List.set_cons_succ, List.getElem_toArray, List.getElem_cons_succ, List.getElem_cons_zero]
                            refine tk 11 (by assumption) rfl (by kernel_rfl) (fun _ _ _ h => h) (fun V hV => by go_simp; try with_reducible rfl) ?_
                            try simp only [Act.put, List.setIfInBounds_toArray, List.set_cons_zero, List.set_cons_succ, List.getElem_toArray, List.getElem_cons_succ, List.getElem_cons_zero]
                            refine tk 12 (by assumption) rfl (by kernel_rfl) (fun _ _ _ h => h) (fun V hV => by go_simp; try with_reducible rfl) ?_
                            try simp only [Act.put, List.setIfInBounds_toArray, List.set_cons_zero, List.set_cons_succ, List.getElem_toArray, List.getElem_cons_succ, List.getElem_cons_zero]
                            refine tk 13 (by assumption) rfl (by kernel_rfl) (fun _ _ _ h => h) (fun V hV => by go_simp; try with_reducible rfl) ?_
                            try simp only [Act.put, List.setIfInBounds_toArray, List.set_cons_zero, List.set_cons_succ, List.getElem_toArray, List.getElem_cons_succ, List.getElem_cons_zero]
                            refine tk 14 (by assumption) rfl (by kernel_rfl) (fun _ _ _ h => h) (fun V hV => by obtain ⟨hx0, hx1, hx2⟩ := hV; go_simp; try with_reducible rfl) ?_
                            try simp only [Act.put, List.setIfInBounds_toArray, List.set_cons_zero, List.set_cons_succ, List.getElem_toArray, List.getElem_cons_succ, List.getElem_cons_zero]
                            refine wpAnyH_ready (rs := [15]) (by kernel_rfl) (by simp) ?_
                            refine AllReadyH.cons (o := _) rfl (fun K hK => ?_) AllReadyH.nil
                            go_simp
                            refine (HFR.out _).mono ?_
                            rintro e w' ⟨rfl, rfl⟩
                            go_wp2_with fail
                            refine hK.out _ _ (HSS.out _ B0'.out) (fun hH => ?_)
                            clear hK K
                            try simp only [Act.put, List.setIfInBounds_toArray, List.set_cons_zero, List.set_cons_succ, List.getElem_toArray, List.getElem_cons_succ, List.getElem_cons_zero]
                            refine tk 16 (by assumption) rfl (by kernel_rfl) (fun _ _ _ h => h) (fun V hV => by go_simp; try with_reducible rfl) ?_
                            try simp only [Act.put, List.setIfInBounds_toArray, List.set_cons_zero, List.set_cons_succ, List.getElem_toArray, List.getElem_cons_succ, List.getElem_cons_zero]
                            refine tk 17 (by assumption) rfl (by kernel_rfl) (fun _ _ _ h => h) (fun V hV => by go_simp; try with_reducible rfl) ?_
                            try simp only [Act.put, List.setIfInBounds_toArray, List.set_cons_zero, List.set_cons_succ, List.getElem_toArray, List.getElem_cons_succ, List.getElem_cons_zero]
                            refine tk 18 (by assumption) rfl (by kernel_rfl) (fun _ _ _ h => h) (fun V hV => by go_simp; try with_reducible rfl) ?_
                            try simp only [Act.put, List.setIfInBounds_toArray, List.set_cons_zero, List.set_cons_succ, List.getElem_toArray, List.getElem_cons_succ, List.getElem_cons_zero]
                            refine tk 19 (by assumption) rfl (by kernel_rfl) (fun _ _ _ h => h) (fun V hV => by go_simp; try with_reducible rfl) ?_
                            try simp only [Act.put, List.setIfInBounds_toArray, List.set_cons_zero, List.set_cons_succ, List.getElem_toArray, List.getElem_cons_succ, List.getElem_cons_zero]
                            refine tk 20 (by assumption) rfl (by kernel_rfl) (fun _ _ _ h => h) (fun V hV => by go_simp; try with_reducible rfl) ?_
                            try simp only [Act.put, List.setIfInBounds_toArray, List.set_cons_zero, List.set_cons_succ, List.getElem_toArray, List.getElem_cons_succ, List.getElem_cons_zero]
                            refine tk 21 (by assumption) rfl (by kernel_rfl) (fun _ _ _ h => h) (fun V hV => by go_simp; try with_reducible rfl) ?_
                            try simp only [Act.put, List.setIfInBounds_toArray, List.set_cons_zero, List.set_cons_succ, List.getElem_toArray, List.getElem_cons_succ, List.getElem_cons_zero]
                            refine tk 22 (by assumption) rfl (by kernel_rfl) (fun _ _ _ h => h) (fun V hV => by go_simp; try with_reducible rfl) ?_
                            try simp only [Act.put, List.setIfInBounds_toArray, List.set_cons_zero, List.set_cons_succ, List.getElem_toArray, List.getElem_cons_succ, List.getElem_cons_zero]
                            refine tk 23 (by assumption) rfl (by kernel_rfl) (fun _ _ _ h => h) (fun V hV => by obtain ⟨hx0, hx1, hx2⟩ := hV; go_simp; try with_reducible rfl) ?_
                            try simp only [Act.put, List.setIfInBounds_toArray, List.set_cons_zero, List.set_cons_succ, List.getElem_toArray, List.getElem_cons_succ, List.getElem_cons_zero]
                            refine tk 24 (by assumption) rfl (by kernel_rfl) (fun _ _ _ h => h) (fun V hV => by go_simp; try with_reducible rfl) ?_
                            try simp only [Act.put, List.setIfInBounds_toArray, List.set_cons_zero, List.set_cons_succ, List.getElem_toArray, List.getElem_cons_succ, List.getElem_cons_zero]
                            refine tk 25 (by assumption) rfl (by kernel_rfl) (fun _ _ _ h => h) (fun V hV => by go_simp; try with_reducible rfl) ?_
                            try simp only [Act.put, List.setIfInBounds_toArray, List.set_cons_zero, List.set_cons_succ, List.getElem_toArray, List.getElem_cons_succ, List.getElem_cons_zero]
                            refine tk 26 (by assumption) rfl (by kernel_rfl) (fun _ _ _ h => h) (fun V hV => by go_simp; try with_reducible rfl) ?_
                            try simp only [Act.put, List.setIfInBounds_toArray, List.set_cons_zero, List.set_cons_succ, List.getElem_toArray, List.getElem_cons_succ, List.getElem_cons_zero]
                            refine tk 27 (by assumption) rfl (by kernel_rfl) (fun _ _ _ h => h) (fun V hV => by go_simp; try with_reducible rfl) ?_
                            try simp only [Act.put, List.setIfInBounds_toArray, List.set_cons_zero, List.set_cons_succ, List.getElem_toArray, List.getElem_cons_succ, List.getElem_cons_zero]
                            refine tk 28 (by assumption) rfl (by kernel_rfl) (fun _ _ _ h => h) (fun V hV => by go_simp; try with_reducible rfl) ?_
                            try simp only [Act.put, List.setIfInBounds_toArray, List.set_cons_zero, List.set_cons_succ, List.getElem_toArray, List.getElem_cons_succ, List.getElem_cons_zero]
                            refine tk 29 (by assumption) rfl (by kernel_rfl) (fun _ _ _ h => h) (fun V hV => by go_simp; try with_reducible rfl) ?_
                            try simp only [Act.put, List.setIfInBounds_toArray, List.set_cons_zero, List.set_cons_succ, List.getElem_toArray, List.getElem_cons_succ, List.getElem_cons_zero]
                            refine tk 30 (by assumption) rfl (by kernel_rfl) (fun _ _ _ h => h) (fun V hV => by obtain ⟨hx0, hx1, hx2⟩ := hV; go_simp; try with_reducible rfl) ?_
                            try simp only [Act.put, List.setIfInBounds_toArray, List.set_cons_zero, List.set_cons_succ, List.getElem_toArray, List.getElem_cons_succ, List.getElem_cons_zero]
                            refine tk 31 (by assumption) rfl (by kernel_rfl) (fun _ _ _ h => h) (fun V hV => by go_simp; try with_reducible rfl) ?_
                            try simp only [Act.put, List.setIfInBounds_toArray, List.set_cons_zero, List.set_cons_succ, List.getElem_toArray, List.getElem_cons_succ, List.getElem_cons_zero]
                            refine tk 32 (by assumption) rfl (by kernel_rfl) (fun _ _ _ h => h) (fun V hV => by go_simp; try with_reducible rfl) ?_
                            try simp only [Act.put, List.setIfInBounds_toArray, List.set_cons_zero, List.set_cons_succ, List.getElem_toArray, List.getElem_cons_succ, List.getElem_cons_zero]
                            refine tk 33 (by assumption) rfl (by kernel_rfl) (fun _ _ _ h => h) (fun V hV => by go_simp; try with_reducible rfl) ?_
                            try simp only [Act.put, List.setIfInBounds_toArray, List.set_cons_zero, List.set_cons_succ, List.getElem_toArray, List.getElem_cons_succ, List.getElem_cons_zero]
                            refine tk 34 (by assumption) rfl (by kernel_rfl) (fun _ _ _ h => h) (fun V hV => by go_simp; try with_reducible rfl) ?_
                            try simp only [Act.put, List.setIfInBounds_toArray, List.set_cons_zero, List.set_cons_succ, List.getElem_toArray, List.getElem_cons_succ, List.getElem_cons_zero]
                            refine tk 35 (by assumption) rfl (by kernel_rfl) (fun _ _ _ h => h) (fun V hV => by go_simp; try with_reducible rfl) ?_
                            try simp only [Act.put, List.setIfInBounds_toArray, List.set_cons_zero, List.set_cons_succ, List.getElem_toArray, List.getElem_cons_succ, List.getElem_cons_zero]
                            refine tk 36 (by assumption) rfl (by kernel_rfl) (fun _ _ _ h => h) (fun V hV => by go_simp; try with_reducible rfl) ?_
                            try simp only [Act.put, List.setIfInBounds_toArray, List.set_cons_zero, List.set_cons_succ, List.getElem_toArray, List.getElem_cons_succ, List.getElem_cons_zero]
                            refine wpAnyH_done (by kernel_rfl) ?_ _
                            have HX9 := Lib.hid (gNx HX1.out B0'.out)
                            have HKC := Lib.hid (HKV.out _ HX9.out)
                            obtain ⟨g0, g1⟩ := HKG.out _ HX9.out
                            clear hs0
                            go_wp2_with fail
                            refine HKC.out.mono ?_
                            rintro e w9 ⟨rfl, hb9⟩
                            have HX10 := Lib.hid (gNx (gNx HXO.out B0'.out) hb9)
                            clear hb9 g0 g1
                            go_wp2_with fail
                            refine ⟨⟨k + 1, congrArg (Value.int .i64) HK1.out.2.2.2, HK1.out.1, HX10.out⟩, ?_⟩
                            show G.nodes.length - ((k : Int) + 1).toNat < G.nodes.length - (k : Int).toNat
                            rw [HK1.out.2.2.1]
                            exact HK1.out.2.1
                          · have e3 : (y == x) = false := by simpa using hyx
                            rw [e3] at HKV
                            clear hyx
                            go_upto_region 15 with (fail)
                            clear g0 g1 n0 n1
                            refine wp_region_held_drew (S := fun V => WiS V dg k hg i d1 d2 y) (by kernel_rfl) (HSS.out _ (Below.drew (Below.refl _ _))) (fun hH => ?_)
                            have hs0 := HSS.out _ (Below.drew (Below.refl _ _))
                            have B0' : Hid (Below wo.heap.size wo wo.drew) := Lib.hid (Below.drew (Below.refl _ _))
                            generalize wo.drew = V0 at *
                            refine tk 0 (by assumption) rfl (by kernel_rfl) (fun _ _ _ h => h) (fun V hV => by go_simp; try with_reducible rfl) ?_
                            try simp only [Act.put, List.setIfInBounds_toArray, List.set_cons_zero, List.set_cons_succ, List.getElem_toArray, List.getElem_cons_succ, List.getElem_cons_zero]
                            refine tk 1 (by assumption) rfl (by kernel_rfl) (fun _ _ _ h => h) (fun V hV => by go_simp; try with_reducible rfl) ?_
                            try simp only [Act.put, List.setIfInBounds_toArray, List.set_cons_zero, List.set_cons_succ, List.getElem_toArray, List.getElem_cons_succ, List.getElem_cons_zero]
                            refine tk 2 (by assumption) rfl (by kernel_rfl) (fun _ _ _ h => h) (fun V hV => by go_simp; try with_reducible rfl) ?_
                            try simp only [Act.put, List.setIfInBounds_toArray, List.set_cons_zero, List.set_cons_succ, List.getElem_toArray, List.getElem_cons_succ, List.getElem_cons_zero]
                            refine tk 3 (by assumption) rfl (by kernel_rfl) (fun _ _ _ h => h) (fun V hV => by obtain ⟨hx0, hx1, hx2⟩ := hV; go_simp; try with_reducible rfl) ?_
                            try simp only [Act.put, List.setIfInBounds_toArray, List.set_cons_zero, List.set_cons_succ, List.getElem_toArray, List.getElem_cons_succ, List.getElem_cons_zero]
                            refine tk 4 (by assumption) rfl (by kernel_rfl) (fun _ _ _ h => h) (fun V hV => by go_simp; try with_reducible rfl) ?_
                            try simp only [Act.put, List.setIfInBounds_toArray, List.set_cons_zero, List.set_cons_succ, List.getElem_toArray, List.getElem_cons_succ, List.getElem_cons_zero]
                            refine tk 5 (by assumption) rfl (by kernel_rfl) (fun _ _ _ h => h) (fun V hV => by go_simp; try with_reducible rfl) ?_
                            try simp only [Act.put, List.setIfInBounds_toArray, List.set_cons_zero, List.set_cons_succ, List.getElem_toArray, List.getElem_cons_succ, List.getElem_cons_zero]
                            refine tk 6 (by assumption) rfl (by kernel_rfl) (fun _ _ _ h => h) (fun V hV => by go_simp; try with_reducible rfl) ?_
                            try simp only [Act.put, List.setIfInBounds_toArray, List.set_cons_zero, List.set_cons_succ, List.getElem_toArray, List.getElem_cons_succ, List.getElem_cons_zero]
                            refine tk 7 (by assumption) rfl (by kernel_rfl) (fun _ _ _ h => h) (fun V hV => by go_simp; try with_reducible rfl) ?_
                            try simp only [Act.put, List.setIfInBounds_toArray, List.set_cons_zero, List.set_cons_succ, List.getElem_toArray, List.getElem_cons_succ, List.getElem_cons_zero]
                            refine tk 8 (by assumption) rfl (by kernel_rfl) (fun _ _ _ h => h) (fun V hV => by obtain ⟨hx0, hx1, hx2⟩ := hV; go_simp; try with_reducible rfl) ?_
                            try simp only [Act.put, List.setIfInBounds_toArray, List.set_cons_zero, List.set_cons_succ, List.getElem_toArray, List.getElem_cons_succ, List.getElem_cons_zero]
                            refine tk 9 (by assumption) rfl (by kernel_rfl) (fun _ _ _ h => h) (fun V hV => by go_simp; try with_reducible rfl) ?_
                            try simp only [Act.put, List.setIfInBounds_toArray, List.set_cons_zero, List.set_cons_succ, List.getElem_toArray, List.getElem_cons_succ, List.getElem_cons_zero]
                            refine tk 10 (by assumption) rfl (by kernel_rfl) (fun _ _ _ h => h) (fun V hV => by go_simp; try with_reducible rfl) ?_
                            try simp only [Act.put, List.setIfInBounds_toArray, List.set_cons_zero, List.set_cons_succ, List.getElem_toArray, List.getElem_cons_succ, List.getElem_cons_zero]
                            refine tk 11 (by assumption) rfl (by kernel_rfl) (fun _ _ _ h => h) (fun V hV => by go_simp; try with_reducible rfl) ?_
                            try simp only [Act.put, List.setIfInBounds_toArray, List.set_cons_zero, List.set_cons_succ, List.getElem_toArray, List.getElem_cons_succ, List.getElem_cons_zero]
                            refine tk 12 (by assumption) rfl (by kernel_rfl) (fun _ _ _ h => h) (fun V hV => by go_simp; try with_reducible rfl) ?_
                            try simp only [Act.put, List.setIfInBounds_toArray, List.set_cons_zero, List.set_cons_succ, List.getElem_toArray, List.getElem_cons_succ, List.getElem_cons_zero]
                            refine tk 13 (by assumption) rfl (by kernel_rfl) (fun _ _ _ h => h) (fun V hV => by go_simp; try with_reducible rfl) ?_
                            try simp only [Act.put, List.setIfInBounds_toArray, List.set_cons_zero, List.set_cons_succ, List.getElem_toArray, List.getElem_cons_succ, List.getElem_cons_zero]
                            refine tk 14 (by assumption) rfl (by kernel_rfl) (fun _ _ _ h => h) (fun V hV => by obtain ⟨hx0, hx1, hx2⟩ := hV; go_simp; try with_reducible rfl) ?_
                            try simp only [Act.put, List.setIfInBounds_toArray, List.set_cons_zero, List.set_cons_succ, List.getElem_toArray, List.getElem_cons_succ, List.getElem_cons_zero]
                            refine wpAnyH_ready (rs := [15]) (by kernel_rfl) (by simp) ?_
                            refine AllReadyH.cons (o := _) rfl (fun K hK => ?_) AllReadyH.nil
                            go_simp
                            refine (HFR.out _).mono ?_
                            rintro e w' ⟨rfl, rfl⟩
                            go_wp2_with fail
                            refine hK.out _ _ (HSS.out _ B0'.out) (fun hH => ?_)
                            clear hK K
                            try simp only [Act.put, List.setIfInBounds_toArray, List.set_cons_zero, List.set_cons_succ, List.getElem_toArray, List.getElem_cons_succ, List.getElem_cons_zero]
                            refine tk 16 (by assumption) rfl (by kernel_rfl) (fun _ _ _ h => h) (fun V hV => by go_simp; try with_reducible rfl) ?_
                            try simp only [Act.put, List.setIfInBounds_toArray, List.set_cons_zero, List.set_cons_succ, List.getElem_toArray, List.getElem_cons_succ, List.getElem_cons_zero]
                            refine tk 17 (by assumption) rfl (by kernel_rfl) (fun _ _ _ h => h) (fun V hV => by go_simp; try with_reducible rfl) ?_
                            try simp only [Act.put, List.setIfInBounds_toArray, List.set_cons_zero, List.set_cons_succ, List.getElem_toArray, List.getElem_cons_succ, List.getElem_cons_zero]
                            refine tk 18 (by assumption) rfl (by kernel_rfl) (fun _ _ _ h => h) (fun V hV => by go_simp; try with_reducible rfl) ?_
                            try simp only [Act.put, List.setIfInBounds_toArray, List.set_cons_zero, List.set_cons_succ, List.getElem_toArray, List.getElem_cons_succ, List.getElem_cons_zero]
                            refine tk 19 (by assumption) rfl (by kernel_rfl) (fun _ _ _ h => h) (fun V hV => by go_simp; try with_reducible rfl) ?_
                            try simp only [Act.put, List.setIfInBounds_toArray, List.set_cons_zero, List.set_cons_succ, List.getElem_toArray, List.getElem_cons_succ, List.getElem_cons_zero]
                            refine tk 20 (by assumption) rfl (by kernel_rfl) (fun _ _ _ h => h) (fun V hV => by go_simp; try with_reducible rfl) ?_
                            try simp only [Act.put, List.setIfInBounds_toArray, List.set_cons_zero, List.set_cons_succ, List.getElem_toArray, List.getElem_cons_succ, List.getElem_cons_zero]
                            refine tk 21 (by assumption) rfl (by kernel_rfl) (fun _ _ _ h => h) (fun V hV => by go_simp; try with_reducible rfl) ?_
                            try simp only [Act.put, List.setIfInBounds_toArray, List.set_cons_zero, List.set_cons_succ, List.getElem_toArray, List.getElem_cons_succ, List.getElem_cons_zero]
                            refine tk 22 (by assumption) rfl (by kernel_rfl) (fun _ _ _ h => h) (fun V hV => by go_simp; try with_reducible rfl) ?_
                            try simp only [Act.put, List.setIfInBounds_toArray, List.set_cons_zero, List.set_cons_succ, List.getElem_toArray, List.getElem_cons_succ, List.getElem_cons_zero]
                            refine tk 23 (by assumption) rfl (by kernel_rfl) (fun _ _ _ h => h) (fun V hV => by obtain ⟨hx0, hx1, hx2⟩ := hV; go_simp; try with_reducible rfl) ?_
                            try simp only [Act.put, List.setIfInBounds_toArray, List.set_cons_zero, List.set_cons_succ, List.getElem_toArray, List.getElem_cons_succ, List.getElem_cons_zero]
                            refine tk 24 (by assumption) rfl (by kernel_rfl) (fun _ _ _ h => h) (fun V hV => by go_simp; try with_reducible rfl) ?_
                            try simp only [Act.put, List.setIfInBounds_toArray, List.set_cons_zero, List.set_cons_succ, List.getElem_toArray, List.getElem_cons_succ, List.getElem_cons_zero]
                            refine tk 25 (by assumption) rfl (by kernel_rfl) (fun _ _ _ h => h) (fun V hV => by go_simp; try with_reducible rfl) ?_
                            try simp only [Act.put, List.setIfInBounds_toArray, List.set_cons_zero, List.set_cons_succ, List.getElem_toArray, List.getElem_cons_succ, List.getElem_cons_zero]
                            refine tk 26 (by assumption) rfl (by kernel_rfl) (fun _ _ _ h => h) (fun V hV => by go_simp; try with_reducible rfl) ?_
                            try simp only [Act.put, List.setIfInBounds_toArray, List.set_cons_zero, List.set_cons_succ, List.getElem_toArray, List.getElem_cons_succ, List.getElem_cons_zero]
                            refine tk 27 (by assumption) rfl (by kernel_rfl) (fun _ _ _ h => h) (fun V hV => by go_simp; try with_reducible rfl) ?_
                            try simp only [Act.put, List.setIfInBounds_toArray, List.set_cons_zero, List.set_cons_succ, List.getElem_toArray, List.getElem_cons_succ, List.getElem_cons_zero]
                            refine tk 28 (by assumption) rfl (by kernel_rfl) (fun _ _ _ h => h) (fun V hV => by go_simp; try with_reducible rfl) ?_
                            try simp only [Act.put, List.setIfInBounds_toArray, List.set_cons_zero, List.set_cons_succ, List.getElem_toArray, List.getElem_cons_succ, List.getElem_cons_zero]
                            refine tk 29 (by assumption) rfl (by kernel_rfl) (fun _ _ _ h => h) (fun V hV => by go_simp; try with_reducible rfl) ?_
                            try simp only [Act.put, List.setIfInBounds_toArray, List.set_cons_zero, List.set_cons_succ, List.getElem_toArray, List.getElem_cons_succ, List.getElem_cons_zero]
                            refine tk 30 (by assumption) rfl (by kernel_rfl) (fun _ _ _ h => h) (fun V hV => by obtain ⟨hx0, hx1, hx2⟩ := hV; go_simp; try with_reducible rfl) ?_
                            try simp only [Act.put, List.setIfInBounds_toArray, List.set_cons_zero, List.set_cons_succ, List.getElem_toArray, List.getElem_cons_succ, List.getElem_cons_zero]
                            refine tk 31 (by assumption) rfl (by kernel_rfl) (fun _ _ _ h => h) (fun V hV => by go_simp; try with_reducible rfl) ?_
                            try simp only [Act.put, List.setIfInBounds_toArray, List.set_cons_zero, List.set_cons_succ, List.getElem_toArray, List.getElem_cons_succ, List.getElem_cons_zero]
                            refine tk 32 (by assumption) rfl (by kernel_rfl) (fun _ _ _ h => h) (fun V hV => by go_simp; try with_reducible rfl) ?_
                            try simp only [Act.put, List.setIfInBounds_toArray, List.set_cons_zero, List.set_cons_succ, List.getElem_toArray, List.getElem_cons_succ, List.getElem_cons_zero]
                            refine tk 33 (by assumption) rfl (by kernel_rfl) (fun _ _ _ h => h) (fun V hV => by go_simp; try with_reducible rfl) ?_
                            try simp only [Act.put, List.setIfInBounds_toArray, List.set_cons_zero, List.set_cons_succ, List.getElem_toArray, List.getElem_cons_succ, List.getElem_cons_zero]
                            refine tk 34 (by assumption) rfl (by kernel_rfl) (fun _ _ _ h => h) (fun V hV => by go_simp; try with_reducible rfl) ?_
                            try simp only [Act.put, List.setIfInBounds_toArray, List.set_cons_zero, List.set_cons_succ, List.getElem_toArray, List.getElem_cons_succ, List.getElem_cons_zero]
                            refine tk 35 (by assumption) rfl (by kernel_rfl) (fun _ _ _ h => h) (fun V hV => by go_simp; try with_reducible rfl) ?_
                            try simp only [Act.put, List.setIfInBounds_toArray, List.set_cons_zero, List.set_cons_succ, List.getElem_toArray, List.getElem_cons_succ, List.getElem_cons_zero]
                            refine tk 36 (by assumption) rfl (by kernel_rfl) (fun _ _ _ h => h) (fun V hV => by go_simp; try with_reducible rfl) ?_
                            try simp only [Act.put, List.setIfInBounds_toArray, List.set_cons_zero, List.set_cons_succ, List.getElem_toArray, List.getElem_cons_succ, List.getElem_cons_zero]
                            refine wpAnyH_done (by kernel_rfl) ?_ _
                            have HX9 := Lib.hid (gNx HX1.out B0'.out)
                            have HKC := Lib.hid (HKV.out _ HX9.out)
                            obtain ⟨g0, g1⟩ := HKG.out _ HX9.out
                            clear hs0
                            go_wp2_with fail
                            refine HKC.out.mono ?_
                            rintro e w9 ⟨rfl, hb9⟩
                            have HX10 := Lib.hid (gNx (gNx HXO.out B0'.out) hb9)
                            clear hb9 g0 g1
                            go_wp2_with fail
                            refine ⟨⟨k + 1, congrArg (Value.int .i64) HK1.out.2.2.2, HK1.out.1, HX10.out⟩, ?_⟩
                            show G.nodes.length - ((k : Int) + 1).toNat < G.nodes.length - (k : Int).toNat
                            rw [HK1.out.2.2.1]
                            exact HK1.out.2.1
              · have hnk : ¬ (k : Int) < (G.nodes.length : Int) := by omega
                have HX3 := Lib.hid (gNx HXI3.out hbx)
                clear hlt hk hbx
                go_wp2_with fail
                refine ⟨⟨i + 1, congrArg (Value.int .i64) HI1.out.2.2.2, HI1.out.1, HX1.out, HX3.out⟩, ?_⟩
                show (liveG G).nodes.length - ((i : Int) + 1).toNat < (liveG G).nodes.length - (i : Int).toNat
                rw [HI1.out.2.2.1]
                exact HI1.out.2.1
        · have hnk : ¬ (i : Int) < ((liveG G).nodes.length : Int) := by omega
          clear hlt hi hbx hb3x
          go_wp2_with fail
          refine (HAW.out _).mono ?_
          rintro e w5 ⟨rfl, hb5⟩
          have HB5 := Lib.hid (gNx HB1.out (gNx HXI.out hb5))
          clear hb5
          go_wp2_with fail
          go_ret
          exact ⟨rfl, HB5.out⟩
end Go.Proofs.Ytomcnaghdfhkkaa
end
