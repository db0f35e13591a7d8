/- Balls: a sight's knows; the program's Knows. Balls: the law of balls: who knows whom. -/
import Derived.Test.YtomcnaghdfhkkaaGreatBaH
import Derived.Test.YtomcnaghdfhkkaaGreatBqA
import Derived.Test.YtomcnaghdfhkkaaGreatBbB
section
namespace Go.Proofs.YtomcnaghdfhkkaaGreat
open Go.RowKit Go.Lib Go.Fq Go.Pq Go.Iq Go.Nq Go.Ow Go.Bq
set_option linter.unusedVariables false
set_option linter.unusedSimpArgs false
set_option maxRecDepth 100000

theorem kn_places {H : Gr} (hz : checkG H = 0) (lim : Nat) {a t : Nat} (ha : a < H.nodes.length) (ht : t < H.nodes.length) : knI H lim (idf H.nodes a : Int) H.nodes[t] = (decide (a = t) || (kindP H lim a t H.nodes[t] != 0 && (g_ (dst H lim t) a).isSome)) := by
  have n3 := (check_zero.1 hz).2.2.1
  have e := (idf_is n3 ht).1
  unfold knI
  rw [e, dI_at hz lim ha ht]
  by_cases h : a = t
  · subst h; simp
  · have h2 : ¬ ((idf H.nodes a : Int) = (idf H.nodes t : Int)) := fun e2 => h (idf_inj hz ha ht (by omega))
    unfold kindP
    rw [if_neg h, decide_eq_false h2, decide_eq_false h]
set_option maxHeartbeats 16000000 in
theorem bKnows_any (at_ to_ : Nat) (w : World) (sb db B0 : Nat) (H : Gr) (max : Nat) (na : Option Addr) (nc : Nat) (la : Option Addr) (lc : Nat) (hv : Value) (h : Sg w sb db B0 H max na nc la lc hv) (hat : at_ < H.nodes.length) (hto : to_ < H.nodes.length) :
    Calls Tryz.prog 32 #[.pointer (some ⟨sb, 0, none⟩), .int .i64 (at_ : Int), .int .i64 (to_ : Int)] w fun e w' => e = .returned (.bool (knI H (qn max) (idf H.nodes at_ : Int) H.nodes[to_])) ∧ Sg w' sb db B0 H max na nc la lc hv ∧ BelowX w.heap.size db w w' := by
  have hst := g_storeL
  have HSM := Lib.hid (dst_sm h.bg.hz h.bg.hw h.bg.small.2.1 to_ at_)
  have HDF := Lib.hid (bDistsFrom_any to_ w sb db B0 H max na nc la lc hv h hto)
  have HHO := Lib.hid (fun V (hV : Sg V sb db B0 H max na nc la lc hv) => bHome_any to_ V sb db B0 H max na nc la lc hv hV hto)
  have HKI := Lib.hid (fun V (hV : Sg V sb db B0 H max na nc la lc hv) => bKind_any at_ to_ V sb db B0 H max na nc la lc hv hV hat hto)
  have HDI := Lib.hid (fun V (hV : Sg V sb db B0 H max na nc la lc hv) => bDist_any at_ to_ V sb db B0 H max na nc la lc hv hV hat hto)
  have hZ := kn_places h.bg.hz (qn max) hat hto
  have hab : at_ ≠ to_ → ((at_ : Int) == (to_ : Int)) = false := fun e => by simp; omega
  have hab2 : at_ = to_ → ((at_ : Int) == (to_ : Int)) = true := fun e => by simp [e]
  obtain ⟨kv, hkv⟩ : ∃ kv, kv = kindP H (qn max) at_ to_ H.nodes[to_] := ⟨_, rfl⟩
  rw [← hkv] at hZ HKI
  generalize knI H (qn max) (idf H.nodes at_ : Int) H.nodes[to_] = Z at *
  obtain ⟨D, hD⟩ : ∃ D, D = g_ (dst H (qn max) to_) at_ := ⟨_, rfl⟩
  rw [← hD] at HSM HDI hZ
  have HFR := Lib.hid (fun W => bFar_any D HSM.out W)
  obtain ⟨x, hx⟩ : ∃ x, x = (idf H.nodes to_ : Int) := ⟨_, rfl⟩
  rw [← hx] at HHO HKI
  obtain ⟨rh, hrh⟩ : ∃ rh, rh = (homeI H (qn max) x).1 := ⟨_, rfl⟩
  obtain ⟨rr, hrr⟩ : ∃ rr, rr = dw (homeI H (qn max) x).2 := ⟨_, rfl⟩
  rw [← hrh, ← hrr] at HHO HKI
  clear h hat hto hkv hD hx hrh hrr
  by_cases hne : at_ = to_
  · have e1 := hab2 hne
    have HZ : Hid (Z = true) := Lib.hid (by rw [hZ]; simp [hne])
    clear hne hab hab2 hZ
    go_enter Tryz.func32, Tryz.ntmps32
    go_wp2_with fail
    refine HDF.out.mono ?_
    rintro e W2 ⟨b, c, rfl, -, hs2, hx2⟩
    have HS2 := Lib.hid hs2
    have HX2 := Lib.hid hx2
    clear hs2 hx2
    go_wp2_with fail
    go_ret
    refine ⟨?_, HS2.out, HX2.out⟩
    rw [HZ.out]; rfl
  · have e1 := hab hne
    have HZ : Hid (Z = (kv != 0 && D.isSome)) := Lib.hid (by rw [hZ, decide_eq_false hne]; rfl)
    clear hne hab hab2 hZ
    go_enter Tryz.func32, Tryz.ntmps32
    go_wp2_with fail
    refine HDF.out.mono ?_
    rintro e W2 ⟨b, c, rfl, -, hs2, hx2⟩
    have HS2 := Lib.hid hs2
    have HX2 := Lib.hid hx2
    clear hs2 hx2
    go_wp2_with fail
    refine (HHO.out W2 HS2.out).mono ?_
    rintro e W3 ⟨rfl, hs3, hx3⟩
    have HS3 := Lib.hid hs3
    have HX3 := Lib.hid (bx_next HX2.out hx3)
    clear hs3 hx3
    go_wp2_with fail
    refine (HKI.out W3 HS3.out).mono ?_
    rintro e W4 ⟨rfl, hs4, hx4⟩
    have HS4 := Lib.hid hs4
    have HX4 := Lib.hid (bx_next HX3.out hx4)
    clear hs4 hx4
    by_cases hk0 : kv = 0
    · have e2 : (kv != 0) = false := by simp [hk0]
      clear hk0
      go_wp2_with fail
      go_ret
      refine ⟨?_, HS4.out, HX4.out⟩
      rw [HZ.out, e2]; rfl
    · have e2 : (kv != 0) = true := by simp [hk0]
      clear hk0
      go_wp2_with fail
      refine (HDI.out W4 HS4.out).mono ?_
      rintro e W5 ⟨rfl, hs5, hx5⟩
      have HS5 := Lib.hid hs5
      have HX5 := Lib.hid (bx_next HX4.out hx5)
      clear hs5 hx5
      go_wp2_with fail
      refine (HFR.out _).mono ?_
      rintro e w' ⟨rfl, rfl⟩
      go_wp2_with fail
      go_ret
      refine ⟨?_, HS5.out, HX5.out⟩
      rw [HZ.out, e2]; cases D <;> rfl
/-- What Knows tells. -/
def KnEnds (w : World) (G : Gr) (max : Nat) (u v : Int) (e : Ending) (w' : World) : Prop := Below w.heap.size w w' ∧
  ((ballE G max ≠ 0 ∧ e = .returned (.tuple #[.bool false, .int .i64 (ballE G max)])) ∨
   (ballE G max = 0 ∧ (upB G.nodes u && upB G.nodes v) = false ∧ e = .returned (.tuple #[.bool false, .int .i64 4])) ∨
   (ballE G max = 0 ∧ upB G.nodes u = true ∧ ∃ m ∈ G.nodes, m.up = true ∧ m.id = v ∧ e = .returned (.tuple #[.bool (knI G (qn max) u m), .int .i64 0])))
set_option maxHeartbeats 8000000 in
theorem pKnows_any (G : Gr) (na : Option Addr) (nc : Nat) (la : Option Addr) (lc : Nat) (max : Nat) (u v : Int) (w : World) (hin : GrIn w G na la) (hm : max < 2 ^ 64) :
    Calls Tryz.prog 13 #[.agg #[.slice na G.nodes.length nc, .slice la G.links.length lc], .float .f64 max, .int .i64 u, .int .i64 v] w fun e w' => KnEnds w G max u v e w' := by
  obtain ⟨W1, hW1⟩ : ∃ W1, W1 = w.alloc (.cells #[.slice na G.nodes.length nc, .slice la G.links.length lc] 25) := ⟨_, rfl⟩
  have b1 : Below w.heap.size w W1 := by rw [hW1]; exact gAl _ _
  have r1 : W1.heap[w.heap.size]? = some (.cells #[.slice na G.nodes.length nc, .slice la G.links.length lc] 25 (0, 0)) := by rw [hW1]; exact heap_alloc_new w _
  obtain ⟨g0, g1, -, -⟩ := two_cells r1
  have HC := Lib.hid (sightOf_any G na nc la lc max W1 (hin.below b1) hm)
  have HB1 := Lib.hid b1
  have HWT := Lib.hid hin.wts
  clear hin b1 r1 hm
  go_enter Tryz.func13, Tryz.ntmps13
  go_upto_region 1 with (fail)
  rw [← hW1]
  clear hW1
  go_wp2_with fail
  refine HC.out.mono ?_
  rintro e w2 he
  obtain ⟨hb2, ⟨hne, rfl⟩ | ⟨hE, sb, db, B0, an, cn, al, cl, hv, rfl, hsb, hdb, hsg⟩⟩ := he.cases
  · have HB2 := Lib.hid (gNx HB1.out hb2)
    have HNE := Lib.hid hne
    obtain ⟨E, hE⟩ : ∃ E, E = ballE G max := ⟨_, rfl⟩
    have HEE := Lib.hid hE
    rw [← hE]
    have hz : (E != 0) = true := by rw [hE]; simpa using hne
    clear hb2 he hne hE g0 g1
    go_wp2_with fail
    refine bodyPost_ret (v := .tuple #[.bool false, .int .i64 E]) (by simp [results, Tryz.results13, go_sem]) rfl ?_
    exact ⟨HB2.out, Or.inl ⟨HNE.out, by rw [HEE.out]⟩⟩
  · have HB2 := Lib.hid (gNx HB1.out hb2)
    have HE := Lib.hid hE
    have HSB : Hid (w.heap.size ≤ w2.heap.size ∧ w.heap.size ≤ db) := Lib.hid (by have := hb2.size; have := HB1.out.size; omega)
    have HP := Lib.hid (bPlace_any u w2 sb db B0 (liveG G) max an cn al cl hv hsg)
    have HP2 := Lib.hid (fun V (hV : Sg V sb db B0 (liveG G) max an cn al cl hv) => bPlace_any v V sb db B0 (liveG G) max an cn al cl hv hV)
    have HSG := Lib.hid hsg
    have HUP : Hid (has (liveG G).nodes u = upB G.nodes u) := Lib.hid (up_live G.nodes u).2
    have HUP2 : Hid (has (liveG G).nodes v = upB G.nodes v) := Lib.hid (up_live G.nodes v).2
    rw [HUP.out] at HP
    rw [HUP2.out] at HP2
    have n3 := (check_zero.1 hsg.bg.hz).2.2.1
    have HKU : Hid (upB G.nodes u = true → Nq.ahead (liveG G).nodes u < (liveG G).nodes.length ∧ (idf (liveG G).nodes (Nq.ahead (liveG G).nodes u) : Int) = u) := Lib.hid (fun e => ⟨((has_at n3 u).1 (HUP.out.trans e)).1, (id_at n3 (HUP.out.trans e)).1⟩)
    have HKV : Hid (upB G.nodes v = true → ∃ hk : Nq.ahead (liveG G).nodes v < (liveG G).nodes.length, ((liveG G).nodes[Nq.ahead (liveG G).nodes v]'hk).id = v) := Lib.hid (fun e => (has_at n3 v).1 (HUP2.out.trans e))
    obtain ⟨a, ha⟩ : ∃ a, a = Nq.ahead (liveG G).nodes u := ⟨_, rfl⟩
    obtain ⟨t, ht⟩ : ∃ t, t = Nq.ahead (liveG G).nodes v := ⟨_, rfl⟩
    rw [← ha] at HP HKU
    rw [← ht] at HP2 HKV
    obtain ⟨uu, huu⟩ : ∃ uu, uu = upB G.nodes u := ⟨_, rfl⟩
    obtain ⟨uv, huv⟩ : ∃ uv, uv = upB G.nodes v := ⟨_, rfl⟩
    have HUU := Lib.hid huu.symm
    have HUV := Lib.hid huv.symm
    rw [← huu] at HP HKU
    rw [← huv] at HP2 HKV
    clear hb2 he hE g0 g1 hsg hsb hdb n3 ha ht HUP HUP2 huu huv
    go_wp2_with fail
    refine HP.out.mono ?_
    rintro e w3 ⟨rfl, hb3⟩
    have HB3 : Hid (Below w.heap.size w w3) := Lib.hid (gNx HB2.out hb3)
    have HS3 := Lib.hid (HSG.out.below hb3)
    clear hb3
    go_wp2_with fail
    refine (HP2.out w3 HS3.out).mono ?_
    rintro e w4 ⟨rfl, hb4⟩
    have HB4 : Hid (Below w.heap.size w w4 ∧ w.heap.size ≤ w4.heap.size) := Lib.hid ⟨gNx HB3.out hb4, (gNx HB3.out hb4).size⟩
    have HS4 := Lib.hid (HS3.out.below hb4)
    clear hb4
    cases uu with
    | false =>
      go_wp2_with fail
      refine bodyPost_ret (v := .tuple #[.bool false, .int .i64 4]) (by simp [results, Tryz.results13, go_sem]) rfl ?_
      exact ⟨HB4.out.1, Or.inr (Or.inl ⟨HE.out, by rw [HUU.out]; rfl, rfl⟩)⟩
    | true =>
      cases uv with
      | false =>
        go_wp2_with fail
        refine bodyPost_ret (v := .tuple #[.bool false, .int .i64 4]) (by simp [results, Tryz.results13, go_sem]) rfl ?_
        exact ⟨HB4.out.1, Or.inr (Or.inl ⟨HE.out, by rw [HUV.out, Bool.and_false], rfl⟩)⟩
      | true =>
        obtain ⟨ha, hau⟩ := HKU.out rfl
        obtain ⟨ht, htv⟩ := HKV.out rfl
        have HK := Lib.hid (bKnows_any a t w4 sb db B0 (liveG G) max an cn al cl hv HS4.out ha ht)
        rw [hau] at HK
        have hmm : (liveG G).nodes[t] ∈ G.nodes ∧ ((liveG G).nodes[t]).up = true := List.mem_filter.1 (show (liveG G).nodes[t] ∈ G.nodes.filter (·.up) from List.getElem_mem ht)
        rw [← kn_live (ballE_zero.1 HE.out).1 HWT.out (qn max) HUU.out hmm.1 hmm.2] at HK
        have HMM := Lib.hid hmm
        have HTV := Lib.hid htv
        generalize (liveG G).nodes[t] = m at *
        clear ha hau ht htv hmm
        go_wp2_with fail
        refine HK.out.mono ?_
        rintro e w5 ⟨rfl, -, hbx⟩
        have HB5 : Hid (Below w.heap.size w w5) := Lib.hid (HB4.out.1.trans (hbx.below HB4.out.2 HSB.out.2))
        clear hbx
        go_wp2_with fail
        refine bodyPost_ret (v := .tuple #[.bool (knI G (qn max) u m), .int .i64 0]) (by simp [results, Tryz.results13, go_sem]) rfl ?_
        exact ⟨HB5.out, Or.inr (Or.inr ⟨HE.out, HUU.out, m, HMM.out.1, HMM.out.2, HTV.out, rfl⟩)⟩
end Go.Proofs.YtomcnaghdfhkkaaGreat
end

section
namespace Go.Proofs.YtomcnaghdfhkkaaGreat
open Go.RowKit Go.Lib Go.Fq Go.Pq Go.Iq Go.Nq Go.Ow Go.Bq
set_option linter.unusedVariables false
set_option linter.unusedSimpArgs false
set_option maxRecDepth 100000

theorem dw_top {a : Option Nat} (h : Sm a) : (FloatKind.f64.format.order (dw a) 9218868437227405311 == some .gt) = a.isNone := by
  cases a with
  | none => decide +kernel
  | some n =>
    have hn : n < 2 ^ 53 := by have : n ≤ 4294967296 := h; omega
    have h1 := ik_qw_inf n hn
    have e1 : ik 9218868437227405312 = 9218868437227405312 := by decide +kernel
    have e2 : ik 9218868437227405311 = 9218868437227405311 := by decide +kernel
    have h3 := qw_nan hn
    have h4 : nanB 9218868437227405311 = false := by decide +kernel
    show (FloatKind.f64.format.order (qw n) _ == some .gt) = false
    by_cases hlt : ik (qw n) < ik 9218868437227405311
    · rw [od_lt h3 h4 hlt]; rfl
    · rw [od_same h3 h4 (by omega)]; rfl
theorem rbFar_any (a : Option Nat) (h : Sm a) (w : World) : Calls Tryz.prog 18 #[.float .f64 (dw a)] w fun e w' => e = .returned (.bool a.isNone) ∧ w = w' := by
  have e1 := dw_top h
  generalize dw a = d at *
  generalize a.isNone = b at *
  clear h
  go_enter Tryz.func18, Tryz.ntmps18
  go_wp2_with fail
  go_ret
  exact ⟨rfl, rfl⟩
end Go.Proofs.YtomcnaghdfhkkaaGreat
end
