/- Paths: the document's other, next, Nexts, Path; the law of first hops. -/
import Derived.Test.YtcmknkdfoebniaaPrB
import Derived.Test.YtcmknkdfoebniaaPrC
import Derived.Test.YtcmknkdfoebniaaPqT
namespace Go.Proofs.Ytcmknkdfoebniaa
open Go.RowKit Go.Lib Go.Fq Go.Pq Go.Iq Go.Nq Go.Ow
set_option linter.unusedVariables false
set_option linter.unusedSimpArgs false
set_option maxRecDepth 100000

theorem other_any (y : Lk) (fr : Int) (w : World) : Calls Try.prog 53 #[.agg #[.int .i64 y.a, .int .i64 y.b, .float .f64 y.w, .bool y.up], .int .i64 fr] w fun e w' => e = .returned (.int .i64 (oth fr y)) ∧ Below w.heap.size w w' := by
  obtain ⟨W1, hW1⟩ : ∃ W1, W1 = w.alloc (.cells #[.int .i64 y.a, .int .i64 y.b, .float .f64 y.w, .bool y.up] 90) := ⟨_, rfl⟩
  have b1 : Below w.heap.size w W1 := by rw [hW1]; exact gAl _ _
  have r1 : W1.heap[w.heap.size]? = some (.cells #[.int .i64 y.a, .int .i64 y.b, .float .f64 y.w, .bool y.up] 90 (0, 0)) := by rw [hW1]; exact heap_alloc_new w _
  have g0 : W1.cell? ⟨w.heap.size, 0, none⟩ = some (.int .i64 y.a) := by rw [cell_of_row W1 _ 0 _ _ (0, 0) r1]; rfl
  have g1 : W1.cell? ⟨w.heap.size, 1, none⟩ = some (.int .i64 y.b) := by rw [cell_of_row W1 _ 1 _ _ (0, 0) r1]; rfl
  have HB1 := Lib.hid b1
  have HO : Hid (oth fr y = if y.a = fr then y.b else if y.b = fr then y.a else 0) := Lib.hid rfl
  rw [HO.out]
  clear b1 r1 HO
  obtain ⟨a, b, q, u⟩ := y
  simp only at g0 g1 hW1 ⊢
  by_cases ea : a = fr
  · rw [if_pos ea]
    have e1 : (a == fr) = true := by simpa using ea
    have HEA := Lib.hid ea
    clear ea
    go_enter Try.func53, Try.ntmps53
    go_upto_region 1 with (fail)
    rw [← hW1]
    clear hW1
    go_wp2_with fail
    go_ret
    exact ⟨rfl, HB1.out⟩
  · rw [if_neg ea]
    have e1 : (a == fr) = false := by simpa using ea
    clear ea
    by_cases eb : b = fr
    · rw [if_pos eb]
      have e2 : (b == fr) = true := by simpa using eb
      clear eb
      go_enter Try.func53, Try.ntmps53
      go_upto_region 1 with (fail)
      rw [← hW1]
      clear hW1
      go_wp2_with fail
      go_ret
      exact ⟨rfl, HB1.out⟩
    · rw [if_neg eb]
      have e2 : (b == fr) = false := by simpa using eb
      clear eb
      go_enter Try.func53, Try.ntmps53
      go_upto_region 1 with (fail)
      rw [← hW1]
      clear hW1
      go_wp2_with fail
      go_ret
      exact ⟨rfl, HB1.out⟩
theorem isinf_o (a : Option Nat) (h : Sm a) (b : Bool) (hb : a.isNone = b) (w : World) : Calls Try.prog 28 #[.float .f64 (dw a), .int .i64 1] w fun e w' => e = .returned (.bool b) ∧ w = w' := by
  rw [← hb, ← dw_inf h]; exact isinf1 (dw a) w (dw_ng h)
theorem qw_neB {n m : Nat} (hn : n < 2 ^ 53) (hm : m < 2 ^ 53) : (FloatKind.f64.format.order (qw n) (qw m) == some .eq) = decide (n = m) := by
  rw [od_num (qw_nan hn) (qw_nan hm), Bool.eq_iff_iff, beq_iff_eq, Option.some.injEq, Int.compare_eq_eq, decide_eq_true_eq]
  exact ⟨ik_inj_qw hn hm, fun h => by rw [h]⟩
theorem sum_is (A : Option Nat) (q n : Nat) (hA : Sm A) (hq0 : 0 < q) (hq : q ≤ 4294967296) (hn : n ≤ 4294967296) : ∃ S, Ieee.double.add (dw A) (qw q) = some S ∧ (FloatKind.f64.format.order S (qw n) != some .eq) = !(sumIs A q n) := by
  cases A with
  | none =>
    refine ⟨INF, add_inf_qw q (by omega), ?_⟩
    have := dw_eq (a := none) (b := some n) trivial hn
    have h2 : (FloatKind.f64.format.order INF (qw n) == some .eq) = false := this
    unfold sumIs
    simp only [bne, h2]
  | some m =>
    unfold Sm at hA
    simp only at hA
    refine ⟨qw (m + q), add_qw m q (by omega) (by omega), ?_⟩
    unfold sumIs
    simp only [bne, qw_neB (n := m + q) (m := n) (by omega) (by omega)]
/-- The document's next, from c: how far all are from the other one. -/
def nextZ (G : Gr) (fr tz : Int) (c : List (Option Nat)) : Int := if fr = tz then 0 else match g_ c (Nq.ahead G.nodes fr) with
  | none => 0
  | some n => bestK G.nodes fr c n G.links G.links.length
def NxS (V : World) (gb : Nat) (na la : Option Addr) (nc n lc m ll dg px s A d : Nat) (q : Nat) : Prop := V.cell? ⟨gb, 0, none⟩ = some (.slice na n nc) ∧ V.cell? ⟨gb, 1, none⟩ = some (.slice la m lc) ∧ V.cell? ⟨ll, 2, none⟩ = some (.float .f64 q) ∧ V.cell? ⟨ll, 3, none⟩ = some (.bool true) ∧ V.cell? ⟨dg, px, none⟩ = some (.float .f64 A) ∧ V.cell? ⟨dg, s, none⟩ = some (.float .f64 d)
set_option maxHeartbeats 16000000 in
theorem rnext_any (G : Gr) (na : Option Addr) (nc : Nat) (la : Option Addr) (lc : Nat) (fr tz : Int) (c : List (Option Nat)) (dg dc : Nat) (w : World) (hin : GrIn w G na la) (hz : checkG G = 0) (hh : has G.nodes fr = true) (hsm : ∀ v, Sm (g_ c v)) (hcc : ∀ V, Below w.heap.size w V → ∀ i, i < G.nodes.length → V.cell? ⟨dg, i, none⟩ = some (.float .f64 (dw (g_ c i)))) :
    Calls Try.prog 36 #[.agg #[.slice na G.nodes.length nc, .slice la G.links.length lc], .int .i64 fr, .int .i64 tz, .slice (some ⟨dg, 0, none⟩) G.nodes.length dc] w fun e w' => e = .returned (.int .i64 (nextZ G fr tz c)) ∧ Below w.heap.size w w' := by
  have hst := g_storeL
  obtain ⟨W1, hW1⟩ : ∃ W1, W1 = w.alloc (.cells #[.slice na G.nodes.length nc, .slice la G.links.length lc] 25) := ⟨_, rfl⟩
  have b1 : Below w.heap.size w W1 := by rw [hW1]; exact gAl _ _
  have s1 : w.heap.size < W1.heap.size := by rw [hW1]; simp
  have r1 : W1.heap[w.heap.size]? = some (.cells #[.slice na G.nodes.length nc, .slice la G.links.length lc] 25 (0, 0)) := by rw [hW1]; exact heap_alloc_new w _
  have HKG : Hid (∀ V, Below W1.heap.size W1 V → V.cell? ⟨w.heap.size, 0, none⟩ = some (.slice na G.nodes.length nc) ∧ V.cell? ⟨w.heap.size, 1, none⟩ = some (.slice la G.links.length lc)) := Lib.hid (fun V hV => by
    have := two_cells ((hV.block _ s1).trans r1)
    exact ⟨this.1, this.2.1⟩)
  have HB1 := Lib.hid b1
  have HIN : Hid (∀ V, Below W1.heap.size W1 V → GrIn V G na la) := Lib.hid (fun V hV => (hin.below b1).below hV)
  have HCC : Hid (∀ V, Below W1.heap.size W1 V → ∀ i, i < G.nodes.length → V.cell? ⟨dg, i, none⟩ = some (.float .f64 (dw (g_ c i)))) := Lib.hid (fun V hV => hcc V (gNx b1 hV))
  have n3 := (check_zero.1 hz).2.2.1
  have HNL : Hid (G.nodes.length ≤ 256 ∧ G.links.length ≤ 4096) := Lib.hid ⟨(check_zero.1 hz).1, (check_zero.1 hz).2.1⟩
  have HPL := Lib.hid (fun (x : Int) (V : World) (hV : Below W1.heap.size W1 V) => sPlace_any G.nodes na nc la G.links.length lc x V (HIN.out V hV).nodes n3 (by have := (check_zero.1 hz).1; omega))
  have HLA : Hid (∀ y ∈ G.links, has G.nodes y.a = true ∧ has G.nodes y.b = true ∧ weightF y.w = 0 ∧ y.w < 2 ^ 64) := Lib.hid (fun y hy => by
    have := liveAt hz hy
    exact ⟨this.1, this.2.1, this.2.2.2.2.2.2, hin.wts y hy⟩)
  have HPT : Hid (∀ x, has G.nodes x = true → placeV G.nodes x = (Nq.ahead G.nodes x : Int) ∧ Nq.ahead G.nodes x < G.nodes.length) := Lib.hid (fun x hx => ⟨placeV_has hx, ((has_at n3 x).1 hx).1⟩)
  have HSM := Lib.hid hsm
  obtain ⟨hp1, hp2⟩ := HPT.out fr hh
  have HPS : Hid (placeV G.nodes fr = (Nq.ahead G.nodes fr : Int) ∧ Nq.ahead G.nodes fr < G.nodes.length) := Lib.hid ⟨hp1, hp2⟩
  obtain ⟨g0, g1⟩ := HKG.out W1 (Below.refl _ _)
  obtain ⟨Z, hZ⟩ : ∃ Z, Z = nextZ G fr tz c := ⟨_, rfl⟩
  rw [← hZ]
  have HZ : Hid (Z = if fr = tz then 0 else match g_ c (Nq.ahead G.nodes fr) with | none => 0 | some n => bestK G.nodes fr c n G.links G.links.length) := Lib.hid hZ
  clear hin hz hh hsm hcc b1 s1 r1 n3 hp1 hp2 hZ
  go_enter Try.func36, Try.ntmps36
  go_upto_region 1 with (fail)
  rw [← hW1]
  clear hW1
  go_wp2_with fail
  refine (HPL.out fr W1 (Below.refl _ _)).mono ?_
  rintro e w2 ⟨rfl, hb2⟩
  rw [HPS.out.1]
  have HB2 := Lib.hid hb2
  clear hb2 g0 g1
  obtain ⟨s, hs⟩ : ∃ s, s = Nq.ahead G.nodes fr := ⟨_, rfl⟩
  rw [← hs] at HZ HPS ⊢
  have HSE := Lib.hid hs
  clear hs
  by_cases hft : fr = tz
  · have e1 : (fr == tz) = true := by simpa using hft
    rw [if_pos hft] at HZ
    have hz0 := HZ.out
    subst hz0
    clear hft
    go_wp2_with fail
    go_ret
    exact ⟨rfl, gNx HB1.out HB2.out⟩
  · have e1 : (fr == tz) = false := by simpa using hft
    rw [if_neg hft] at HZ
    have hsl : (s : Int) < (G.nodes.length : Int) := by have := HPS.out.2; omega
    have hs00 : (0 : Int) ≤ (s : Int) := by omega
    have cs := HCC.out w2 HB2.out s HPS.out.2
    clear hft
    cases hq : g_ c s with
    | none =>
      have HIF := Lib.hid (isinf_o (g_ c s) (HSM.out s) true (by rw [hq]; rfl))
      rw [hq] at HZ
      have hz0 := HZ.out
      simp only at hz0
      subst hz0
      rw [hq] at cs HIF
      clear hq
      generalize dw none = d at *
      go_wp2_with (go_at_call 28; refine (HIF.out _).mono ?_; rintro e w' ⟨rfl, rfl⟩)
      go_ret
      exact ⟨rfl, gNx HB1.out HB2.out⟩
    | some n =>
      have HIF := Lib.hid (isinf_o (g_ c s) (HSM.out s) false (by rw [hq]; rfl))
      rw [hq] at HZ
      have hz0 := HZ.out
      simp only at hz0
      subst hz0
      have hn : n ≤ 4294967296 := by have := HSM.out s; rw [hq] at this; exact this
      have HN := Lib.hid hn
      rw [hq] at cs HIF
      have HCS : Hid (∀ V, Below W1.heap.size W1 V → V.cell? ⟨dg, s, none⟩ = some (.float .f64 (dw (some n)))) := Lib.hid (fun V hV => by rw [← hq]; exact HCC.out V hV s HPS.out.2)
      clear hq hn
      go_upto_region 4 with (go_at_call 28; refine (HIF.out _).mono ?_; rintro e w' ⟨rfl, rfl⟩)
      clear cs HIF e1 hsl hs00
      go_wp2_with fail
      go_loopw [11, 10] (fun i bst wr => ∃ k : Nat, i = .int .i64 (k : Int) ∧ bst = .int .i64 (bestK G.nodes fr c n G.links k) ∧ k ≤ G.links.length ∧ Below w2.heap.size w2 wr) (fun i _ _ => G.links.length - (RowKit.intOf i).toNat)
      case atStart => exact ⟨0, rfl, rfl, Nat.zero_le _, Below.refl _ _⟩
      case round =>
        obtain ⟨k, rfl, rfl, hk, hbel⟩ := hrel
        have HBE := Lib.hid (gNx HB2.out hbel)
        have HBR := Lib.hid hbel
        obtain ⟨k0, k1⟩ := HKG.out wr HBE.out
        by_cases hlt : k < G.links.length
        · have hlti : (k : Int) < (G.links.length : Int) := by omega
          have hk0 : (0 : Int) ≤ (k : Int) := by omega
          have hkw : IntKind.i64.wrap ((k : Int) + 1) = (k : Int) + 1 := by rw [IntKind.wrap_i64]; have := HNL.out.2; omega
          have HK1 : Hid (k + 1 ≤ G.links.length ∧ G.links.length - (k + 1) < G.links.length - k ∧ ((k : Int) + 1).toNat = k + 1 ∧ (k : Int) + 1 = ((k + 1 : Nat) : Int)) := Lib.hid ⟨by omega, by omega, by omega, by omega⟩
          obtain ⟨b2, o2, hla, hbb2, hc⟩ := (HIN.out wr HBE.out).links.at k hlt
          obtain ⟨c0', c1', c2', c3'⟩ := hc k hlt
          have HSU := Lib.hid (bestK_succ G.nodes fr c n G.links hlt)
          have HY := Lib.hid (HLA.out _ (List.getElem_mem hlt))
          clear hc hbb2 hbel
          subst hla
          generalize bestK G.nodes fr c n G.links k = bk at *
          generalize G.links[k] = y at *
          obtain ⟨wq, q1, q2, q3⟩ := weight_q y.w HY.out.2.2.2 HY.out.2.2.1
          have HWQ : Hid (y.w = qw wq ∧ qn y.w = wq ∧ 0 < wq ∧ wq ≤ 4294967296) := Lib.hid ⟨q3, by rw [q3]; exact qn_qw (by omega), by omega, by omega⟩
          clear q1 q2 q3
          obtain ⟨x, hx⟩ : ∃ x, x = oth fr y := ⟨_, rfl⟩
          have HFT : Hid (bestK G.nodes fr c n G.links (k + 1) = if (decide (x ≠ 0) && y.up && sumIs (g_ c (Nq.ahead G.nodes x)) wq n) = true then (if bk = 0 ∨ x < bk then x else bk) else bk) := Lib.hid (by rw [HSU.out, hx, ← HWQ.out.2.1]; rfl)
          have HHX : Hid (x ≠ 0 → has G.nodes x = true) := Lib.hid (fun h => by
            rw [hx] at h ⊢
            unfold oth at *
            by_cases ea : y.a = fr
            · rw [if_pos ea]; exact HY.out.2.1
            · rw [if_neg ea] at *
              by_cases eb : y.b = fr
              · rw [if_pos eb]; exact HY.out.1
              · rw [if_neg eb] at h; exact absurd rfl h)
          have HOT := Lib.hid (fun V => other_any y fr V)
          rw [← hx] at HOT
          obtain ⟨W6, hW6⟩ : ∃ W6, W6 = wr.alloc (.cells #[.int .i64 y.a, .int .i64 y.b, .float .f64 y.w, .bool y.up] 90) := ⟨_, rfl⟩
          have b6 : Below wr.heap.size wr W6 := by rw [hW6]; exact gAl _ _
          have r6 : W6.heap[wr.heap.size]? = some (.cells #[.int .i64 y.a, .int .i64 y.b, .float .f64 y.w, .bool y.up] 90 (0, 0)) := by rw [hW6]; exact heap_alloc_new wr _
          have s6 : wr.heap.size < W6.heap.size := by rw [hW6]; simp
          obtain ⟨ll, hll⟩ : ∃ ll, ll = wr.heap.size := ⟨_, rfl⟩
          rw [← hll] at r6 s6
          have HL6 : Hid (∀ V : World, V.heap[ll]? = W6.heap[ll]? → V.cell? ⟨ll, 0, none⟩ = some (.int .i64 y.a) ∧ V.cell? ⟨ll, 1, none⟩ = some (.int .i64 y.b) ∧ V.cell? ⟨ll, 2, none⟩ = some (.float .f64 y.w) ∧ V.cell? ⟨ll, 3, none⟩ = some (.bool y.up)) := Lib.hid (fun V hV => by
            have := hV.trans r6
            exact ⟨by rw [cell_of_row V _ 0 _ _ (0, 0) this]; rfl, by rw [cell_of_row V _ 1 _ _ (0, 0) this]; rfl, by rw [cell_of_row V _ 2 _ _ (0, 0) this]; rfl, by rw [cell_of_row V _ 3 _ _ (0, 0) this]; rfl⟩)
          have HLS := Lib.hid s6
          have HB6 := Lib.hid (gNx HBE.out b6)
          have HBR6 := Lib.hid (gNx HBR.out b6)
          go_upto_region 9 with (fail)
          rw [← hW6, ← hll]
          clear hW6 b6 r6 s6 c0' c1' c2' c3' k0 k1 hll hx HSU
          obtain ⟨l0, l1, l2, l3⟩ := HL6.out W6 rfl
          go_wp2_with fail
          refine (HOT.out W6).mono ?_
          rintro e w7 ⟨rfl, hb7⟩
          have HL7 : Hid (∀ V, Below w7.heap.size w7 V → V.cell? ⟨ll, 2, none⟩ = some (.float .f64 y.w) ∧ V.cell? ⟨ll, 3, none⟩ = some (.bool y.up)) := Lib.hid (fun V hV => by
            have h1 := (gNx hb7 hV).block ll HLS.out
            have := HL6.out V h1
            exact ⟨this.2.2.1, this.2.2.2⟩)
          have HB7 := Lib.hid (gNx HB6.out hb7)
          have HBR7 := Lib.hid (gNx HBR6.out hb7)
          clear hb7 l0 l1 l2 l3
          obtain ⟨l2, l3⟩ := HL7.out w7 (Below.refl _ _)
          have hbk : True := trivial
          by_cases hx0 : x = 0
          · have e0 : (x == 0) = true := by simpa using hx0
            have HS1 : Hid (bestK G.nodes fr c n G.links (k + 1) = bk) := Lib.hid (by rw [HFT.out, if_neg (by simp [hx0])])
            clear hx0 l2
            go_upto_region 10 with (fail)
            go_quiet (fail)
            go_wp2_with fail
            refine ⟨⟨k + 1, congrArg (Value.int .i64) HK1.out.2.2.2, by rw [HS1.out], HK1.out.1, Go.Iq.below_drewN HBR7.out _⟩, ?_⟩
            show G.links.length - ((k : Int) + 1).toNat < G.links.length - (k : Int).toNat
            rw [HK1.out.2.2.1]
            exact HK1.out.2.1
          · have e0 : (x == 0) = false := by simpa using hx0
            have HX0 := Lib.hid hx0
            cases hyu : y.up with
            | false =>
              have HS1 : Hid (bestK G.nodes fr c n G.links (k + 1) = bk) := Lib.hid (by rw [HFT.out, if_neg (by simp [hyu])])
              rw [hyu] at l3
              clear hx0 l2 hyu
              go_upto_region 10 with (fail)
              go_quiet (fail)
              go_wp2_with fail
              refine ⟨⟨k + 1, congrArg (Value.int .i64) HK1.out.2.2.2, by rw [HS1.out], HK1.out.1, Go.Iq.below_drewN HBR7.out _⟩, ?_⟩
              show G.links.length - ((k : Int) + 1).toNat < G.links.length - (k : Int).toNat
              rw [HK1.out.2.2.1]
              exact HK1.out.2.1
            | true =>
              obtain ⟨p1, p2⟩ := HPT.out x (HHX.out hx0)
              have HPX := Lib.hid p1
              have HFT2 : Hid (bestK G.nodes fr c n G.links (k + 1) = if sumIs (g_ c (Nq.ahead G.nodes x)) wq n = true then (if bk = 0 ∨ x < bk then x else bk) else bk) := Lib.hid (by rw [HFT.out, hyu, decide_eq_true HX0.out]; rfl)
              obtain ⟨px, hpx⟩ : ∃ px, px = Nq.ahead G.nodes x := ⟨_, rfl⟩
              rw [← hpx] at HFT2 HPX p2
              have HP2 := Lib.hid p2
              obtain ⟨S, hS, hS2⟩ := sum_is (g_ c px) wq n (HSM.out px) HWQ.out.2.2.1 HWQ.out.2.2.2 HN.out
              have HSS : Hid (∀ V, Below w7.heap.size w7 V → NxS V w.heap.size na (some ⟨b2, o2, none⟩) nc G.nodes.length lc G.links.length ll dg px s (dw (g_ c px)) (dw (some n)) (qw wq)) := Lib.hid (fun V hV => by
                have h1 := gNx HB7.out hV
                have h2 := HL7.out V hV
                rw [hyu, HWQ.out.1] at h2
                exact ⟨(HKG.out V h1).1, (HKG.out V h1).2, h2.1, h2.2, HCC.out V h1 px HP2.out, HCS.out V h1⟩)
              have hpi : (px : Int) < (G.nodes.length : Int) := by omega
              have hp0 : (0 : Int) ≤ (px : Int) := by omega
              have hsi : (s : Int) < (G.nodes.length : Int) := by have := HPS.out.2; omega
              have hs0' : (0 : Int) ≤ (s : Int) := by omega
              have e1 := fun w => run_add_some (P := Try.prog) 26 (dw (g_ c px)) (qw wq) S hS w
              have hnd : dw (some n) = qw n := rfl
              rw [hnd] at HSS HCS
              generalize sumIs (g_ c px) wq n = sb at *
              generalize dw (g_ c px) = da at *
              generalize qw n = dn at *
              generalize qw wq = dq at *
              clear hx0 l2 l3 hyu hpx p1 p2 hS hnd hlti hk0
              go_upto_region 10 with (fail)
              refine wp_region_held_drew (S := fun V => NxS V w.heap.size na (some ⟨b2, o2, none⟩) nc G.nodes.length lc G.links.length ll dg px s da dn dq) (by kernel_rfl) (HSS.out _ (Below.drew (Below.refl _ _))) (fun hH => ?_)
              have hs0 := HSS.out _ (Below.drew (Below.refl _ _))
              have B0 : Hid (Below w7.heap.size w7 w7.drew) := Lib.hid (Below.drew (Below.refl _ _))
              have C0 : Hid (Below W1.heap.size W1 w7.drew) := Lib.hid (Below.drew HB7.out)
              generalize w7.drew = V0 at *
              refine tk 0 (by assumption) rfl (by kernel_rfl) (fun _ _ _ h => h) (fun V hV => by go_simp; try with_reducible rfl) ?_
              try simp only [Act.put, List.setIfInBounds_toArray, List.set_cons_zero, List.set_cons_succ, List.getElem_toArray, List.getElem_cons_succ, List.getElem_cons_zero]
              refine tk 1 (by assumption) rfl (by kernel_rfl) (fun _ _ _ h => h) (fun V hV => by go_simp; try with_reducible rfl) ?_
              try simp only [Act.put, List.setIfInBounds_toArray, List.set_cons_zero, List.set_cons_succ, List.getElem_toArray, List.getElem_cons_succ, List.getElem_cons_zero]
              refine tk 2 (by assumption) rfl (by kernel_rfl) (fun _ _ _ h => h) (fun V hV => by go_simp; try with_reducible rfl) ?_
              try simp only [Act.put, List.setIfInBounds_toArray, List.set_cons_zero, List.set_cons_succ, List.getElem_toArray, List.getElem_cons_succ, List.getElem_cons_zero]
              refine tk 3 (by assumption) rfl (by kernel_rfl) (fun _ _ _ h => h) (fun V hV => by go_simp; try with_reducible rfl) ?_
              try simp only [Act.put, List.setIfInBounds_toArray, List.set_cons_zero, List.set_cons_succ, List.getElem_toArray, List.getElem_cons_succ, List.getElem_cons_zero]
              refine tk 4 (by assumption) rfl (by kernel_rfl) (fun _ _ _ h => h) (fun V hV => by obtain ⟨hx0, hx1, hx2, hx3, hx4, hx5⟩ := hV; go_simp; try with_reducible rfl) ?_
              try simp only [Act.put, List.setIfInBounds_toArray, List.set_cons_zero, List.set_cons_succ, List.getElem_toArray, List.getElem_cons_succ, List.getElem_cons_zero]
              refine tk 5 (by assumption) rfl (by kernel_rfl) (fun _ _ _ h => h) (fun V hV => by go_simp; try with_reducible rfl) ?_
              try simp only [Act.put, List.setIfInBounds_toArray, List.set_cons_zero, List.set_cons_succ, List.getElem_toArray, List.getElem_cons_succ, List.getElem_cons_zero]
              refine tk 6 (by assumption) rfl (by kernel_rfl) (fun _ _ _ h => h) (fun V hV => by go_simp; try with_reducible rfl) ?_
              try simp only [Act.put, List.setIfInBounds_toArray, List.set_cons_zero, List.set_cons_succ, List.getElem_toArray, List.getElem_cons_succ, List.getElem_cons_zero]
              refine tk 7 (by assumption) rfl (by kernel_rfl) (fun _ _ _ h => h) (fun V hV => by go_simp; try with_reducible rfl) ?_
              try simp only [Act.put, List.setIfInBounds_toArray, List.set_cons_zero, List.set_cons_succ, List.getElem_toArray, List.getElem_cons_succ, List.getElem_cons_zero]
              refine tk 8 (by assumption) rfl (by kernel_rfl) (fun _ _ _ h => h) (fun V hV => by go_simp; try with_reducible rfl) ?_
              try simp only [Act.put, List.setIfInBounds_toArray, List.set_cons_zero, List.set_cons_succ, List.getElem_toArray, List.getElem_cons_succ, List.getElem_cons_zero]
              refine tk 9 (by assumption) rfl (by kernel_rfl) (fun _ _ _ h => h) (fun V hV => by obtain ⟨hx0, hx1, hx2, hx3, hx4, hx5⟩ := hV; go_simp; try with_reducible rfl) ?_
              try simp only [Act.put, List.setIfInBounds_toArray, List.set_cons_zero, List.set_cons_succ, List.getElem_toArray, List.getElem_cons_succ, List.getElem_cons_zero]
              refine tk 10 (by assumption) rfl (by kernel_rfl) (fun _ _ _ h => h) (fun V hV => by go_simp; try with_reducible rfl) ?_
              try simp only [Act.put, List.setIfInBounds_toArray, List.set_cons_zero, List.set_cons_succ, List.getElem_toArray, List.getElem_cons_succ, List.getElem_cons_zero]
              refine tk 14 (by assumption) rfl (by kernel_rfl) (fun _ _ _ h => h) (fun V hV => by go_simp; try with_reducible rfl) ?_
              try simp only [Act.put, List.setIfInBounds_toArray, List.set_cons_zero, List.set_cons_succ, List.getElem_toArray, List.getElem_cons_succ, List.getElem_cons_zero]
              refine tk 15 (by assumption) rfl (by kernel_rfl) (fun _ _ _ h => h) (fun V hV => by obtain ⟨hx0, hx1, hx2, hx3, hx4, hx5⟩ := hV; go_simp; try with_reducible rfl) ?_
              try simp only [Act.put, List.setIfInBounds_toArray, List.set_cons_zero, List.set_cons_succ, List.getElem_toArray, List.getElem_cons_succ, List.getElem_cons_zero]
              refine tk 17 (by assumption) rfl (by kernel_rfl) (fun _ _ _ h => h) (fun V hV => by go_simp; try with_reducible rfl) ?_
              try simp only [Act.put, List.setIfInBounds_toArray, List.set_cons_zero, List.set_cons_succ, List.getElem_toArray, List.getElem_cons_succ, List.getElem_cons_zero]
              refine tk 18 (by assumption) rfl (by kernel_rfl) (fun _ _ _ h => h) (fun V hV => by go_simp; try with_reducible rfl) ?_
              try simp only [Act.put, List.setIfInBounds_toArray, List.set_cons_zero, List.set_cons_succ, List.getElem_toArray, List.getElem_cons_succ, List.getElem_cons_zero]
              refine tk 19 (by assumption) rfl (by kernel_rfl) (fun _ _ _ h => h) (fun V hV => by go_simp; try with_reducible rfl) ?_
              try simp only [Act.put, List.setIfInBounds_toArray, List.set_cons_zero, List.set_cons_succ, List.getElem_toArray, List.getElem_cons_succ, List.getElem_cons_zero]
              refine tk 20 (by assumption) rfl (by kernel_rfl) (fun _ _ _ h => h) (fun V hV => by obtain ⟨hx0, hx1, hx2, hx3, hx4, hx5⟩ := hV; go_simp; try with_reducible rfl) ?_
              try simp only [Act.put, List.setIfInBounds_toArray, List.set_cons_zero, List.set_cons_succ, List.getElem_toArray, List.getElem_cons_succ, List.getElem_cons_zero]
              refine wpAnyH_ready (rs := [11]) (by kernel_rfl) (by simp) ?_
              refine AllReadyH.cons (o := _) rfl (fun K hK => ?_) AllReadyH.nil
              go_simp
              refine (HPL.out x V0 C0.out).mono ?_
              rintro e V1 ⟨rfl, hb1⟩
              rw [HPX.out]
              have B1 := Lib.hid (gNx B0.out hb1)
              have BR1 := Lib.hid (gNx HBR7.out (gNx B0.out hb1))
              clear hb1
              go_wp2_with fail
              refine hK.out _ _ (HSS.out _ B1.out) (fun hH => ?_)
              clear hK K
              try simp only [Act.put, List.setIfInBounds_toArray, List.set_cons_zero, List.set_cons_succ, List.getElem_toArray, List.getElem_cons_succ, List.getElem_cons_zero]
              refine tk 12 (by assumption) rfl (by kernel_rfl) (fun _ _ _ h => h) (fun V hV => by go_simp; try with_reducible rfl) ?_
              try simp only [Act.put, List.setIfInBounds_toArray, List.set_cons_zero, List.set_cons_succ, List.getElem_toArray, List.getElem_cons_succ, List.getElem_cons_zero]
              refine tk 13 (by assumption) rfl (by kernel_rfl) (fun _ _ _ h => h) (fun V hV => by obtain ⟨hx0, hx1, hx2, hx3, hx4, hx5⟩ := hV; go_simp; try with_reducible rfl) ?_
              try simp only [Act.put, List.setIfInBounds_toArray, List.set_cons_zero, List.set_cons_succ, List.getElem_toArray, List.getElem_cons_succ, List.getElem_cons_zero]
              refine tk 16 (by assumption) rfl (by kernel_rfl) (fun _ _ _ h => h) (fun V hV => by go_simp; try with_reducible rfl) ?_
              try simp only [Act.put, List.setIfInBounds_toArray, List.set_cons_zero, List.set_cons_succ, List.getElem_toArray, List.getElem_cons_succ, List.getElem_cons_zero]
              refine tk 21 (by assumption) rfl (by kernel_rfl) (fun _ _ _ h => h) (fun V hV => by go_simp; try with_reducible rfl) ?_
              try simp only [Act.put, List.setIfInBounds_toArray, List.set_cons_zero, List.set_cons_succ, List.getElem_toArray, List.getElem_cons_succ, List.getElem_cons_zero]
              refine tk 22 (by assumption) rfl (by kernel_rfl) (fun _ _ _ h => h) (fun V hV => by go_simp; try with_reducible rfl) ?_
              try simp only [Act.put, List.setIfInBounds_toArray, List.set_cons_zero, List.set_cons_succ, List.getElem_toArray, List.getElem_cons_succ, List.getElem_cons_zero]
              refine wpAnyH_done (by kernel_rfl) ?_ _
              clear hs0 e1 hpi hp0 hsi hs0'
              cases sb with
              | false =>
                have hS3 : (FloatKind.f64.format.order S dn != some .eq) = true := hS2
                have HS1 : Hid (bestK G.nodes fr c n G.links (k + 1) = bk) := Lib.hid (by rw [HFT2.out, if_neg (by simp)])
                clear hS2
                go_wp2_with fail
                refine ⟨⟨k + 1, congrArg (Value.int .i64) HK1.out.2.2.2, by rw [HS1.out], HK1.out.1, BR1.out⟩, ?_⟩
                show G.links.length - ((k : Int) + 1).toNat < G.links.length - (k : Int).toNat
                rw [HK1.out.2.2.1]
                exact HK1.out.2.1
              | true =>
                have hS3 : (FloatKind.f64.format.order S dn != some .eq) = false := hS2
                clear hS2
                by_cases hb : bk = 0
                · have f0 : (bk == 0) = true := by simpa using hb
                  have HS1 : Hid (bestK G.nodes fr c n G.links (k + 1) = x) := Lib.hid (by rw [HFT2.out, if_pos rfl, if_pos (Or.inl hb)])
                  clear hb
                  go_wp2_with fail
                  refine ⟨⟨k + 1, congrArg (Value.int .i64) HK1.out.2.2.2, by rw [HS1.out], HK1.out.1, BR1.out⟩, ?_⟩
                  show G.links.length - ((k : Int) + 1).toNat < G.links.length - (k : Int).toNat
                  rw [HK1.out.2.2.1]
                  exact HK1.out.2.1
                · have f0 : (bk == 0) = false := by simpa using hb
                  by_cases hl : x < bk
                  · have f1 : decide (x < bk) = true := decide_eq_true hl
                    have HS1 : Hid (bestK G.nodes fr c n G.links (k + 1) = x) := Lib.hid (by rw [HFT2.out, if_pos rfl, if_pos (Or.inr hl)])
                    clear hb
                    go_wp2_with fail
                    refine ⟨⟨k + 1, congrArg (Value.int .i64) HK1.out.2.2.2, by rw [HS1.out], HK1.out.1, BR1.out⟩, ?_⟩
                    show G.links.length - ((k : Int) + 1).toNat < G.links.length - (k : Int).toNat
                    rw [HK1.out.2.2.1]
                    exact HK1.out.2.1
                  · have f1 : decide (x < bk) = false := decide_eq_false hl
                    have HS1 : Hid (bestK G.nodes fr c n G.links (k + 1) = bk) := Lib.hid (by rw [HFT2.out, if_pos rfl, if_neg (by rintro (h | h); exact hb h; exact hl h)])
                    clear hb
                    go_wp2_with fail
                    refine ⟨⟨k + 1, congrArg (Value.int .i64) HK1.out.2.2.2, by rw [HS1.out], HK1.out.1, BR1.out⟩, ?_⟩
                    show G.links.length - ((k : Int) + 1).toNat < G.links.length - (k : Int).toNat
                    rw [HK1.out.2.2.1]
                    exact HK1.out.2.1
        · have hnk : ¬ (k : Int) < (G.links.length : Int) := by omega
          have hke : k = G.links.length := by omega
          rw [hke]
          have HBW := Lib.hid (gNx HB1.out HBE.out)
          clear hbel hlt hk hke
          go_wp2_with fail
          go_ret
          exact ⟨rfl, HBW.out⟩
end Go.Proofs.Ytcmknkdfoebniaa

namespace Go.Proofs.Ytcmknkdfoebniaa
open Go.RowKit Go.Lib Go.Fq Go.Pq Go.Iq Go.Nq Go.Ow
set_option linter.unusedVariables false
set_option linter.unusedSimpArgs false
set_option maxRecDepth 100000

theorem ahead_idf {ns : List Nd} (h : NodesP ns) {k : Nat} (hk : k < ns.length) : has ns (idf ns k : Int) = true ∧ Nq.ahead ns (idf ns k : Int) = k := by
  have e := (idf_is h hk).1
  have hh : has ns (idf ns k : Int) = true := by
    unfold has
    rw [List.any_eq_true]
    exact ⟨ns[k], List.getElem_mem hk, by simp [e]⟩
  refine ⟨hh, ?_⟩
  obtain ⟨hk2, hx⟩ := (has_at h _).1 hh
  obtain ⟨-, h4⟩ := ahead_spec h (idf ns k : Int)
  have a1 := h4 k hk
  rw [e] at a1
  rcases Nat.lt_trichotomy (Nq.ahead ns (idf ns k : Int)) k with hl | he | hg
  · have h5 := nodes_rise h k (Nq.ahead ns (idf ns k : Int)) hl hk
    rw [hx, e] at h5
    omega
  · exact he
  · have := a1.1 hg; omega
theorem next_is {G : Gr} (hz : checkG G = 0) (hw : ∀ y ∈ G.links, y.w < 2 ^ 64) {fr : Int} (hfr : has G.nodes fr = true) {lim : Nat} {D : List (Option (Nat × Nat))} (hS : StopsP G (Nq.ahead G.nodes fr) lim D) {k : Nat} (hk : k < G.nodes.length) {c : List (Option Nat)} (hC : DistsP G k lim c) :
    nextZ G fr (idf G.nodes k : Int) c = (fo (dd D k) : Int) := by
  have n3 := (check_zero.1 hz).2.2.1
  unfold nextZ
  by_cases hf : fr = (idf G.nodes k : Int)
  · rw [if_pos hf]
    have hs : Nq.ahead G.nodes fr = k := by rw [hf]; exact (ahead_idf n3 hk).2
    rw [hs] at hS
    obtain ⟨-, h2⟩ := hS
    by_cases hu : upAt G.nodes k = true
    · rw [if_pos hu] at h2
      cases hd : dd D k with
      | none => rfl
      | some p =>
        obtain ⟨n, f⟩ := p
        have := ((h2 k).1 n f hd).2.2 0 0 WayF.nil
        unfold Le at this
        have e : f = 0 := by omega
        subst e
        rfl
    · rw [if_neg hu] at h2
      rw [h2 k]
      rfl
  · rw [if_neg hf]
    have hne : Nq.ahead G.nodes fr ≠ k := fun e => hf (by rw [← e]; exact (id_at n3 hfr).1.symm)
    have ht := tri_sym hz hw hS.dists hC
    rw [dOf_at] at ht
    cases hd : dd D k with
    | none => rw [hd] at ht; rw [ht]; rfl
    | some p =>
      obtain ⟨n, f⟩ := p
      rw [hd] at ht
      rw [ht]
      exact next_fo hz hw hC hS hfr hne hd
theorem row_cells2 {w : World} {base n : Nat} {v : Value} {l : List (Option Nat)} (ho : Own w base 26 1 v n (dRow l)) (hl : l.length = n) (hn : 0 < n) : ∃ dg dc, v = .slice (some ⟨dg, 0, none⟩) n dc ∧ ∀ V, Below w.heap.size w V → ∀ i, i < n → V.cell? ⟨dg, i, none⟩ = some (.float .f64 (dw (g_ l i))) := by
  obtain ⟨dg, dc, rfl, -⟩ := own1_cell ho hn
  refine ⟨dg, dc, rfl, fun V hV i hi => ?_⟩
  obtain ⟨g', c', e1, e2⟩ := own1_cell (ho.below hV) hn
  simp only [Value.slice.injEq, Option.some.injEq, Addr.mk.injEq, and_true, true_and] at e1
  obtain ⟨rfl, rfl⟩ := e1
  exact e2 i hi _ (dRow_at (by rw [hl]; exact hi))
def TnS (V : World) (gb : Nat) (na la : Option Addr) (nc n lc m b o i : Nat) (x : Int) : Prop := V.cell? ⟨gb, 0, none⟩ = some (.slice na n nc) ∧ V.cell? ⟨gb, 1, none⟩ = some (.slice la m lc) ∧ V.cell? ⟨b, o + i * 3, none⟩ = some (.int .i64 x)
theorem nF_succ (D : List (Option (Nat × Nat))) (k : Nat) : (List.range (k + 1)).map (nF D) = (List.range k).map (nF D) ++ [.int .i64 (fo (dd D k) : Int)] := by
  rw [List.range_succ, List.map_append]; rfl
/-- What the document's Nexts tells. -/
def RNextsEnds (w : World) (G : Gr) (E : Int) (D : List (Option (Nat × Nat))) (e : Ending) (w' : World) : Prop :=
  (E ≠ 0 ∧ e = .returned (.tuple #[.slice none 0 0, .int .i64 E]) ∧ Below w.heap.size w w') ∨
  (E = 0 ∧ ∃ v, e = .returned (.tuple #[v, .int .i64 0]) ∧ Own w' w.heap.size 3 1 v G.nodes.length ((List.range G.nodes.length).map (nF D)) ∧ Below w.heap.size w w')
set_option maxHeartbeats 16000000 in
theorem rNexts_any (G : Gr) (na : Option Addr) (nc : Nat) (la : Option Addr) (lc : Nat) (max : Nat) (fr : Int) (D : List (Option (Nat × Nat))) (w : World) (hin : GrIn w G na la) (hm : max < 2 ^ 64) (hD : askE G max [fr] = 0 → StopsP G (Nq.ahead G.nodes fr) (qn max) D) :
    Calls Try.prog 16 #[.agg #[.slice na G.nodes.length nc, .slice la G.links.length lc], .float .f64 max, .int .i64 fr] w fun e w' => RNextsEnds w G (askE G max [fr]) D e w' := by
  obtain ⟨W1, hW1⟩ : ∃ W1, W1 = w.alloc (.cells #[.slice na G.nodes.length nc, .slice la G.links.length lc] 25) := ⟨_, rfl⟩
  have b1 : Below w.heap.size w W1 := by rw [hW1]; exact gAl _ _
  have s1 : w.heap.size < W1.heap.size := by rw [hW1]; simp
  have r1 : W1.heap[w.heap.size]? = some (.cells #[.slice na G.nodes.length nc, .slice la G.links.length lc] 25 (0, 0)) := by rw [hW1]; exact heap_alloc_new w _
  have HKG : Hid (∀ V, Below W1.heap.size W1 V → V.cell? ⟨w.heap.size, 0, none⟩ = some (.slice na G.nodes.length nc) ∧ V.cell? ⟨w.heap.size, 1, none⟩ = some (.slice la G.links.length lc)) := Lib.hid (fun V hV => by
    have := two_cells ((hV.block _ s1).trans r1)
    exact ⟨this.1, this.2.1⟩)
  have HB1 := Lib.hid b1
  have HIN : Hid (∀ V, Below W1.heap.size W1 V → GrIn V G na la) := Lib.hid (fun V hV => (hin.below b1).below hV)
  have HAK := Lib.hid (asked_any G na nc la lc max fr W1 (hin.below b1) hm)
  have HWT := Lib.hid hin.wts
  obtain ⟨E, hEE⟩ : ∃ E, E = askE G max [fr] := ⟨_, rfl⟩
  have HND : Hid (E = 0 → NodesP G.nodes ∧ 0 < G.nodes.length ∧ G.nodes.length ≤ 256 ∧ checkG G = 0 ∧ has G.nodes fr = true) := Lib.hid (fun h => by
    obtain ⟨-, a2, a3⟩ := askE_zero (hEE.symm.trans h)
    have hhas : has G.nodes fr = true := by simpa using a3
    obtain ⟨n1, n2, n3, n4⟩ := check_zero.1 a2
    have := ((has_at n3 fr).1 hhas).1
    exact ⟨n3, by omega, n1, a2, hhas⟩)
  have HDS : Hid (E = 0 → ∀ i, i < G.nodes.length → ∀ V, Below W1.heap.size W1 V → Calls Try.prog 34 #[.agg #[.slice na G.nodes.length nc, .slice la G.links.length lc], .float .f64 max, .int .i64 (idf G.nodes i : Int)] V fun e w' => ∃ l v, e = .returned v ∧ Own w' V.heap.size 26 1 v G.nodes.length (dRow l) ∧ DistsP G i (qn max) l ∧ Below V.heap.size V w' ∧ (∀ u, Sm (g_ l u)) ∧ nextZ G fr (idf G.nodes i : Int) l = (fo (dd D i) : Int)) := Lib.hid (fun h i hi V hV => by
    obtain ⟨a1, a2, a3⟩ := askE_zero (hEE.symm.trans h)
    have hhas : has G.nodes fr = true := by simpa using a3
    have n3 := (check_zero.1 a2).2.2.1
    have hS := hD (hEE.symm.trans h)
    obtain ⟨lim, l1, l2, l3⟩ := limit_q max hm a1
    subst l3
    rw [qn_qw (by omega)] at hS ⊢
    obtain ⟨i1, i2⟩ := ahead_idf n3 hi
    have := rdists_any G na nc la lc lim (idf G.nodes i : Int) V (HIN.out V hV) a2 i1 (by omega) l2
    rw [i2] at this
    refine this.mono ?_
    rintro e w' ⟨l, v, e1, e2, e3, e4⟩
    exact ⟨l, v, e1, e2, e3, e4, fun u => e3.sm l2 u, next_is a2 HWT.out hhas hS hi e3⟩)
  have HNX : Hid (E = 0 → ∀ tz c dg dc V, Below W1.heap.size W1 V → (∀ u, Sm (g_ c u)) → (∀ V', Below V.heap.size V V' → ∀ i, i < G.nodes.length → V'.cell? ⟨dg, i, none⟩ = some (.float .f64 (dw (g_ c i)))) → Calls Try.prog 36 #[.agg #[.slice na G.nodes.length nc, .slice la G.links.length lc], .int .i64 fr, .int .i64 tz, .slice (some ⟨dg, 0, none⟩) G.nodes.length dc] V fun e w' => e = .returned (.int .i64 (nextZ G fr tz c)) ∧ Below V.heap.size V w') := Lib.hid (fun h tz c dg dc V hV h1 h2 => rnext_any G na nc la lc fr tz c dg dc V (HIN.out V hV) (HND.out h).2.2.2.1 (HND.out h).2.2.2.2 h1 h2)
  rw [← hEE] at HAK ⊢
  obtain ⟨g0, g1⟩ := HKG.out W1 (Below.refl _ _)
  clear hin hm b1 s1 r1 hEE hD
  go_enter Try.func16, Try.ntmps16
  go_upto_region 1 with (fail)
  rw [← hW1]
  clear hW1
  go_wp2_with fail
  refine HAK.out.mono ?_
  rintro e w2 ⟨rfl, hb2⟩
  have HB2 := Lib.hid hb2
  clear hb2 g0 g1
  by_cases hE : E = 0
  · subst hE
    obtain ⟨n3, n4, n5, -, -⟩ := HND.out rfl
    have HNP := Lib.hid n3
    have HN : Hid (0 < G.nodes.length ∧ G.nodes.length ≤ 256) := Lib.hid ⟨n4, n5⟩
    have HDS2 := Lib.hid (HDS.out rfl)
    have HNX2 := Lib.hid (HNX.out rfl)
    clear n3 n4 n5 HND HDS HNX HAK
    go_wp2_with fail
    go_loopw [10, 9] (fun i v wr => ∃ k : Nat, i = .int .i64 (k : Int) ∧ k ≤ G.nodes.length ∧ Own wr w2.heap.size 3 1 v k ((List.range k).map (nF D)) ∧ Below w2.heap.size w2 wr) (fun i _ _ => G.nodes.length - (RowKit.intOf i).toNat)
    case atStart => exact ⟨0, rfl, Nat.zero_le _, Or.inl ⟨rfl, rfl, none, rfl⟩, Below.refl _ _⟩
    case round =>
      obtain ⟨k, rfl, hk, ho, hbel⟩ := hrel
      obtain ⟨wo, hwo⟩ : ∃ wo, wo = wr := ⟨_, rfl⟩
      subst hwo
      have HBE := Lib.hid hbel
      have HB3 := Lib.hid (gNx HB2.out hbel)
      obtain ⟨g0, g1⟩ := HKG.out wo HB3.out
      by_cases hlt : k < G.nodes.length
      · have hlti : (k : Int) < (G.nodes.length : Int) := by omega
        have hk0 : (0 : Int) ≤ (k : Int) := by omega
        have hkw : IntKind.i64.wrap ((k : Int) + 1) = (k : Int) + 1 := by rw [IntKind.wrap_i64]; have := HN.out.2; omega
        have HK1 : Hid (k + 1 ≤ G.nodes.length ∧ G.nodes.length - (k + 1) < G.nodes.length - k ∧ ((k : Int) + 1).toNat = k + 1 ∧ (k : Int) + 1 = ((k + 1 : Nat) : Int) ∧ k < 1048576) := Lib.hid ⟨by omega, by omega, by omega, by omega, by have := HN.out.2; omega⟩
        obtain ⟨b, o, hna, hbb, hcn⟩ := (HIN.out W1 (Below.refl _ _)).nodes.at k hlt
        obtain ⟨ni, -⟩ := hcn k hlt
        rw [(idf_is HNP.out hlt).1] at ni
        have HSS : Hid (∀ V, Below W1.heap.size W1 V → TnS V w.heap.size na la nc G.nodes.length lc G.links.length b o k (idf G.nodes k : Int)) := Lib.hid (fun V hV => ⟨(HKG.out V hV).1, (HKG.out V hV).2, (hV.cell (p := ⟨b, o + k * 3, none⟩) hbb).trans ni⟩)
        have HDK := Lib.hid (HDS2.out k hlt)
        have HNK := Lib.hid (HNX2.out (idf G.nodes k : Int))
        have HOW := Lib.hid ho
        obtain ⟨al, cl, rfl⟩ := ho.slice
        clear hcn ni hbb hbel ho HDS2 HNX2
        subst hna
        generalize (idf G.nodes k : Int) = x at *
        go_upto_region 8 with (fail)
        clear g0 g1
        refine wp_region_held_drew (S := fun V => TnS V w.heap.size (some ⟨b, o, none⟩) la nc G.nodes.length lc G.links.length b o k x) (by kernel_rfl) (HSS.out _ (Below.drew HB3.out)) (fun hH => ?_)
        have hs0 := HSS.out _ (Below.drew HB3.out)
        have B0 : Hid (Below wo.heap.size wo wo.drew) := Lib.hid (Below.drew (Below.refl _ _))
        have C0 : Hid (Below W1.heap.size W1 wo.drew) := Lib.hid (Below.drew HB3.out)
        generalize wo.drew = V0 at *
        refine tk 0 (by assumption) rfl (by kernel_rfl) (fun _ _ _ h => h) (fun V hV => by go_simp; try with_reducible rfl) ?_
        try simp only [Act.put, List.setIfInBounds_toArray, List.set_cons_zero, List.set_cons_succ, List.getElem_toArray, List.getElem_cons_succ, List.getElem_cons_zero]
        refine tk 1 (by assumption) rfl (by kernel_rfl) (fun _ _ _ h => h) (fun V hV => by obtain ⟨hx0, hx1, hx2⟩ := hV; go_simp; try with_reducible rfl) ?_
        try simp only [Act.put, List.setIfInBounds_toArray, List.set_cons_zero, List.set_cons_succ, List.getElem_toArray, List.getElem_cons_succ, List.getElem_cons_zero]
        refine tk 2 (by assumption) rfl (by kernel_rfl) (fun _ _ _ h => h) (fun V hV => by go_simp; try with_reducible rfl) ?_
        try simp only [Act.put, List.setIfInBounds_toArray, List.set_cons_zero, List.set_cons_succ, List.getElem_toArray, List.getElem_cons_succ, List.getElem_cons_zero]
        refine tk 3 (by assumption) rfl (by kernel_rfl) (fun _ _ _ h => h) (fun V hV => by go_simp; try with_reducible rfl) ?_
        try simp only [Act.put, List.setIfInBounds_toArray, List.set_cons_zero, List.set_cons_succ, List.getElem_toArray, List.getElem_cons_succ, List.getElem_cons_zero]
        refine tk 4 (by assumption) rfl (by kernel_rfl) (fun _ _ _ h => h) (fun V hV => by obtain ⟨hx0, hx1, hx2⟩ := hV; go_simp; try with_reducible rfl) ?_
        try simp only [Act.put, List.setIfInBounds_toArray, List.set_cons_zero, List.set_cons_succ, List.getElem_toArray, List.getElem_cons_succ, List.getElem_cons_zero]
        refine tk 5 (by assumption) rfl (by kernel_rfl) (fun _ _ _ h => h) (fun V hV => by go_simp; try with_reducible rfl) ?_
        try simp only [Act.put, List.setIfInBounds_toArray, List.set_cons_zero, List.set_cons_succ, List.getElem_toArray, List.getElem_cons_succ, List.getElem_cons_zero]
        refine tk 6 (by assumption) rfl (by kernel_rfl) (fun _ _ _ h => h) (fun V hV => by go_simp; try with_reducible rfl) ?_
        try simp only [Act.put, List.setIfInBounds_toArray, List.set_cons_zero, List.set_cons_succ, List.getElem_toArray, List.getElem_cons_succ, List.getElem_cons_zero]
        refine tk 7 (by assumption) rfl (by kernel_rfl) (fun _ _ _ h => h) (fun V hV => by go_simp; try with_reducible rfl) ?_
        try simp only [Act.put, List.setIfInBounds_toArray, List.set_cons_zero, List.set_cons_succ, List.getElem_toArray, List.getElem_cons_succ, List.getElem_cons_zero]
        refine tk 8 (by assumption) rfl (by kernel_rfl) (fun _ _ _ h => h) (fun V hV => by obtain ⟨hx0, hx1, hx2⟩ := hV; go_simp; try with_reducible rfl) ?_
        try simp only [Act.put, List.setIfInBounds_toArray, List.set_cons_zero, List.set_cons_succ, List.getElem_toArray, List.getElem_cons_succ, List.getElem_cons_zero]
        refine tk 9 (by assumption) rfl (by kernel_rfl) (fun _ _ _ h => h) (fun V hV => by obtain ⟨hx0, hx1, hx2⟩ := hV; go_simp; try with_reducible rfl) ?_
        try simp only [Act.put, List.setIfInBounds_toArray, List.set_cons_zero, List.set_cons_succ, List.getElem_toArray, List.getElem_cons_succ, List.getElem_cons_zero]
        refine tk 10 (by assumption) rfl (by kernel_rfl) (fun _ _ _ h => h) (fun V hV => by go_simp; try with_reducible rfl) ?_
        try simp only [Act.put, List.setIfInBounds_toArray, List.set_cons_zero, List.set_cons_succ, List.getElem_toArray, List.getElem_cons_succ, List.getElem_cons_zero]
        refine tk 11 (by assumption) rfl (by kernel_rfl) (fun _ _ _ h => h) (fun V hV => by go_simp; try with_reducible rfl) ?_
        try simp only [Act.put, List.setIfInBounds_toArray, List.set_cons_zero, List.set_cons_succ, List.getElem_toArray, List.getElem_cons_succ, List.getElem_cons_zero]
        refine tk 12 (by assumption) rfl (by kernel_rfl) (fun _ _ _ h => h) (fun V hV => by obtain ⟨hx0, hx1, hx2⟩ := hV; go_simp; try with_reducible rfl) ?_
        try simp only [Act.put, List.setIfInBounds_toArray, List.set_cons_zero, List.set_cons_succ, List.getElem_toArray, List.getElem_cons_succ, List.getElem_cons_zero]
        refine tk 13 (by assumption) rfl (by kernel_rfl) (fun _ _ _ h => h) (fun V hV => by go_simp; try with_reducible rfl) ?_
        try simp only [Act.put, List.setIfInBounds_toArray, List.set_cons_zero, List.set_cons_succ, List.getElem_toArray, List.getElem_cons_succ, List.getElem_cons_zero]
        refine tk 14 (by assumption) rfl (by kernel_rfl) (fun _ _ _ h => h) (fun V hV => by go_simp; try with_reducible rfl) ?_
        try simp only [Act.put, List.setIfInBounds_toArray, List.set_cons_zero, List.set_cons_succ, List.getElem_toArray, List.getElem_cons_succ, List.getElem_cons_zero]
        refine tk 15 (by assumption) rfl (by kernel_rfl) (fun _ _ _ h => h) (fun V hV => by go_simp; try with_reducible rfl) ?_
        try simp only [Act.put, List.setIfInBounds_toArray, List.set_cons_zero, List.set_cons_succ, List.getElem_toArray, List.getElem_cons_succ, List.getElem_cons_zero]
        refine tk 16 (by assumption) rfl (by kernel_rfl) (fun _ _ _ h => h) (fun V hV => by obtain ⟨hx0, hx1, hx2⟩ := hV; go_simp; try with_reducible rfl) ?_
        try simp only [Act.put, List.setIfInBounds_toArray, List.set_cons_zero, List.set_cons_succ, List.getElem_toArray, List.getElem_cons_succ, List.getElem_cons_zero]
        refine wpAnyH_ready (rs := [17]) (by kernel_rfl) (by simp) ?_
        refine AllReadyH.cons (o := _) rfl (fun K hK => ?_) AllReadyH.nil
        go_simp
        refine (HDK.out V0 C0.out).mono ?_
        rintro e V1 ⟨c, cv, rfl, hoc, hdc, hb1, hsm, hnz⟩
        have B1 := Lib.hid (gNx B0.out hb1)
        have C1 := Lib.hid (gNx C0.out hb1)
        obtain ⟨cg, cc, hve, hcc⟩ := row_cells2 hoc hdc.1 HN.out.1
        have HCX := Lib.hid (HNK.out c cg cc V1 C1.out hsm hcc)
        rw [hnz] at HCX
        subst hve
        clear hoc hdc hb1 hcc hsm hnz
        go_wp2_with fail
        refine hK.out _ _ (HSS.out _ C1.out) (fun hH => ?_)
        clear hK K
        try simp only [Act.put, List.setIfInBounds_toArray, List.set_cons_zero, List.set_cons_succ, List.getElem_toArray, List.getElem_cons_succ, List.getElem_cons_zero]
        refine wpAnyH_ready (rs := [18]) (by kernel_rfl) (by simp) ?_
        refine AllReadyH.cons (o := _) rfl (fun K hK => ?_) AllReadyH.nil
        go_simp
        refine HCX.out.mono ?_
        rintro e V2 ⟨rfl, hb2⟩
        have B2 := Lib.hid (gNx B1.out hb2)
        have C2 := Lib.hid (gNx C1.out hb2)
        clear hb2
        go_wp2_with fail
        refine hK.out _ _ (HSS.out _ C2.out) (fun hH => ?_)
        clear hK K
        try simp only [Act.put, List.setIfInBounds_toArray, List.set_cons_zero, List.set_cons_succ, List.getElem_toArray, List.getElem_cons_succ, List.getElem_cons_zero]
        refine wpAnyH_ready (rs := [19]) (by kernel_rfl) (by simp) ?_
        refine AllReadyH.cons (o := _) rfl (fun K hK => ?_) AllReadyH.nil
        go_simp
        obtain ⟨V3, hV3⟩ : ∃ V3, V3 = V2.alloc (.cells #[.int .i64 (fo (dd D k) : Int)] 3) := ⟨_, rfl⟩
        rw [← hV3]
        have B3 : Hid (Below wo.heap.size wo V3) := Lib.hid (by rw [hV3]; exact gNx B2.out (gAl _ _))
        have C3 : Hid (Below W1.heap.size W1 V3) := Lib.hid (by rw [hV3]; exact gNx C2.out (gAl _ _))
        have HV3 : Hid (V3.heap[V2.heap.size]? = some (.cells #[.int .i64 (fo (dd D k) : Int)] 3 (0, 0))) := Lib.hid (by rw [hV3]; exact heap_alloc_new V2 _)
        clear hV3
        refine hK.out _ _ (HSS.out _ C3.out) (fun hH => ?_)
        clear hK K
        try simp only [Act.put, List.setIfInBounds_toArray, List.set_cons_zero, List.set_cons_succ, List.getElem_toArray, List.getElem_cons_succ, List.getElem_cons_zero]
        refine wpAnyH_ready (rs := [20]) (by kernel_rfl) (by simp) ?_
        refine AllReadyH.cons (o := _) rfl (fun K hK => ?_) AllReadyH.nil
        have hbase : w2.heap.size ≤ V3.heap.size := Nat.le_trans HBE.out.size B3.out.size
        obtain ⟨v2, W2, hrun, hrow, hkq⟩ := own_app (P := Try.prog) (vb := V2.heap.size) (vs := [.int .i64 (fo (dd D k) : Int)]) Try.underlying34 inInfo rfl (HOW.out.below B3.out) hbase HV3.out rfl (by intro v hv; rw [List.mem_singleton] at hv; rw [hv]; rfl) (by have := HK1.out.2.2.2.2; omega) (by have := HK1.out.2.2.2.2; omega)
        obtain ⟨va2, vc2, rfl⟩ := hrow.slice
        have HRW : Hid (Own W2 w2.heap.size 3 1 (.slice va2 (k + 1) vc2) (k + 1) ((List.range (k + 1)).map (nF D))) := Lib.hid (by rw [nF_succ]; exact hrow)
        have HBB : Hid (Below w2.heap.size w2 W2) := Lib.hid ((gNx HBE.out B3.out).trans (Kq.below2 hkq (HOW.out.below B3.out) hbase))
        have HR := Lib.hid hrun
        clear hrun hrow hkq hbase
        refine step_append_r rfl _ _ 34 34 rfl (.slice al k cl) (.slice (some ⟨V2.heap.size, 0, none⟩) 1 1) (by simp [Act.eval, Act.put]) (by simp [Act.eval, Act.put]) (HR.out _) ?_
        refine hK.out _ _ (HSS.out _ (gNx HB2.out HBB.out)) (fun hH => ?_)
        clear hK K HR
        try simp only [Act.put, List.setIfInBounds_toArray, List.set_cons_zero, List.set_cons_succ, List.getElem_toArray, List.getElem_cons_succ, List.getElem_cons_zero]
        refine tk 21 (by assumption) rfl (by kernel_rfl) (fun _ _ _ h => h) (fun V hV => by go_simp; try with_reducible rfl) ?_
        try simp only [Act.put, List.setIfInBounds_toArray, List.set_cons_zero, List.set_cons_succ, List.getElem_toArray, List.getElem_cons_succ, List.getElem_cons_zero]
        refine wpAnyH_done (by kernel_rfl) ?_ _
        go_wp2_with fail
        refine ⟨⟨k + 1, congrArg (Value.int .i64) HK1.out.2.2.2.1, HK1.out.1, HRW.out, HBB.out⟩, ?_⟩
        show G.nodes.length - ((k : Int) + 1).toNat < G.nodes.length - (k : Int).toNat
        rw [HK1.out.2.2.1]
        exact HK1.out.2.1
      · have hnk : ¬ (k : Int) < (G.nodes.length : Int) := by omega
        have hke : k = G.nodes.length := by omega
        rw [hke] at ho
        have HOW := Lib.hid (ho.mono (gNx HB1.out HB2.out).size)
        have HBW := Lib.hid (gNx HB1.out HB3.out)
        clear ho hbel hke hlt hk
        go_wp2_with fail
        refine bodyPost_ret (v := .tuple #[u9, .int .i64 0]) (by simp [results, Try.results16, go_sem]) rfl ?_
        exact Or.inr ⟨rfl, u9, rfl, HOW.out, HBW.out⟩
  · have HNE := Lib.hid hE
    have hz2 : (E != 0) = true := by simpa using hE
    clear hE
    go_wp2_with fail
    refine bodyPost_ret (v := .tuple #[.slice none 0 0, .int .i64 E]) (by simp [results, Try.results16, go_sem]) rfl ?_
    exact Or.inl ⟨HNE.out, rfl, gNx HB1.out HB2.out⟩
theorem ints_none2 (w : World) : Calls Try.prog 17 #[.slice none 0 0, .slice none 0 0] w fun e w' => e = .returned (.bool true) ∧ Below w.heap.size w w' :=
  ints_same w.heap.size w.heap.size _ _ (fun _ => 0) 0 w (Or.inl ⟨rfl, rfl, none, rfl⟩) (Or.inl ⟨rfl, rfl, none, rfl⟩) (by omega)
set_option maxHeartbeats 8000000 in
theorem law_pnexts (G : Gr) (na : Option Addr) (nc : Nat) (la : Option Addr) (lc : Nat) (max : Nat) (fr : Int) (w : World) (hin : GrIn w G na la) (hm : max < 2 ^ 64) (_ : (Lit.int .i64 fr).wf = true) :
    Calls Try.prog 4 #[.agg #[.slice na G.nodes.length nc, .slice la G.links.length lc], .float .f64 max, .int .i64 fr] w fun e w' => e = .returned (.bool true) ∧ Below w.heap.size w w' := by
  obtain ⟨W1, hW1⟩ : ∃ W1, W1 = w.alloc (.cells #[.slice na G.nodes.length nc, .slice la G.links.length lc] 25) := ⟨_, rfl⟩
  have b1 : Below w.heap.size w W1 := by rw [hW1]; exact gAl _ _
  have s1 : w.heap.size < W1.heap.size := by rw [hW1]; simp
  have r1 : W1.heap[w.heap.size]? = some (.cells #[.slice na G.nodes.length nc, .slice la G.links.length lc] 25 (0, 0)) := by rw [hW1]; exact heap_alloc_new w _
  have HKG : Hid (∀ V, Below W1.heap.size W1 V → V.cell? ⟨w.heap.size, 0, none⟩ = some (.slice na G.nodes.length nc) ∧ V.cell? ⟨w.heap.size, 1, none⟩ = some (.slice la G.links.length lc)) := Lib.hid (fun V hV => by
    have := two_cells ((hV.block _ s1).trans r1)
    exact ⟨this.1, this.2.1⟩)
  have HB1 := Lib.hid b1
  have HP := Lib.hid (pNexts_any G na nc la lc max fr W1 (hin.below b1) hm)
  have HR := Lib.hid (fun V (hV : Below W1.heap.size W1 V) D hD => rNexts_any G na nc la lc max fr D V ((hin.below b1).below hV) hm hD)
  have HNL : Hid (askE G max [fr] = 0 → G.nodes.length ≤ 256) := Lib.hid (fun h => (check_zero.1 (askE_zero h).2.1).1)
  have HAW := Lib.hid pAwake_any
  obtain ⟨g0, g1⟩ := HKG.out W1 (Below.refl _ _)
  generalize askE G max [fr] = E at *
  generalize Nq.ahead G.nodes fr = s at *
  generalize qn max = lim at *
  clear hin hm b1 s1 r1
  go_enter Try.func4, Try.ntmps4
  go_upto_region 1 with (fail)
  rw [← hW1]
  clear hW1
  go_wp2_with fail
  refine HP.out.mono ?_
  rintro e w2 (⟨hne, rfl, hb2⟩ | ⟨hE, D, v, rfl, ho, hsp, hb2⟩)
  · have HB2 := Lib.hid hb2
    have HNE := Lib.hid hne
    clear hb2 hne g0 g1
    obtain ⟨g0, g1⟩ := HKG.out w2 HB2.out
    go_wp2_with fail
    refine (HR.out w2 HB2.out [] (fun h => absurd h HNE.out)).mono ?_
    rintro e w3 (⟨-, rfl, hb3⟩ | ⟨hE, -⟩)
    case inr => exact absurd hE HNE.out
    have HB3 := Lib.hid (gNx HB1.out (gNx HB2.out hb3))
    clear hb3 g0 g1
    go_wp2_with fail
    refine (ints_none2 w3).mono ?_
    rintro e w4 ⟨rfl, hb4⟩
    have HB4 := Lib.hid (gNx HB3.out hb4)
    clear hb4
    go_wp2_with fail
    refine (HAW.out w4).mono ?_
    rintro e w5 ⟨rfl, hb5⟩
    have HB5 := Lib.hid (gNx HB4.out hb5)
    clear hb5
    go_wp2_with fail
    go_ret
    exact ⟨rfl, HB5.out⟩
  · subst hE
    have HB2 := Lib.hid hb2
    have HO := Lib.hid ho
    have HSP := Lib.hid hsp
    have HN := Lib.hid (HNL.out rfl)
    clear hb2 ho hsp g0 g1
    obtain ⟨g0, g1⟩ := HKG.out w2 HB2.out
    obtain ⟨av, cv, hva⟩ := HO.out.slice
    subst hva
    go_wp2_with fail
    refine (HR.out w2 HB2.out D (fun _ => HSP.out)).mono ?_
    rintro e w3 (⟨hne, -⟩ | ⟨-, v2, rfl, ho2, hb3⟩)
    case inl => exact absurd rfl hne
    have HFS := Lib.hid (ints_same _ _ _ v2 (fun i => (fo (dd D i) : Int)) G.nodes.length w3 (HO.out.below hb3) ho2 (by have := HN.out; omega))
    have HB3 := Lib.hid (gNx HB1.out (gNx HB2.out hb3))
    obtain ⟨av2, cv2, rfl⟩ := ho2.slice
    clear ho2 hb3 g0 g1
    go_wp2_with fail
    refine HFS.out.mono ?_
    rintro e w4 ⟨rfl, hb4⟩
    have HB4 := Lib.hid (gNx HB3.out hb4)
    clear hb4
    go_wp2_with fail
    refine (HAW.out w4).mono ?_
    rintro e w5 ⟨rfl, hb5⟩
    have HB5 := Lib.hid (gNx HB4.out hb5)
    clear hb5
    go_wp2_with fail
    go_ret
    exact ⟨rfl, HB5.out⟩
end Go.Proofs.Ytcmknkdfoebniaa

namespace Go.Proofs.Ytcmknkdfoebniaa
open Go.RowKit Go.Lib Go.Fq Go.Pq Go.Iq Go.Nq Go.Ow
set_option linter.unusedVariables false
set_option linter.unusedSimpArgs false
set_option maxRecDepth 100000

theorem ask_two (G : Gr) (max : Nat) (fr to_ : Int) : (askE G max [fr] ≠ 0 → askE G max [fr, to_] = askE G max [fr]) ∧ (askE G max [fr] = 0 → askE G max [fr, to_] = askE G max [to_]) := by
  unfold askE
  by_cases h1 : limitF max ≠ 0
  · simp [if_pos h1]
  · simp only [if_neg h1]
    by_cases h2 : checkG G ≠ 0
    · simp [if_pos h2]
    · simp only [if_neg h2]
      cases h3 : has G.nodes fr <;> cases h4 : has G.nodes to_ <;> simp [h3, h4]
theorem pathL_len (g : Gr) (t : Nat) (c : List (Option Nat)) : ∀ f u, (pathL g t c f u).length ≤ f := by
  intro f
  induction f with
  | zero => intro u; exact Nat.le_refl _
  | succ f ih =>
    intro u
    unfold pathL
    split
    · simp
    · have := ih (Nq.ahead g.nodes (bestK g.nodes (idf g.nodes u : Int) c ((g_ c u).getD 0) g.links g.links.length))
      simp only [List.length_cons]
      omega
def iRow (zs : List Int) : List Value := zs.map (Value.int .i64)
theorem iRow_snoc (zs : List Int) (x : Int) : iRow (zs ++ [x]) = iRow zs ++ [.int .i64 x] := by simp [iRow]
/-- What Path tells. -/
def PathEnds (w : World) (G : Gr) (E : Int) (s t lim : Nat) (e : Ending) (w' : World) : Prop :=
  (E ≠ 0 ∧ e = .returned (.tuple #[.slice none 0 0, .float .f64 0, .int .i64 E]) ∧ Below w.heap.size w w') ∨
  (E = 0 ∧ ∃ c, DistsP G t lim c ∧ Below w.heap.size w w' ∧
    ((g_ c s = none ∧ e = .returned (.tuple #[.slice none 0 0, .float .f64 (dw none), .int .i64 0])) ∨
     (∃ n v, g_ c s = some n ∧ e = .returned (.tuple #[v, .float .f64 (dw (some n)), .int .i64 0]) ∧ Own w' w.heap.size 3 1 v ((idf G.nodes s : Int) :: pathL G t c (n + 1) s).length (iRow ((idf G.nodes s : Int) :: pathL G t c (n + 1) s)))))
set_option maxHeartbeats 16000000 in
theorem rPath_any (G : Gr) (na : Option Addr) (nc : Nat) (la : Option Addr) (lc : Nat) (max : Nat) (fr tz : Int) (w : World) (hin : GrIn w G na la) (hm : max < 2 ^ 64) :
    Calls Try.prog 19 #[.agg #[.slice na G.nodes.length nc, .slice la G.links.length lc], .float .f64 max, .int .i64 fr, .int .i64 tz] w fun e w' => PathEnds w G (askE G max [fr, tz]) (Nq.ahead G.nodes fr) (Nq.ahead G.nodes tz) (qn max) e w' := by
  obtain ⟨W1, hW1⟩ : ∃ W1, W1 = w.alloc (.cells #[.slice na G.nodes.length nc, .slice la G.links.length lc] 25) := ⟨_, rfl⟩
  have b1 : Below w.heap.size w W1 := by rw [hW1]; exact gAl _ _
  have s1 : w.heap.size < W1.heap.size := by rw [hW1]; simp
  have r1 : W1.heap[w.heap.size]? = some (.cells #[.slice na G.nodes.length nc, .slice la G.links.length lc] 25 (0, 0)) := by rw [hW1]; exact heap_alloc_new w _
  have HKG : Hid (∀ V, Below W1.heap.size W1 V → V.cell? ⟨w.heap.size, 0, none⟩ = some (.slice na G.nodes.length nc) ∧ V.cell? ⟨w.heap.size, 1, none⟩ = some (.slice la G.links.length lc)) := Lib.hid (fun V hV => by
    have := two_cells ((hV.block _ s1).trans r1)
    exact ⟨this.1, this.2.1⟩)
  have HB1 := Lib.hid b1
  have HIN : Hid (∀ V, Below W1.heap.size W1 V → GrIn V G na la) := Lib.hid (fun V hV => (hin.below b1).below hV)
  have HAK := Lib.hid (asked_any G na nc la lc max fr W1 (hin.below b1) hm)
  have HAT := Lib.hid (fun V (hV : Below W1.heap.size W1 V) => asked_any G na nc la lc max tz V (HIN.out V hV) hm)
  have HWT := Lib.hid hin.wts
  obtain ⟨A1, A2⟩ := ask_two G max fr tz
  obtain ⟨E, hEE⟩ : ∃ E, E = askE G max [fr] := ⟨_, rfl⟩
  obtain ⟨F, hFF⟩ : ∃ F, F = askE G max [tz] := ⟨_, rfl⟩
  obtain ⟨EF, hEF⟩ : ∃ EF, EF = askE G max [fr, tz] := ⟨_, rfl⟩
  rw [← hEE, ← hEF] at A1
  rw [← hEE, ← hEF, ← hFF] at A2
  have HA1 := Lib.hid A1
  have HA2 := Lib.hid A2
  have HZ : Hid (E = 0 → F = 0 → checkG G = 0 ∧ NodesP G.nodes ∧ 0 < G.nodes.length ∧ G.nodes.length ≤ 256 ∧ has G.nodes fr = true ∧ has G.nodes tz = true ∧ Nq.ahead G.nodes fr < G.nodes.length ∧ Nq.ahead G.nodes tz < G.nodes.length ∧ (idf G.nodes (Nq.ahead G.nodes fr) : Int) = fr ∧ (idf G.nodes (Nq.ahead G.nodes tz) : Int) = tz ∧ qn max ≤ 4294967296) := Lib.hid (fun h h' => by
    obtain ⟨a0, a2, a3⟩ := askE_zero (hEE.symm.trans h)
    obtain ⟨-, -, a4⟩ := askE_zero (hFF.symm.trans h')
    have h1 : has G.nodes fr = true := by simpa using a3
    have h2 : has G.nodes tz = true := by simpa using a4
    obtain ⟨n1, n2, n3, n4⟩ := check_zero.1 a2
    obtain ⟨k1, -⟩ := (has_at n3 fr).1 h1
    obtain ⟨k2, -⟩ := (has_at n3 tz).1 h2
    obtain ⟨lim, l1, l2, l3⟩ := limit_q max hm a0
    exact ⟨a2, n3, by omega, n1, h1, h2, k1, k2, (id_at n3 h1).1, (id_at n3 h2).1, by rw [l3, qn_qw (by omega)]; exact l2⟩)
  have HDS : Hid (F = 0 → ∀ V, Below W1.heap.size W1 V → Calls Try.prog 34 #[.agg #[.slice na G.nodes.length nc, .slice la G.links.length lc], .float .f64 max, .int .i64 tz] V fun e w' => RDistsEnds V G (Nq.ahead G.nodes tz) (qn max) e w') := Lib.hid (fun hz V hV => by
    obtain ⟨a1, a2, a3⟩ := askE_zero (hFF.symm.trans hz)
    have hhas : has G.nodes tz = true := by simpa using a3
    obtain ⟨lim, l1, l2, l3⟩ := limit_q max hm a1
    subst l3
    rw [qn_qw (by omega)]
    exact rdists_any G na nc la lc lim tz V (HIN.out V hV) a2 hhas (by omega) l2)
  have HPV : Hid (E = 0 → F = 0 → placeV G.nodes fr = (Nq.ahead G.nodes fr : Int)) := Lib.hid (fun h h' => placeV_has (HZ.out h h').2.2.2.2.1)
  rw [← hEE] at HAK
  rw [← hFF] at HAT
  rw [← hEF]
  generalize hlim : qn max = lim at *
  generalize Nq.ahead G.nodes fr = s at *
  generalize Nq.ahead G.nodes tz = t at *
  obtain ⟨g0, g1⟩ := HKG.out W1 (Below.refl _ _)
  clear hin hm b1 s1 r1 hEE hFF hEF A1 A2 hlim
  go_enter Try.func19, Try.ntmps19
  go_upto_region 1 with (fail)
  rw [← hW1]
  clear hW1
  go_wp2_with fail
  refine HAK.out.mono ?_
  rintro e w2 ⟨rfl, hb2⟩
  have HB2 := Lib.hid hb2
  clear hb2 g0 g1
  by_cases hE : E = 0
  · subst hE
    obtain ⟨g0, g1⟩ := HKG.out w2 HB2.out
    go_wp2_with fail
    refine (HAT.out w2 HB2.out).mono ?_
    rintro e w3 ⟨rfl, hb3⟩
    have HB3 := Lib.hid (gNx HB2.out hb3)
    clear hb3 g0 g1
    have hEF := HA2.out (by simp)
    subst EF
    by_cases hF : F = 0
    · subst hF
      have HZZ := Lib.hid (HZ.out (by simp) (by simp))
      have HDT := Lib.hid (HDS.out (by simp))
      have HPV2 := Lib.hid (HPV.out (by simp) (by simp))
      clear HZ HDS HA1 HA2 HAK HAT
      obtain ⟨g0, g1⟩ := HKG.out w3 HB3.out
      go_wp2_with fail
      refine (HDT.out w3 HB3.out).mono ?_
      rintro e w4 ⟨c, v, rfl, ho, hdp, hb4⟩
      have HB4 := Lib.hid (gNx HB3.out hb4)
      have HDP := Lib.hid hdp
      obtain ⟨cg, cc, hve, hcc⟩ := row_cells2 ho hdp.1 HZZ.out.2.2.1
      have HCC := Lib.hid hcc
      subst hve
      clear ho hdp hb4 hcc g0 g1 HDT
      obtain ⟨g0, g1⟩ := HKG.out w4 HB4.out
      go_wp2_with fail
      refine (sPlace_any G.nodes na nc la G.links.length lc fr w4 (HIN.out w4 HB4.out).nodes HZZ.out.2.1 (by have := HZZ.out.2.2.2.1; omega)).mono ?_
      rintro e w5 ⟨rfl, hb5⟩
      rw [HPV2.out]
      have HB5 := Lib.hid (gNx HB4.out hb5)
      have HCC5 : Hid (∀ V, Below w5.heap.size w5 V → ∀ i, i < G.nodes.length → V.cell? ⟨cg, i, none⟩ = some (.float .f64 (dw (g_ c i)))) := Lib.hid (fun V hV => HCC.out V (gNx hb5 hV))
      clear hb5 g0 g1
      have c5 := HCC5.out w5 (Below.refl _ _) s HZZ.out.2.2.2.2.2.2.1
      have hsl : (s : Int) < (G.nodes.length : Int) := by have := HZZ.out.2.2.2.2.2.2.1; omega
      have hs00 : (0 : Int) ≤ (s : Int) := by omega
      have HSM : Hid (∀ u, Sm (g_ c u)) := Lib.hid (fun u => HDP.out.sm HZZ.out.2.2.2.2.2.2.2.2.2.2 u)
      cases hq : g_ c s with
      | none =>
        have HIF := Lib.hid (isinf_o (g_ c s) (HSM.out s) true (by rw [hq]; rfl))
        rw [hq] at c5 HIF
        have HQ := Lib.hid hq
        clear hq
        obtain ⟨d, hd⟩ : ∃ d, d = dw none := ⟨_, rfl⟩
        have HD := Lib.hid hd
        rw [← hd] at c5 HIF
        clear hd
        go_wp2_with (go_at_call 28; refine (HIF.out _).mono ?_; rintro e w' ⟨rfl, rfl⟩)
        refine bodyPost_ret (v := .tuple #[.slice none 0 0, .float .f64 d, .int .i64 0]) (by simp [results, Try.results19, go_sem]) rfl ?_
        exact Or.inr ⟨rfl, c, HDP.out, gNx HB1.out HB5.out, Or.inl ⟨HQ.out, by rw [HD.out]⟩⟩
      | some n =>
        have HIF := Lib.hid (isinf_o (g_ c s) (HSM.out s) false (by rw [hq]; rfl))
        have HN : Hid (n ≤ 4294967296) := Lib.hid (by have := HSM.out s; rw [hq] at this; exact this)
        rw [hq] at c5 HIF
        have HQ := Lib.hid hq
        clear hq
        obtain ⟨d, hd⟩ : ∃ d, d = dw (some n) := ⟨_, rfl⟩
        have HD := Lib.hid hd
        rw [← hd] at c5 HIF
        clear hd
        obtain ⟨W6, hW6⟩ : ∃ W6, W6 = w5.alloc (.cells #[.int .i64 fr] 3) := ⟨_, rfl⟩
        have HB6 : Hid (Below W1.heap.size W1 W6) := Lib.hid (by rw [hW6]; exact gNx HB5.out (gAl _ _))
        have B6 : Hid (Below w5.heap.size w5 W6) := Lib.hid (by rw [hW6]; exact gAl _ _)
        have HO6 : Hid (Own W6 w5.heap.size 3 1 (.slice (some ⟨w5.heap.size, 0, none⟩) 1 1) [fr].length (iRow [fr])) := Lib.hid (by
          have := own_fE w5 (fun _ => .int .i64 fr) (.int .i64 fr) 3 1 (by omega)
          rw [hW6]
          exact this)
        obtain ⟨ob, hob⟩ : ∃ ob, ob = w5.heap.size := ⟨_, rfl⟩
        have HOB := Lib.hid hob
        go_upto_region 11 with (go_at_call 28; refine (HIF.out _).mono ?_; rintro e w' ⟨rfl, rfl⟩)
        rw [← hW6]
        rw [← hob] at HO6 ⊢
        clear hW6 c5 HIF hsl hs00 hob
        go_wp2_with fail
        obtain ⟨FULL, hfull⟩ : ∃ FULL, FULL = (idf G.nodes s : Int) :: pathL G t c (n + 1) s := ⟨_, rfl⟩
        have HFU := Lib.hid hfull
        have HFL : Hid (FULL.length ≤ 4294967298) := Lib.hid (by rw [hfull]; have := pathL_len G t c (n + 1) s; have := HN.out; simp only [List.length_cons]; omega)
        have HNT := Lib.hid (fun (u : Nat) (V : World) (hu : u < G.nodes.length) (hV : Below w5.heap.size w5 V) => rnext_any G na nc la lc (idf G.nodes u : Int) tz c cg cc V (HIN.out V (gNx HB5.out hV)) HZZ.out.1 (aheadOf HZZ.out.2.1 hu).1 HSM.out (fun V' hV' => HCC5.out V' (gNx hV hV')))
        clear hfull
        go_loopw [15, 14] (fun at_ v wr => ∃ u f m : Nat, ∃ zs : List Int, at_ = .int .i64 (idf G.nodes u : Int) ∧ u < G.nodes.length ∧ g_ c u = some m ∧ m < f ∧ zs ++ pathL G t c f u = FULL ∧ Own wr ob 3 1 v zs.length (iRow zs) ∧ Below w5.heap.size w5 wr) (fun at_ _ _ => (g_ c (Nq.ahead G.nodes (RowKit.intOf at_).toNat)).getD 0)
        case atStart => exact ⟨s, n + 1, n, [fr], by rw [HZZ.out.2.2.2.2.2.2.2.2.1], HZZ.out.2.2.2.2.2.2.1, HQ.out, by omega, by rw [HFU.out, HZZ.out.2.2.2.2.2.2.2.2.1]; rfl, HO6.out, B6.out⟩
        case round =>
          obtain ⟨u, f, m, zs, rfl, hu, hm, hmf, hful, ho, hbel⟩ := hrel
          have HBE := Lib.hid hbel
          have HB7 := Lib.hid (gNx HB5.out hbel)
          by_cases hut : u = t
          · have e0 : ((idf G.nodes u : Int) != tz) = false := by rw [hut, HZZ.out.2.2.2.2.2.2.2.2.2.1]; simp
            rw [hut, pathL_end, List.append_nil] at hful
            have HOW : Hid (Own wr w.heap.size 3 1 u14 FULL.length (iRow FULL)) := Lib.hid (by rw [← hful]; exact ho.mono (by have := HOB.out; have := (gNx HB1.out HB5.out).size; omega))
            have HBW := Lib.hid (gNx HB1.out HB7.out)
            clear hut hful ho hbel hm hmf hu
            generalize (idf G.nodes u : Int) = x at *
            go_wp2_with fail
            refine bodyPost_ret (v := .tuple #[u14, .float .f64 d, .int .i64 0]) (by simp [results, Try.results19, go_sem]) rfl ?_
            exact Or.inr ⟨rfl, c, HDP.out, HBW.out, Or.inr ⟨n, u14, HQ.out, by rw [HD.out], by rw [← HFU.out]; exact HOW.out⟩⟩
          · have hne : (idf G.nodes u : Int) ≠ tz := fun h => hut (by
              have h1 := (aheadOf HZZ.out.2.1 hu).2
              have h2 := (aheadOf HZZ.out.2.1 HZZ.out.2.2.2.2.2.2.2.1).2
              rw [HZZ.out.2.2.2.2.2.2.2.2.2.1] at h2
              rw [← h1, h, h2])
            have e0 : ((idf G.nodes u : Int) != tz) = true := by simpa using hne
            obtain ⟨a, m', f', p1, p2, p3, p4, p5, p6⟩ := pathL_step HZZ.out.1 HWT.out HDP.out hu hm hut hmf
            have hnz : nextZ G (idf G.nodes u : Int) tz c = (idf G.nodes a : Int) := by
              unfold nextZ
              rw [if_neg hne, (aheadOf HZZ.out.2.1 hu).2, hm]
              exact p1
            have HX := Lib.hid (HNT.out u wr hu hbel)
            rw [hnz] at HX
            rw [p6] at hful
            have hzl : zs.length ≤ 4294967298 := by
              have := congrArg List.length hful
              have := HFL.out
              simp only [List.length_append, List.length_cons] at *
              omega
            have HZL := Lib.hid hzl
            have HOW := Lib.hid ho
            have HNEW : Hid (a < G.nodes.length ∧ g_ c a = some m' ∧ m' < f' ∧ (zs ++ [(idf G.nodes a : Int)]) ++ pathL G t c f' a = FULL ∧ m' < m) := Lib.hid ⟨p2, p3, p5, by rw [← hful]; simp, p4⟩
            have HME : Hid ((g_ c (Nq.ahead G.nodes (idf G.nodes u : Int).toNat)).getD 0 = m ∧ (g_ c (Nq.ahead G.nodes (idf G.nodes a : Int).toNat)).getD 0 = m') := Lib.hid ⟨by rw [show (((idf G.nodes u : Int).toNat : Nat) : Int) = (idf G.nodes u : Int) by omega, (aheadOf HZZ.out.2.1 hu).2, hm]; rfl, by rw [show (((idf G.nodes a : Int).toNat : Nat) : Int) = (idf G.nodes a : Int) by omega, (aheadOf HZZ.out.2.1 p2).2, p3]; rfl⟩
            obtain ⟨al, cl, rfl⟩ := ho.slice
            obtain ⟨g0, g1⟩ := HKG.out wr HB7.out
            clear hut hful ho hbel hm hmf hu hne p1 p2 p3 p4 p5 p6 hnz hzl
            obtain ⟨x, hx⟩ : ∃ x, x = (idf G.nodes u : Int) := ⟨_, rfl⟩
            obtain ⟨y, hy⟩ : ∃ y, y = (idf G.nodes a : Int) := ⟨_, rfl⟩
            rw [← hx] at HX HME e0 ⊢
            rw [← hy] at HX HME HNEW
            have HYE := Lib.hid hy
            clear hx hy
            go_wp2_with fail
            refine HX.out.mono ?_
            rintro e w7 ⟨rfl, hb7⟩
            obtain ⟨W8, hW8⟩ : ∃ W8, W8 = w7.alloc (.cells #[.int .i64 y] 3) := ⟨_, rfl⟩
            have b8 : Below w7.heap.size w7 W8 := by rw [hW8]; exact gAl _ _
            have r8 : W8.heap[w7.heap.size]? = some (.cells #[.int .i64 y] 3 (0, 0)) := by rw [hW8]; exact heap_alloc_new w7 _
            have b78 := gNx hb7 b8
            have hbase : ob ≤ W8.heap.size := by have := HOB.out; have := (gNx HBE.out b78).size; omega
            obtain ⟨v2, W9, hrun, hrow, hkq⟩ := own_app (P := Try.prog) (vb := w7.heap.size) (vs := [.int .i64 y]) Try.underlying34 inInfo rfl (HOW.out.below b78) hbase r8 rfl (by intro v hv; rw [List.mem_singleton] at hv; rw [hv]; rfl) (by have := HZL.out; omega) (by have := HZL.out; omega)
            obtain ⟨va2, vc2, rfl⟩ := hrow.slice
            have HRW : Hid (Own W9 ob 3 1 (.slice va2 (zs.length + 1) vc2) (zs ++ [y]).length (iRow (zs ++ [y]))) := Lib.hid (by rw [iRow_snoc, List.length_append]; exact hrow)
            have HBB : Hid (Below w5.heap.size w5 W9) := Lib.hid ((gNx HBE.out b78).trans (by have h := Kq.below2 hkq (HOW.out.below b78) hbase; rw [HOB.out] at h; exact h))
            rw [hW8] at hrun
            have HR := Lib.hid hrun
            clear hrun hrow hkq hbase b8 r8 b78 hb7 hW8 g0 g1 e0
            generalize zs.length = zl at *
            go_wp2_with (at_builtin; refine Lib.wpList_append_run _ rfl _ _ _ _ rfl _ _ rfl rfl _ _ (HR.out _) ?_)
            refine ⟨⟨a, f', m', zs ++ [y], by rw [HYE.out], HNEW.out.1, HNEW.out.2.1, HNEW.out.2.2.1, HNEW.out.2.2.2.1, HRW.out, HBB.out⟩, ?_⟩
            show (g_ c (Nq.ahead G.nodes (y.toNat : Int))).getD 0 < (g_ c (Nq.ahead G.nodes (x.toNat : Int))).getD 0
            rw [HME.out.1, HME.out.2]
            exact HNEW.out.2.2.2.2
    · have HNE := Lib.hid hF
      have hz2 : (F != 0) = true := by simpa using hF
      clear hF
      go_wp2_with fail
      refine bodyPost_ret (v := .tuple #[.slice none 0 0, .float .f64 0, .int .i64 F]) (by simp [results, Try.results19, go_sem]) rfl ?_
      exact Or.inl ⟨HNE.out, rfl, gNx HB1.out HB3.out⟩
  · have HNE := Lib.hid hE
    have hEF := HA1.out hE
    subst hEF
    have hz2 : (EF != 0) = true := by simpa using hE
    have hz3 : (EF == 0) = false := by simpa using hE
    clear hE
    go_wp2_with fail
    refine bodyPost_ret (v := .tuple #[.slice none 0 0, .float .f64 0, .int .i64 EF]) (by simp [results, Try.results19, go_sem]) rfl ?_
    exact Or.inl ⟨HNE.out, rfl, gNx HB1.out HB2.out⟩
end Go.Proofs.Ytcmknkdfoebniaa
