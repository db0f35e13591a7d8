/- Paths: the document's other and next. -/
import Derived.Test.YtcmknkdfoebniaaPrB
import Derived.Test.YtcmknkdfoebniaaPrC
import Derived.Test.YtcmknkdfoebniaaPqU
namespace Go.Proofs.Ytcmknkdfoebniaa
open Go.RowKit Go.Lib Go.Fq Go.Pq Go.Iq Go.Nq Go.Ow
set_option linter.unusedVariables false
set_option linter.unusedSimpArgs false
set_option maxRecDepth 100000

theorem other_any (y : Lk) (fr : Int) (w : World) : Calls Try.prog 53 #[.agg #[.int .i64 y.a, .int .i64 y.b, .float .f64 y.w, .bool y.up], .int .i64 fr] w fun e w' => e = .returned (.int .i64 (oth fr y)) ∧ Below w.heap.size w w' := by
  obtain ⟨W1, hW1⟩ : ∃ W1, W1 = w.alloc (.cells #[.int .i64 y.a, .int .i64 y.b, .float .f64 y.w, .bool y.up] 90) := ⟨_, rfl⟩
  have b1 : Below w.heap.size w W1 := by rw [hW1]; exact gAl _ _
  have r1 : W1.heap[w.heap.size]? = some (.cells #[.int .i64 y.a, .int .i64 y.b, .float .f64 y.w, .bool y.up] 90 (0, 0)) := by rw [hW1]; exact heap_alloc_new w _
  have g0 : W1.cell? ⟨w.heap.size, 0, none⟩ = some (.int .i64 y.a) := by rw [cell_of_row W1 _ 0 _ _ (0, 0) r1]; rfl
  have g1 : W1.cell? ⟨w.heap.size, 1, none⟩ = some (.int .i64 y.b) := by rw [cell_of_row W1 _ 1 _ _ (0, 0) r1]; rfl
  have HB1 := Lib.hid b1
  have HO : Hid (oth fr y = if y.a = fr then y.b else if y.b = fr then y.a else 0) := Lib.hid rfl
  rw [HO.out]
  clear b1 r1 HO
  obtain ⟨a, b, q, u⟩ := y
  simp only at g0 g1 hW1 ⊢
  by_cases ea : a = fr
  · rw [if_pos ea]
    have e1 : (a == fr) = true := by simpa using ea
    have HEA := Lib.hid ea
    clear ea
    go_enter Try.func53, Try.ntmps53
    go_upto_region 1 with (fail)
    rw [← hW1]
    clear hW1
    go_wp2_with fail
    go_ret
    exact ⟨rfl, HB1.out⟩
  · rw [if_neg ea]
    have e1 : (a == fr) = false := by simpa using ea
    clear ea
    by_cases eb : b = fr
    · rw [if_pos eb]
      have e2 : (b == fr) = true := by simpa using eb
      clear eb
      go_enter Try.func53, Try.ntmps53
      go_upto_region 1 with (fail)
      rw [← hW1]
      clear hW1
      go_wp2_with fail
      go_ret
      exact ⟨rfl, HB1.out⟩
    · rw [if_neg eb]
      have e2 : (b == fr) = false := by simpa using eb
      clear eb
      go_enter Try.func53, Try.ntmps53
      go_upto_region 1 with (fail)
      rw [← hW1]
      clear hW1
      go_wp2_with fail
      go_ret
      exact ⟨rfl, HB1.out⟩
theorem isinf_o (a : Option Nat) (h : Sm a) (b : Bool) (hb : a.isNone = b) (w : World) : Calls Try.prog 28 #[.float .f64 (dw a), .int .i64 1] w fun e w' => e = .returned (.bool b) ∧ w = w' := by
  rw [← hb, ← dw_inf h]; exact isinf1 (dw a) w (dw_ng h)
theorem qw_neB {n m : Nat} (hn : n < 2 ^ 53) (hm : m < 2 ^ 53) : (FloatKind.f64.format.order (qw n) (qw m) == some .eq) = decide (n = m) := by
  rw [od_num (qw_nan hn) (qw_nan hm), Bool.eq_iff_iff, beq_iff_eq, Option.some.injEq, Int.compare_eq_eq, decide_eq_true_eq]
  exact ⟨ik_inj_qw hn hm, fun h => by rw [h]⟩
theorem sum_is (A : Option Nat) (q n : Nat) (hA : Sm A) (hq0 : 0 < q) (hq : q ≤ 4294967296) (hn : n ≤ 4294967296) : ∃ S, Ieee.double.add (dw A) (qw q) = some S ∧ (FloatKind.f64.format.order S (qw n) != some .eq) = !(sumIs A q n) := by
  cases A with
  | none =>
    refine ⟨INF, add_inf_qw q (by omega), ?_⟩
    have := dw_eq (a := none) (b := some n) trivial hn
    have h2 : (FloatKind.f64.format.order INF (qw n) == some .eq) = false := this
    unfold sumIs
    simp only [bne, h2]
  | some m =>
    unfold Sm at hA
    simp only at hA
    refine ⟨qw (m + q), add_qw m q (by omega) (by omega), ?_⟩
    unfold sumIs
    simp only [bne, qw_neB (n := m + q) (m := n) (by omega) (by omega)]
/-- The document's next, from c: how far all are from the other one. -/
def nextZ (G : Gr) (fr tz : Int) (c : List (Option Nat)) : Int := if fr = tz then 0 else match g_ c (Nq.ahead G.nodes fr) with
  | none => 0
  | some n => bestK G.nodes fr c n G.links G.links.length
def NxS (V : World) (gb : Nat) (na la : Option Addr) (nc n lc m ll dg px s A d : Nat) (q : Nat) : Prop := V.cell? ⟨gb, 0, none⟩ = some (.slice na n nc) ∧ V.cell? ⟨gb, 1, none⟩ = some (.slice la m lc) ∧ V.cell? ⟨ll, 2, none⟩ = some (.float .f64 q) ∧ V.cell? ⟨ll, 3, none⟩ = some (.bool true) ∧ V.cell? ⟨dg, px, none⟩ = some (.float .f64 A) ∧ V.cell? ⟨dg, s, none⟩ = some (.float .f64 d)
set_option maxHeartbeats 16000000 in
theorem rnext_any (G : Gr) (na : Option Addr) (nc : Nat) (la : Option Addr) (lc : Nat) (fr tz : Int) (c : List (Option Nat)) (dg dc : Nat) (w : World) (hin : GrIn w G na la) (hz : checkG G = 0) (hh : has G.nodes fr = true) (hsm : ∀ v, Sm (g_ c v)) (hcc : ∀ V, Below w.heap.size w V → ∀ i, i < G.nodes.length → V.cell? ⟨dg, i, none⟩ = some (.float .f64 (dw (g_ c i)))) :
    Calls Try.prog 36 #[.agg #[.slice na G.nodes.length nc, .slice la G.links.length lc], .int .i64 fr, .int .i64 tz, .slice (some ⟨dg, 0, none⟩) G.nodes.length dc] w fun e w' => e = .returned (.int .i64 (nextZ G fr tz c)) ∧ Below w.heap.size w w' := by
  have hst := g_storeL
  obtain ⟨W1, hW1⟩ : ∃ W1, W1 = w.alloc (.cells #[.slice na G.nodes.length nc, .slice la G.links.length lc] 25) := ⟨_, rfl⟩
  have b1 : Below w.heap.size w W1 := by rw [hW1]; exact gAl _ _
  have s1 : w.heap.size < W1.heap.size := by rw [hW1]; simp
  have r1 : W1.heap[w.heap.size]? = some (.cells #[.slice na G.nodes.length nc, .slice la G.links.length lc] 25 (0, 0)) := by rw [hW1]; exact heap_alloc_new w _
  have HKG : Hid (∀ V, Below W1.heap.size W1 V → V.cell? ⟨w.heap.size, 0, none⟩ = some (.slice na G.nodes.length nc) ∧ V.cell? ⟨w.heap.size, 1, none⟩ = some (.slice la G.links.length lc)) := Lib.hid (fun V hV => by
    have := two_cells ((hV.block _ s1).trans r1)
    exact ⟨this.1, this.2.1⟩)
  have HB1 := Lib.hid b1
  have HIN : Hid (∀ V, Below W1.heap.size W1 V → GrIn V G na la) := Lib.hid (fun V hV => (hin.below b1).below hV)
  have HCC : Hid (∀ V, Below W1.heap.size W1 V → ∀ i, i < G.nodes.length → V.cell? ⟨dg, i, none⟩ = some (.float .f64 (dw (g_ c i)))) := Lib.hid (fun V hV => hcc V (gNx b1 hV))
  have n3 := (check_zero.1 hz).2.2.1
  have HNL : Hid (G.nodes.length ≤ 256 ∧ G.links.length ≤ 4096) := Lib.hid ⟨(check_zero.1 hz).1, (check_zero.1 hz).2.1⟩
  have HPL := Lib.hid (fun (x : Int) (V : World) (hV : Below W1.heap.size W1 V) => sPlace_any G.nodes na nc la G.links.length lc x V (HIN.out V hV).nodes n3 (by have := (check_zero.1 hz).1; omega))
  have HLA : Hid (∀ y ∈ G.links, has G.nodes y.a = true ∧ has G.nodes y.b = true ∧ weightF y.w = 0 ∧ y.w < 2 ^ 64) := Lib.hid (fun y hy => by
    have := liveAt hz hy
    exact ⟨this.1, this.2.1, this.2.2.2.2.2.2, hin.wts y hy⟩)
  have HPT : Hid (∀ x, has G.nodes x = true → placeV G.nodes x = (Nq.ahead G.nodes x : Int) ∧ Nq.ahead G.nodes x < G.nodes.length) := Lib.hid (fun x hx => ⟨placeV_has hx, ((has_at n3 x).1 hx).1⟩)
  have HSM := Lib.hid hsm
  obtain ⟨hp1, hp2⟩ := HPT.out fr hh
  have HPS : Hid (placeV G.nodes fr = (Nq.ahead G.nodes fr : Int) ∧ Nq.ahead G.nodes fr < G.nodes.length) := Lib.hid ⟨hp1, hp2⟩
  obtain ⟨g0, g1⟩ := HKG.out W1 (Below.refl _ _)
  obtain ⟨Z, hZ⟩ : ∃ Z, Z = nextZ G fr tz c := ⟨_, rfl⟩
  rw [← hZ]
  have HZ : Hid (Z = if fr = tz then 0 else match g_ c (Nq.ahead G.nodes fr) with | none => 0 | some n => bestK G.nodes fr c n G.links G.links.length) := Lib.hid hZ
  clear hin hz hh hsm hcc b1 s1 r1 n3 hp1 hp2 hZ
  go_enter Try.func36, Try.ntmps36
  go_upto_region 1 with (fail)
  rw [← hW1]
  clear hW1
  go_wp2_with fail
  refine (HPL.out fr W1 (Below.refl _ _)).mono ?_
  rintro e w2 ⟨rfl, hb2⟩
  rw [HPS.out.1]
  have HB2 := Lib.hid hb2
  clear hb2 g0 g1
  obtain ⟨s, hs⟩ : ∃ s, s = Nq.ahead G.nodes fr := ⟨_, rfl⟩
  rw [← hs] at HZ HPS ⊢
  have HSE := Lib.hid hs
  clear hs
  by_cases hft : fr = tz
  · have e1 : (fr == tz) = true := by simpa using hft
    rw [if_pos hft] at HZ
    have hz0 := HZ.out
    subst hz0
    clear hft
    go_wp2_with fail
    go_ret
    exact ⟨rfl, gNx HB1.out HB2.out⟩
  · have e1 : (fr == tz) = false := by simpa using hft
    rw [if_neg hft] at HZ
    have hsl : (s : Int) < (G.nodes.length : Int) := by have := HPS.out.2; omega
    have hs00 : (0 : Int) ≤ (s : Int) := by omega
    have cs := HCC.out w2 HB2.out s HPS.out.2
    clear hft
    cases hq : g_ c s with
    | none =>
      have HIF := Lib.hid (isinf_o (g_ c s) (HSM.out s) true (by rw [hq]; rfl))
      rw [hq] at HZ
      have hz0 := HZ.out
      simp only at hz0
      subst hz0
      rw [hq] at cs HIF
      clear hq
      generalize dw none = d at *
      go_wp2_with (go_at_call 28; refine (HIF.out _).mono ?_; rintro e w' ⟨rfl, rfl⟩)
      go_ret
      exact ⟨rfl, gNx HB1.out HB2.out⟩
    | some n =>
      have HIF := Lib.hid (isinf_o (g_ c s) (HSM.out s) false (by rw [hq]; rfl))
      rw [hq] at HZ
      have hz0 := HZ.out
      simp only at hz0
      subst hz0
      have hn : n ≤ 4294967296 := by have := HSM.out s; rw [hq] at this; exact this
      have HN := Lib.hid hn
      rw [hq] at cs HIF
      have HCS : Hid (∀ V, Below W1.heap.size W1 V → V.cell? ⟨dg, s, none⟩ = some (.float .f64 (dw (some n)))) := Lib.hid (fun V hV => by rw [← hq]; exact HCC.out V hV s HPS.out.2)
      clear hq hn
      go_upto_region 4 with (go_at_call 28; refine (HIF.out _).mono ?_; rintro e w' ⟨rfl, rfl⟩)
      clear cs HIF e1 hsl hs00
      go_wp2_with fail
      go_loopw [11, 10] (fun i bst wr => ∃ k : Nat, i = .int .i64 (k : Int) ∧ bst = .int .i64 (bestK G.nodes fr c n G.links k) ∧ k ≤ G.links.length ∧ Below w2.heap.size w2 wr) (fun i _ _ => G.links.length - (RowKit.intOf i).toNat)
      case atStart => exact ⟨0, rfl, rfl, Nat.zero_le _, Below.refl _ _⟩
      case round =>
        obtain ⟨k, rfl, rfl, hk, hbel⟩ := hrel
        have HBE := Lib.hid (gNx HB2.out hbel)
        have HBR := Lib.hid hbel
        obtain ⟨k0, k1⟩ := HKG.out wr HBE.out
        by_cases hlt : k < G.links.length
        · have hlti : (k : Int) < (G.links.length : Int) := by omega
          have hk0 : (0 : Int) ≤ (k : Int) := by omega
          have hkw : IntKind.i64.wrap ((k : Int) + 1) = (k : Int) + 1 := by rw [IntKind.wrap_i64]; have := HNL.out.2; omega
          have HK1 : Hid (k + 1 ≤ G.links.length ∧ G.links.length - (k + 1) < G.links.length - k ∧ ((k : Int) + 1).toNat = k + 1 ∧ (k : Int) + 1 = ((k + 1 : Nat) : Int)) := Lib.hid ⟨by omega, by omega, by omega, by omega⟩
          obtain ⟨b2, o2, hla, hbb2, hc⟩ := (HIN.out wr HBE.out).links.at k hlt
          obtain ⟨c0', c1', c2', c3'⟩ := hc k hlt
          have HSU := Lib.hid (bestK_succ G.nodes fr c n G.links hlt)
          have HY := Lib.hid (HLA.out _ (List.getElem_mem hlt))
          clear hc hbb2 hbel
          subst hla
          generalize bestK G.nodes fr c n G.links k = bk at *
          generalize G.links[k] = y at *
          obtain ⟨wq, q1, q2, q3⟩ := weight_q y.w HY.out.2.2.2 HY.out.2.2.1
          have HWQ : Hid (y.w = qw wq ∧ qn y.w = wq ∧ 0 < wq ∧ wq ≤ 4294967296) := Lib.hid ⟨q3, by rw [q3]; exact qn_qw (by omega), by omega, by omega⟩
          clear q1 q2 q3
          obtain ⟨x, hx⟩ : ∃ x, x = oth fr y := ⟨_, rfl⟩
          have HFT : Hid (bestK G.nodes fr c n G.links (k + 1) = if (decide (x ≠ 0) && y.up && sumIs (g_ c (Nq.ahead G.nodes x)) wq n) = true then (if bk = 0 ∨ x < bk then x else bk) else bk) := Lib.hid (by rw [HSU.out, hx, ← HWQ.out.2.1]; rfl)
          have HHX : Hid (x ≠ 0 → has G.nodes x = true) := Lib.hid (fun h => by
            rw [hx] at h ⊢
            unfold oth at *
            by_cases ea : y.a = fr
            · rw [if_pos ea]; exact HY.out.2.1
            · rw [if_neg ea] at *
              by_cases eb : y.b = fr
              · rw [if_pos eb]; exact HY.out.1
              · rw [if_neg eb] at h; exact absurd rfl h)
          have HOT := Lib.hid (fun V => other_any y fr V)
          rw [← hx] at HOT
          obtain ⟨W6, hW6⟩ : ∃ W6, W6 = wr.alloc (.cells #[.int .i64 y.a, .int .i64 y.b, .float .f64 y.w, .bool y.up] 90) := ⟨_, rfl⟩
          have b6 : Below wr.heap.size wr W6 := by rw [hW6]; exact gAl _ _
          have r6 : W6.heap[wr.heap.size]? = some (.cells #[.int .i64 y.a, .int .i64 y.b, .float .f64 y.w, .bool y.up] 90 (0, 0)) := by rw [hW6]; exact heap_alloc_new wr _
          have s6 : wr.heap.size < W6.heap.size := by rw [hW6]; simp
          obtain ⟨ll, hll⟩ : ∃ ll, ll = wr.heap.size := ⟨_, rfl⟩
          rw [← hll] at r6 s6
          have HL6 : Hid (∀ V : World, V.heap[ll]? = W6.heap[ll]? → V.cell? ⟨ll, 0, none⟩ = some (.int .i64 y.a) ∧ V.cell? ⟨ll, 1, none⟩ = some (.int .i64 y.b) ∧ V.cell? ⟨ll, 2, none⟩ = some (.float .f64 y.w) ∧ V.cell? ⟨ll, 3, none⟩ = some (.bool y.up)) := Lib.hid (fun V hV => by
            have := hV.trans r6
            exact ⟨by rw [cell_of_row V _ 0 _ _ (0, 0) this]; rfl, by rw [cell_of_row V _ 1 _ _ (0, 0) this]; rfl, by rw [cell_of_row V _ 2 _ _ (0, 0) this]; rfl, by rw [cell_of_row V _ 3 _ _ (0, 0) this]; rfl⟩)
          have HLS := Lib.hid s6
          have HB6 := Lib.hid (gNx HBE.out b6)
          have HBR6 := Lib.hid (gNx HBR.out b6)
          go_upto_region 9 with (fail)
          rw [← hW6, ← hll]
          clear hW6 b6 r6 s6 c0' c1' c2' c3' k0 k1 hll hx HSU
          obtain ⟨l0, l1, l2, l3⟩ := HL6.out W6 rfl
          go_wp2_with fail
          refine (HOT.out W6).mono ?_
          rintro e w7 ⟨rfl, hb7⟩
          have HL7 : Hid (∀ V, Below w7.heap.size w7 V → V.cell? ⟨ll, 2, none⟩ = some (.float .f64 y.w) ∧ V.cell? ⟨ll, 3, none⟩ = some (.bool y.up)) := Lib.hid (fun V hV => by
            have h1 := (gNx hb7 hV).block ll HLS.out
            have := HL6.out V h1
            exact ⟨this.2.2.1, this.2.2.2⟩)
          have HB7 := Lib.hid (gNx HB6.out hb7)
          have HBR7 := Lib.hid (gNx HBR6.out hb7)
          clear hb7 l0 l1 l2 l3
          obtain ⟨l2, l3⟩ := HL7.out w7 (Below.refl _ _)
          have hbk : True := trivial
          by_cases hx0 : x = 0
          · have e0 : (x == 0) = true := by simpa using hx0
            have HS1 : Hid (bestK G.nodes fr c n G.links (k + 1) = bk) := Lib.hid (by rw [HFT.out, if_neg (by simp [hx0])])
            clear hx0 l2
            go_upto_region 10 with (fail)
            go_quiet (fail)
            go_wp2_with fail
            refine ⟨⟨k + 1, congrArg (Value.int .i64) HK1.out.2.2.2, by rw [HS1.out], HK1.out.1, Go.Iq.below_drewN HBR7.out _⟩, ?_⟩
            show G.links.length - ((k : Int) + 1).toNat < G.links.length - (k : Int).toNat
            rw [HK1.out.2.2.1]
            exact HK1.out.2.1
          · have e0 : (x == 0) = false := by simpa using hx0
            have HX0 := Lib.hid hx0
            cases hyu : y.up with
            | false =>
              have HS1 : Hid (bestK G.nodes fr c n G.links (k + 1) = bk) := Lib.hid (by rw [HFT.out, if_neg (by simp [hyu])])
              rw [hyu] at l3
              clear hx0 l2 hyu
              go_upto_region 10 with (fail)
              go_quiet (fail)
              go_wp2_with fail
              refine ⟨⟨k + 1, congrArg (Value.int .i64) HK1.out.2.2.2, by rw [HS1.out], HK1.out.1, Go.Iq.below_drewN HBR7.out _⟩, ?_⟩
              show G.links.length - ((k : Int) + 1).toNat < G.links.length - (k : Int).toNat
              rw [HK1.out.2.2.1]
              exact HK1.out.2.1
            | true =>
              obtain ⟨p1, p2⟩ := HPT.out x (HHX.out hx0)
              have HPX := Lib.hid p1
              have HFT2 : Hid (bestK G.nodes fr c n G.links (k + 1) = if sumIs (g_ c (Nq.ahead G.nodes x)) wq n = true then (if bk = 0 ∨ x < bk then x else bk) else bk) := Lib.hid (by rw [HFT.out, hyu, decide_eq_true HX0.out]; rfl)
              obtain ⟨px, hpx⟩ : ∃ px, px = Nq.ahead G.nodes x := ⟨_, rfl⟩
              rw [← hpx] at HFT2 HPX p2
              have HP2 := Lib.hid p2
              obtain ⟨S, hS, hS2⟩ := sum_is (g_ c px) wq n (HSM.out px) HWQ.out.2.2.1 HWQ.out.2.2.2 HN.out
              have HSS : Hid (∀ V, Below w7.heap.size w7 V → NxS V w.heap.size na (some ⟨b2, o2, none⟩) nc G.nodes.length lc G.links.length ll dg px s (dw (g_ c px)) (dw (some n)) (qw wq)) := Lib.hid (fun V hV => by
                have h1 := gNx HB7.out hV
                have h2 := HL7.out V hV
                rw [hyu, HWQ.out.1] at h2
                exact ⟨(HKG.out V h1).1, (HKG.out V h1).2, h2.1, h2.2, HCC.out V h1 px HP2.out, HCS.out V h1⟩)
              have hpi : (px : Int) < (G.nodes.length : Int) := by omega
              have hp0 : (0 : Int) ≤ (px : Int) := by omega
              have hsi : (s : Int) < (G.nodes.length : Int) := by have := HPS.out.2; omega
              have hs0' : (0 : Int) ≤ (s : Int) := by omega
              have e1 := fun w => run_add_some (P := Try.prog) 26 (dw (g_ c px)) (qw wq) S hS w
              have hnd : dw (some n) = qw n := rfl
              rw [hnd] at HSS HCS
              generalize sumIs (g_ c px) wq n = sb at *
              generalize dw (g_ c px) = da at *
              generalize qw n = dn at *
              generalize qw wq = dq at *
              clear hx0 l2 l3 hyu hpx p1 p2 hS hnd hlti hk0
              go_upto_region 10 with (fail)
              refine wp_region_held_drew (S := fun V => NxS V w.heap.size na (some ⟨b2, o2, none⟩) nc G.nodes.length lc G.links.length ll dg px s da dn dq) (by kernel_rfl) (HSS.out _ (Below.drew (Below.refl _ _))) (fun hH => ?_)
              have hs0 := HSS.out _ (Below.drew (Below.refl _ _))
              have B0 : Hid (Below w7.heap.size w7 w7.drew) := Lib.hid (Below.drew (Below.refl _ _))
              have C0 : Hid (Below W1.heap.size W1 w7.drew) := Lib.hid (Below.drew HB7.out)
              generalize w7.drew = V0 at *
              refine tk 0 (by assumption) rfl (by kernel_rfl) (fun _ _ _ h => h) (fun V hV => by go_simp; try with_reducible rfl) ?_
              try simp only [Act.put, List.setIfInBounds_toArray, List.set_cons_zero, List.set_cons_succ, List.getElem_toArray, List.getElem_cons_succ, List.getElem_cons_zero]
              refine tk 1 (by assumption) rfl (by kernel_rfl) (fun _ _ _ h => h) (fun V hV => by go_simp; try with_reducible rfl) ?_
              try simp only [Act.put, List.setIfInBounds_toArray, List.set_cons_zero, List.set_cons_succ, List.getElem_toArray, List.getElem_cons_succ, List.getElem_cons_zero]
              refine tk 2 (by assumption) rfl (by kernel_rfl) (fun _ _ _ h => h) (fun V hV => by go_simp; try with_reducible rfl) ?_
              try simp only [Act.put, List.setIfInBounds_toArray, List.set_cons_zero, List.set_cons_succ, List.getElem_toArray, List.getElem_cons_succ, List.getElem_cons_zero]
              refine tk 3 (by assumption) rfl (by kernel_rfl) (fun _ _ _ h => h) (fun V hV => by go_simp; try with_reducible rfl) ?_
              try simp only [Act.put, List.setIfInBounds_toArray, List.set_cons_zero, List.set_cons_succ, List.getElem_toArray, List.getElem_cons_succ, List.getElem_cons_zero]
              refine tk 4 (by assumption) rfl (by kernel_rfl) (fun _ _ _ h => h) (fun V hV => by obtain ⟨hx0, hx1, hx2, hx3, hx4, hx5⟩ := hV; go_simp; try with_reducible rfl) ?_
              try simp only [Act.put, List.setIfInBounds_toArray, List.set_cons_zero, List.set_cons_succ, List.getElem_toArray, List.getElem_cons_succ, List.getElem_cons_zero]
              refine tk 5 (by assumption) rfl (by kernel_rfl) (fun _ _ _ h => h) (fun V hV => by go_simp; try with_reducible rfl) ?_
              try simp only [Act.put, List.setIfInBounds_toArray, List.set_cons_zero, List.set_cons_succ, List.getElem_toArray, List.getElem_cons_succ, List.getElem_cons_zero]
              refine tk 6 (by assumption) rfl (by kernel_rfl) (fun _ _ _ h => h) (fun V hV => by go_simp; try with_reducible rfl) ?_
              try simp only [Act.put, List.setIfInBounds_toArray, List.set_cons_zero, List.set_cons_succ, List.getElem_toArray, List.getElem_cons_succ, List.getElem_cons_zero]
              refine tk 7 (by assumption) rfl (by kernel_rfl) (fun _ _ _ h => h) (fun V hV => by go_simp; try with_reducible rfl) ?_
              try simp only [Act.put, List.setIfInBounds_toArray, List.set_cons_zero, List.set_cons_succ, List.getElem_toArray, List.getElem_cons_succ, List.getElem_cons_zero]
              refine tk 8 (by assumption) rfl (by kernel_rfl) (fun _ _ _ h => h) (fun V hV => by go_simp; try with_reducible rfl) ?_
              try simp only [Act.put, List.setIfInBounds_toArray, List.set_cons_zero, List.set_cons_succ, List.getElem_toArray, List.getElem_cons_succ, List.getElem_cons_zero]
              refine tk 9 (by assumption) rfl (by kernel_rfl) (fun _ _ _ h => h) (fun V hV => by obtain ⟨hx0, hx1, hx2, hx3, hx4, hx5⟩ := hV; go_simp; try with_reducible rfl) ?_
              try simp only [Act.put, List.setIfInBounds_toArray, List.set_cons_zero, List.set_cons_succ, List.getElem_toArray, List.getElem_cons_succ, List.getElem_cons_zero]
              refine tk 10 (by assumption) rfl (by kernel_rfl) (fun _ _ _ h => h) (fun V hV => by go_simp; try with_reducible rfl) ?_
              try simp only [Act.put, List.setIfInBounds_toArray, List.set_cons_zero, List.set_cons_succ, List.getElem_toArray, List.getElem_cons_succ, List.getElem_cons_zero]
              refine tk 14 (by assumption) rfl (by kernel_rfl) (fun _ _ _ h => h) (fun V hV => by go_simp; try with_reducible rfl) ?_
              try simp only [Act.put, List.setIfInBounds_toArray, List.set_cons_zero, List.set_cons_succ, List.getElem_toArray, List.getElem_cons_succ, List.getElem_cons_zero]
              refine tk 15 (by assumption) rfl (by kernel_rfl) (fun _ _ _ h => h) (fun V hV => by obtain ⟨hx0, hx1, hx2, hx3, hx4, hx5⟩ := hV; go_simp; try with_reducible rfl) ?_
              try simp only [Act.put, List.setIfInBounds_toArray, List.set_cons_zero, List.set_cons_succ, List.getElem_toArray, List.getElem_cons_succ, List.getElem_cons_zero]
              refine tk 17 (by assumption) rfl (by kernel_rfl) (fun _ _ _ h => h) (fun V hV => by go_simp; try with_reducible rfl) ?_
              try simp only [Act.put, List.setIfInBounds_toArray, List.set_cons_zero, List.set_cons_succ, List.getElem_toArray, List.getElem_cons_succ, List.getElem_cons_zero]
              refine tk 18 (by assumption) rfl (by kernel_rfl) (fun _ _ _ h => h) (fun V hV => by go_simp; try with_reducible rfl) ?_
              try simp only [Act.put, List.setIfInBounds_toArray, List.set_cons_zero, List.set_cons_succ, List.getElem_toArray, List.getElem_cons_succ, List.getElem_cons_zero]
              refine tk 19 (by assumption) rfl (by kernel_rfl) (fun _ _ _ h => h) (fun V hV => by go_simp; try with_reducible rfl) ?_
              try simp only [Act.put, List.setIfInBounds_toArray, List.set_cons_zero, List.set_cons_succ, List.getElem_toArray, List.getElem_cons_succ, List.getElem_cons_zero]
              refine tk 20 (by assumption) rfl (by kernel_rfl) (fun _ _ _ h => h) (fun V hV => by obtain ⟨hx0, hx1, hx2, hx3, hx4, hx5⟩ := hV; go_simp; try with_reducible rfl) ?_
              try simp only [Act.put, List.setIfInBounds_toArray, List.set_cons_zero, List.set_cons_succ, List.getElem_toArray, List.getElem_cons_succ, List.getElem_cons_zero]
              refine wpAnyH_ready (rs := [11]) (by kernel_rfl) (by simp) ?_
              refine AllReadyH.cons (o := _) rfl (fun K hK => ?_) AllReadyH.nil
              go_simp
              refine (HPL.out x V0 C0.out).mono ?_
              rintro e V1 ⟨rfl, hb1⟩
              rw [HPX.out]
              have B1 := Lib.hid (gNx B0.out hb1)
              have BR1 := Lib.hid (gNx HBR7.out (gNx B0.out hb1))
              clear hb1
              go_wp2_with fail
              refine hK.out _ _ (HSS.out _ B1.out) (fun hH => ?_)
              clear hK K
              try simp only [Act.put, List.setIfInBounds_toArray, List.set_cons_zero, List.set_cons_succ, List.getElem_toArray, List.getElem_cons_succ, List.getElem_cons_zero]
              refine tk 12 (by assumption) rfl (by kernel_rfl) (fun _ _ _ h => h) (fun V hV => by go_simp; try with_reducible rfl) ?_
              try simp only [Act.put, List.setIfInBounds_toArray, List.set_cons_zero, List.set_cons_succ, List.getElem_toArray, List.getElem_cons_succ, List.getElem_cons_zero]
              refine tk 13 (by assumption) rfl (by kernel_rfl) (fun _ _ _ h => h) (fun V hV => by obtain ⟨hx0, hx1, hx2, hx3, hx4, hx5⟩ := hV; go_simp; try with_reducible rfl) ?_
              try simp only [Act.put, List.setIfInBounds_toArray, List.set_cons_zero, List.set_cons_succ, List.getElem_toArray, List.getElem_cons_succ, List.getElem_cons_zero]
              refine tk 16 (by assumption) rfl (by kernel_rfl) (fun _ _ _ h => h) (fun V hV => by go_simp; try with_reducible rfl) ?_
              try simp only [Act.put, List.setIfInBounds_toArray, List.set_cons_zero, List.set_cons_succ, List.getElem_toArray, List.getElem_cons_succ, List.getElem_cons_zero]
              refine tk 21 (by assumption) rfl (by kernel_rfl) (fun _ _ _ h => h) (fun V hV => by go_simp; try with_reducible rfl) ?_
              try simp only [Act.put, List.setIfInBounds_toArray, List.set_cons_zero, List.set_cons_succ, List.getElem_toArray, List.getElem_cons_succ, List.getElem_cons_zero]
              refine tk 22 (by assumption) rfl (by kernel_rfl) (fun _ _ _ h => h) (fun V hV => by go_simp; try with_reducible rfl) ?_
              try simp only [Act.put, List.setIfInBounds_toArray, List.set_cons_zero, List.set_cons_succ, List.getElem_toArray, List.getElem_cons_succ, List.getElem_cons_zero]
              refine wpAnyH_done (by kernel_rfl) ?_ _
              clear hs0 e1 hpi hp0 hsi hs0'
              cases sb with
              | false =>
                have hS3 : (FloatKind.f64.format.order S dn != some .eq) = true := hS2
                have HS1 : Hid (bestK G.nodes fr c n G.links (k + 1) = bk) := Lib.hid (by rw [HFT2.out, if_neg (by simp)])
                clear hS2
                go_wp2_with fail
                refine ⟨⟨k + 1, congrArg (Value.int .i64) HK1.out.2.2.2, by rw [HS1.out], HK1.out.1, BR1.out⟩, ?_⟩
                show G.links.length - ((k : Int) + 1).toNat < G.links.length - (k : Int).toNat
                rw [HK1.out.2.2.1]
                exact HK1.out.2.1
              | true =>
                have hS3 : (FloatKind.f64.format.order S dn != some .eq) = false := hS2
                clear hS2
                by_cases hb : bk = 0
                · have f0 : (bk == 0) = true := by simpa using hb
                  have HS1 : Hid (bestK G.nodes fr c n G.links (k + 1) = x) := Lib.hid (by rw [HFT2.out, if_pos rfl, if_pos (Or.inl hb)])
                  clear hb
                  go_wp2_with fail
                  refine ⟨⟨k + 1, congrArg (Value.int .i64) HK1.out.2.2.2, by rw [HS1.out], HK1.out.1, BR1.out⟩, ?_⟩
                  show G.links.length - ((k : Int) + 1).toNat < G.links.length - (k : Int).toNat
                  rw [HK1.out.2.2.1]
                  exact HK1.out.2.1
                · have f0 : (bk == 0) = false := by simpa using hb
                  by_cases hl : x < bk
                  · have f1 : decide (x < bk) = true := decide_eq_true hl
                    have HS1 : Hid (bestK G.nodes fr c n G.links (k + 1) = x) := Lib.hid (by rw [HFT2.out, if_pos rfl, if_pos (Or.inr hl)])
                    clear hb
                    go_wp2_with fail
                    refine ⟨⟨k + 1, congrArg (Value.int .i64) HK1.out.2.2.2, by rw [HS1.out], HK1.out.1, BR1.out⟩, ?_⟩
                    show G.links.length - ((k : Int) + 1).toNat < G.links.length - (k : Int).toNat
                    rw [HK1.out.2.2.1]
                    exact HK1.out.2.1
                  · have f1 : decide (x < bk) = false := decide_eq_false hl
                    have HS1 : Hid (bestK G.nodes fr c n G.links (k + 1) = bk) := Lib.hid (by rw [HFT2.out, if_pos rfl, if_neg (by rintro (h | h); exact hb h; exact hl h)])
                    clear hb
                    go_wp2_with fail
                    refine ⟨⟨k + 1, congrArg (Value.int .i64) HK1.out.2.2.2, by rw [HS1.out], HK1.out.1, BR1.out⟩, ?_⟩
                    show G.links.length - ((k : Int) + 1).toNat < G.links.length - (k : Int).toNat
                    rw [HK1.out.2.2.1]
                    exact HK1.out.2.1
        · have hnk : ¬ (k : Int) < (G.links.length : Int) := by omega
          have hke : k = G.links.length := by omega
          rw [hke]
          have HBW := Lib.hid (gNx HB1.out HBE.out)
          clear hbel hlt hk hke
          go_wp2_with fail
          go_ret
          exact ⟨rfl, HBW.out⟩
end Go.Proofs.Ytcmknkdfoebniaa
