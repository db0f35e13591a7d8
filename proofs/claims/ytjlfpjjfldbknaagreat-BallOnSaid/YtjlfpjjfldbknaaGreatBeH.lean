/- Balls: the law that the next hop knows it, too. -/
import Derived.Test.YtjlfpjjfldbknaaGreatBeB
import Derived.Test.YtjlfpjjfldbknaaGreatBqE
namespace Go.Proofs.YtjlfpjjfldbknaaGreat
open Go.RowKit Go.Lib Go.Fq Go.Pq Go.Iq Go.Nq Go.Ow Go.Bq
set_option linter.unusedVariables false
set_option linter.unusedSimpArgs false
set_option maxRecDepth 100000

theorem sum_is3 (A : Option Nat) (q n : Nat) (hA : Sm A) (hq0 : 0 < q) (hq : q ≤ 4294967296) (hn : n ≤ 4294967296) : ∃ S, Ieee.double.add (dw A) (qw q) = some S ∧ (FloatKind.f64.format.order S (qw n) == some .eq) = sumIs A q n := by
  cases A with
  | none =>
    refine ⟨INF, add_inf_qw q (by omega), ?_⟩
    have := dw_eq (a := none) (b := some n) trivial hn
    exact this
  | some m =>
    unfold Sm at hA
    simp only at hA
    refine ⟨qw (m + q), add_qw m q (by omega) (by omega), ?_⟩
    unfold sumIs
    simp only
    rw [qw_eqB2 (by omega) (by omega)]
set_option maxHeartbeats 16000000 in
theorem lawWt_any (u b : Int) (G : Gr) (na : Option Addr) (nc : Nat) (la : Option Addr) (lc : Nat) (w : World) (hin : GrIn w G na la) (hz : checkG G = 0) (hu : upB G.nodes u = true) :
    Calls Tryz.prog 16 #[.agg #[.slice na G.nodes.length nc, .slice la G.links.length lc], .int .i64 u, .int .i64 b] w fun e w' => e = .returned (.float .f64 (wtO G u b)) ∧ Below w.heap.size w w' := by
  obtain ⟨W1, hW1⟩ : ∃ W1, W1 = w.alloc (.cells #[.slice na G.nodes.length nc, .slice la G.links.length lc] 25) := ⟨_, rfl⟩
  have b1 : Below w.heap.size w W1 := by rw [hW1]; exact gAl _ _
  have s1 : w.heap.size < W1.heap.size := by rw [hW1]; simp
  have r1 : W1.heap[w.heap.size]? = some (.cells #[.slice na G.nodes.length nc, .slice la G.links.length lc] 25 (0, 0)) := by rw [hW1]; exact heap_alloc_new w _
  obtain ⟨gb, hgb⟩ : ∃ gb, gb = w.heap.size := ⟨_, rfl⟩
  rw [← hgb] at r1 s1
  have HKG : Hid (∀ V, Below W1.heap.size W1 V → V.cell? ⟨gb, 0, none⟩ = some (.slice na G.nodes.length nc) ∧ V.cell? ⟨gb, 1, none⟩ = some (.slice la G.links.length lc)) := Lib.hid (fun V hV => by
    have := two_cells ((hV.block _ s1).trans r1)
    exact ⟨this.1, this.2.1⟩)
  have HB1 := Lib.hid b1
  have HIN : Hid (∀ V, Below W1.heap.size W1 V → GrIn V G na la) := Lib.hid (fun V hV => (hin.below b1).below hV)
  have n3 := (check_zero.1 hz).2.2.1
  have hh := (up_place n3 hu).1
  have HNB := Lib.hid (rNeighbours_any G na nc la lc u W1 (hin.below b1))
  rw [nbL_ok (nbE_ok hz hh), nbE_ok hz hh] at HNB
  have HFA := Lib.hid (fun y (hy : y ∈ neighL G u) => nb_fact hz hin.wts hu hy)
  have HLN : Hid ((neighL G u).length ≤ 8192) := Lib.hid (Nat.le_trans (List.length_filter_le _ _) (by have := (check_zero.1 hz).2.1; omega))
  obtain ⟨g0, g1⟩ := HKG.out W1 (Below.refl _ _)
  have HZ : Hid (wtO G u b = match (neighL G u).find? (fun z => othE z u == b) with | some y => y.w | none => 0) := Lib.hid rfl
  generalize wtO G u b = Z at *
  obtain ⟨L, hL⟩ : ∃ L, L = neighL G u := ⟨_, rfl⟩
  rw [← hL] at HZ HNB HFA HLN
  clear hin hz hu b1 n3 hh s1 r1 hL
  go_enter Tryz.func16, Tryz.ntmps16
  go_upto_region 1 with (fail)
  rw [← hW1, ← hgb]
  clear hW1 hgb
  go_wp2_with fail
  refine HNB.out.mono ?_
  rintro e w2 ⟨vl, rfl, ho, -, hb2⟩
  obtain ⟨al, cl, e3, hli, -⟩ := ownL_in ho
  subst e3
  have HOL : Hid (∀ V, Below w2.heap.size w2 V → LinksIn V V.heap.size L al) := Lib.hid (fun V hV => by
    obtain ⟨a3, c3, e3, h3, -⟩ := ownL_in (ho.below hV)
    simp only [Value.slice.injEq] at e3
    rw [e3.1]; exact h3)
  have HB2 := Lib.hid hb2
  clear ho hli hb2 g0 g1 HNB
  go_wp2_with fail
  go_loopw [9] (fun i wr => ∃ k : Nat, i = .int .i64 (k : Int) ∧ k ≤ L.length ∧ (Z = match (L.drop k).find? (fun z => othE z u == b) with | some y => y.w | none => 0) ∧ Below w2.heap.size w2 wr) (fun i _ => L.length - (RowKit.intOf i).toNat)
  case atStart => exact ⟨0, rfl, Nat.zero_le _, HZ.out, Below.refl _ _⟩
  case round =>
    obtain ⟨k, rfl, hk, hzk, hbx⟩ := hrel
    obtain ⟨wo, hwo⟩ : ∃ wo, wo = wr := ⟨_, rfl⟩
    subst hwo
    have HXW := Lib.hid hbx
    have HZK := Lib.hid hzk
    by_cases hlt : k < L.length
    · have hlti : (k : Int) < (L.length : Int) := by omega
      have hk0 : (0 : Int) ≤ (k : Int) := by omega
      have hkw : IntKind.i64.wrap ((k : Int) + 1) = (k : Int) + 1 := by rw [IntKind.wrap_i64]; have := HLN.out; omega
      have HK1 : Hid (k + 1 ≤ L.length ∧ L.length - (k + 1) < L.length - k ∧ ((k : Int) + 1).toNat = k + 1 ∧ (k : Int) + 1 = ((k + 1 : Nat) : Int)) := Lib.hid ⟨by omega, by omega, by omega, by omega⟩
      obtain ⟨lb, lo, hla, hbb, hlc⟩ := (HOL.out wo hbx).at k hlt
      have HDR := Lib.hid (List.drop_eq_getElem_cons hlt)
      obtain ⟨hw1, hw2, -⟩ := HFA.out _ (List.getElem_mem hlt)
      have HSS : Hid (∀ V, Below w2.heap.size w2 V → V.cell? ⟨lb, lo + k * 4, none⟩ = some (.int .i64 L[k].a) ∧ V.cell? ⟨lb, lo + k * 4 + 1, none⟩ = some (.int .i64 L[k].b) ∧ V.cell? ⟨lb, lo + k * 4 + 2, none⟩ = some (.float .f64 L[k].w)) := Lib.hid (fun V hV => by
        obtain ⟨lb2, lo2, e, -, h⟩ := (HOL.out V hV).at k hlt
        rw [hla] at e
        simp only [Option.some.injEq, Addr.mk.injEq, and_true] at e
        obtain ⟨rfl, rfl⟩ := e
        exact ⟨(h k hlt).1, (h k hlt).2, (h k hlt).3⟩)
      have HZR : Hid (Z = if othE L[k] u = b then L[k].w else match (L.drop (k + 1)).find? (fun z => othE z u == b) with | some y => y.w | none => 0) := Lib.hid (by
        rw [HZK.out, HDR.out, List.find?_cons]
        by_cases e : othE L[k] u = b
        · rw [if_pos e, show (othE L[k] u == b) = true by simpa using e]
        · rw [if_neg e, show (othE L[k] u == b) = false by simpa using e])
      subst hla
      generalize L[k] = yy at *
      obtain ⟨ya, yb, yw, yup⟩ := yy
      simp only at hw1 hw2 HSS HZR
      obtain ⟨yv, hyv⟩ : ∃ yv, yv = othE ⟨ya, yb, yw, yup⟩ u := ⟨_, rfl⟩
      rw [← hyv] at hw2 HZR
      clear hlt hk hbx hzk hbb hlc hyv HDR
      go_upto_region 5 with (fail)
      refine wp_region_held_drew (S := fun V => V.cell? ⟨lb, lo + k * 4, none⟩ = some (.int .i64 ya) ∧ V.cell? ⟨lb, lo + k * 4 + 1, none⟩ = some (.int .i64 yb) ∧ V.cell? ⟨lb, lo + k * 4 + 2, none⟩ = some (.float .f64 yw)) (by kernel_rfl) (HSS.out _ (Below.drew HXW.out)) (fun hH => ?_)
      have hs0 := HSS.out _ (Below.drew HXW.out)
      have HX0 := Lib.hid (Below.drew HXW.out)
      generalize wo.drew = V0 at *
      refine tk 0 (by assumption) rfl (by kernel_rfl) (fun _ _ _ h => h) (fun V hV => by go_simp; try with_reducible rfl) ?_
      try simp only [Act.put, sqA, sqB, sqC, sqD, sqE, sqF]
      refine tk 1 (by assumption) rfl (by kernel_rfl) (fun _ _ _ h => h) (fun V hV => by go_simp; try with_reducible rfl) ?_
      try simp only [Act.put, sqA, sqB, sqC, sqD, sqE, sqF]
      refine tk 2 (by assumption) rfl (by kernel_rfl) (fun _ _ _ h => h) (fun V hV => by go_simp; try with_reducible rfl) ?_
      try simp only [Act.put, sqA, sqB, sqC, sqD, sqE, sqF]
      refine tk 3 (by assumption) rfl (by kernel_rfl) (fun _ _ _ h => h) (fun V hV => by go_simp; try with_reducible rfl) ?_
      try simp only [Act.put, sqA, sqB, sqC, sqD, sqE, sqF]
      refine tk 4 (by assumption) rfl (by kernel_rfl) (fun _ _ _ h => h) (fun V hV => by obtain ⟨hx0, hx1, hx2⟩ := hV; go_simp; try with_reducible rfl) ?_
      try simp only [Act.put, sqA, sqB, sqC, sqD, sqE, sqF]
      refine tk 5 (by assumption) rfl (by kernel_rfl) (fun _ _ _ h => h) (fun V hV => by go_simp; try with_reducible rfl) ?_
      try simp only [Act.put, sqA, sqB, sqC, sqD, sqE, sqF]
      refine tk 6 (by assumption) rfl (by kernel_rfl) (fun _ _ _ h => h) (fun V hV => by go_simp; try with_reducible rfl) ?_
      try simp only [Act.put, sqA, sqB, sqC, sqD, sqE, sqF]
      refine tk 7 (by assumption) rfl (by kernel_rfl) (fun _ _ _ h => h) (fun V hV => by go_simp; try with_reducible rfl) ?_
      try simp only [Act.put, sqA, sqB, sqC, sqD, sqE, sqF]
      refine tk 8 (by assumption) rfl (by kernel_rfl) (fun _ _ _ h => h) (fun V hV => by go_simp; try with_reducible rfl) ?_
      try simp only [Act.put, sqA, sqB, sqC, sqD, sqE, sqF]
      refine tk 9 (by assumption) rfl (by kernel_rfl) (fun _ _ _ h => h) (fun V hV => by obtain ⟨hx0, hx1, hx2⟩ := hV; go_simp; try with_reducible rfl) ?_
      try simp only [Act.put, sqA, sqB, sqC, sqD, sqE, sqF]
      refine tk 10 (by assumption) rfl (by kernel_rfl) (fun _ _ _ h => h) (fun V hV => by go_simp; try with_reducible rfl) ?_
      try simp only [Act.put, sqA, sqB, sqC, sqD, sqE, sqF]
      refine tk 11 (by assumption) rfl (by kernel_rfl) (fun _ _ _ h => h) (fun V hV => by go_simp; try with_reducible rfl) ?_
      try simp only [Act.put, sqA, sqB, sqC, sqD, sqE, sqF]
      refine tk 12 (by assumption) rfl (by kernel_rfl) (fun _ _ _ h => h) (fun V hV => by go_simp; try with_reducible rfl) ?_
      try simp only [Act.put, sqA, sqB, sqC, sqD, sqE, sqF]
      refine tk 13 (by assumption) rfl (by kernel_rfl) (fun _ _ _ h => h) (fun V hV => by go_simp; try with_reducible rfl) ?_
      try simp only [Act.put, sqA, sqB, sqC, sqD, sqE, sqF]
      refine tk 14 (by assumption) rfl (by kernel_rfl) (fun _ _ _ h => h) (fun V hV => by go_simp; try with_reducible rfl) ?_
      try simp only [Act.put, sqA, sqB, sqC, sqD, sqE, sqF]
      refine wpAnyH_done (by kernel_rfl) ?_ _
      clear hs0 hH
      obtain ⟨hx0, hx1, hx2⟩ := HSS.out _ HX0.out
      by_cases hyb : yv = b
      · have hq : ((yv : Int) == b) = true := by simpa using hyb
        have HR : Hid (Z = yw) := Lib.hid (by rw [HZR.out, if_pos hyb])
        clear hyb
        go_wp2_with fail
        go_ret
        exact ⟨by rw [HR.out]; rfl, gNx HB1.out (gNx HB2.out HX0.out)⟩
      · have hq : ((yv : Int) == b) = false := by simpa using hyb
        have HR : Hid (Z = match (L.drop (k + 1)).find? (fun z => othE z u == b) with | some y => y.w | none => 0) := Lib.hid (by rw [HZR.out, if_neg hyb])
        clear hyb
        go_wp2_with fail
        refine ⟨⟨k + 1, congrArg (Value.int .i64) HK1.out.2.2.2, HK1.out.1, HR.out, HX0.out⟩, ?_⟩
        show L.length - ((k : Int) + 1).toNat < L.length - (k : Int).toNat
        rw [HK1.out.2.2.1]
        exact HK1.out.2.1
    · have hnk : ¬ (k : Int) < (L.length : Int) := by omega
      have HZE : Hid (Z = 0) := Lib.hid (by rw [hzk, List.drop_of_length_le (by omega)]; rfl)
      clear hlt hbx hk hzk
      go_wp2_with fail
      go_ret
      exact ⟨by rw [HZE.out]; rfl, gNx HB1.out (gNx HB2.out HXW.out)⟩
theorem tabE_zero {G : Gr} {max : Nat} {id : Int} : tabE G max id = 0 ↔ ballE G max = 0 ∧ upB G.nodes id = true := by
  unfold tabE
  by_cases h : ballE G max = 0
  · rw [if_neg (by simpa using h)]
    cases upB G.nodes id <;> simp [h]
  · rw [if_pos h]; simp [h]
/-- Does an entry tell of this destination at this distance, behind this link? -/
def onB (d : Int) (c n : Nat) (e : En) : Bool := (e.dest == d) && sumIs e.dist c n
theorem any_take {α : Type} (p : α → Bool) (l : List α) {k : Nat} (h : k < l.length) : (l.take (k + 1)).any p = ((l.take k).any p || p l[k]) := by
  rw [List.take_succ_eq_append_getElem h, List.any_append]; simp
set_option maxHeartbeats 64000000 in
theorem law_bon (G : Gr) (na : Option Addr) (nc : Nat) (la : Option Addr) (lc : Nat) (max : Nat) (u : Int) (w : World) (hin : GrIn w G na la) (hm : max < 2 ^ 64) (_ : (Lit.int .i64 u).wf = true) :
    Calls Tryz.prog 5 #[.agg #[.slice na G.nodes.length nc, .slice la G.links.length lc], .float .f64 max, .int .i64 u] w fun e w' => e = .returned (.bool true) ∧ Below w.heap.size w w' := by
  obtain ⟨W1, hW1⟩ : ∃ W1, W1 = w.alloc (.cells #[.slice na G.nodes.length nc, .slice la G.links.length lc] 25) := ⟨_, rfl⟩
  have b1 : Below w.heap.size w W1 := by rw [hW1]; exact gAl _ _
  have s1 : w.heap.size < W1.heap.size := by rw [hW1]; simp
  have r1 : W1.heap[w.heap.size]? = some (.cells #[.slice na G.nodes.length nc, .slice la G.links.length lc] 25 (0, 0)) := by rw [hW1]; exact heap_alloc_new w _
  obtain ⟨gb, hgb⟩ : ∃ gb, gb = w.heap.size := ⟨_, rfl⟩
  rw [← hgb] at r1 s1
  have HKG : Hid (∀ V, Below W1.heap.size W1 V → V.cell? ⟨gb, 0, none⟩ = some (.slice na G.nodes.length nc) ∧ V.cell? ⟨gb, 1, none⟩ = some (.slice la G.links.length lc)) := Lib.hid (fun V hV => by
    have := two_cells ((hV.block _ s1).trans r1)
    exact ⟨this.1, this.2.1⟩)
  have HB1 := Lib.hid b1
  have HIN : Hid (∀ V, Below W1.heap.size W1 V → GrIn V G na la) := Lib.hid (fun V hV => (hin.below b1).below hV)
  have hst := g_storeL
  have HMX := Lib.hid hm
  have HAW := Lib.hid bAwake_any
  have HWT : Hid (Wts G) := Lib.hid hin.wts
  obtain ⟨g0, g1⟩ := HKG.out W1 (Below.refl _ _)
  have HWS : Hid (W1 = w.alloc (.cells #[.slice na G.nodes.length nc, .slice la G.links.length lc] 25) ∧ w.heap.size = gb) := Lib.hid ⟨hW1, hgb.symm⟩
  have HC := Lib.hid (fun (id : Int) V (hV : Below W1.heap.size W1 V) => pTable_any G na nc la lc max id V (HIN.out V hV) HMX.out)
  clear hin b1 s1 r1 hm hW1 hgb
  go_enter Tryz.func5, Tryz.ntmps5
  go_upto_region 1 with (fail)
  rw [← HWS.out.1, HWS.out.2]
  go_wp2_with fail
  refine (HC.out u W1 (Below.refl _ _)).mono ?_
  rintro e w2 hte
  obtain ⟨hb2, v1, rfl, ho1⟩ := TabEnds.is HWT.out hte
  have HB2 := Lib.hid hb2
  have HO1 := Lib.hid ho1
  obtain ⟨a1, c1, rfl⟩ := ho1.slice
  clear hb2 hte ho1 g0 g1
  obtain ⟨g0, g1⟩ := HKG.out w2 HB2.out
  by_cases hE : tabE G max u = 0
  case neg =>
    have HR := Lib.hid (rbTab_any max u G na nc la lc w2 (HIN.out w2 HB2.out) HMX.out)
    have hz : (tabE G max u != 0) = true := by simpa using hE
    have hee : (tabE G max u == tabE G max u) = true := by simp
    clear hE HO1
    generalize (tabL G max u).length = nl at *
    go_wp2_with fail
    refine HR.out.mono ?_
    rintro e w4 ⟨hb4, v2, rfl, ho2⟩
    have HB4 := Lib.hid (gNx HB2.out hb4)
    clear hb4 g0 g1 ho2 HR
    go_wp2_with fail
    refine (HAW.out w4).mono ?_
    rintro e w6 ⟨rfl, hb6⟩
    have HB6 := Lib.hid (gNx HB1.out (gNx HB4.out hb6))
    clear hb6
    go_wp2_with fail
    go_ret
    exact ⟨rfl, HB6.out⟩
  case pos =>
    obtain ⟨hbe, hup⟩ := tabE_zero.1 hE
    obtain ⟨hz, hl⟩ := ballE_zero.1 hbe
    have HLIM : Hid (0 < qn max ∧ qn max ≤ 4294967296) := Lib.hid (by
      obtain ⟨lim, l1, l2, l3⟩ := limit_q max HMX.out hl
      rw [l3, qn_qw (by omega)]; exact ⟨by omega, l2⟩)
    have HON : Hid (∀ e ∈ tabI G (qn max) u, (e.dist = none ∧ e.kind = 1 ∧ e.next = 0) ∨ ∃ n c m, e.dist = some n ∧ upB G.nodes e.next = true ∧ wtO G u e.next = qw c ∧ 0 < c ∧ c ≤ 4294967296 ∧ m + c = n ∧
      ((e.next = e.dest ∧ m = 0) ∨ (e.next ≠ e.dest ∧ ∃ x ∈ tabI G (qn max) e.next, x.dest = e.dest ∧ x.dist = some m))) := Lib.hid (fun e he => on_fact hz HWT.out HLIM.out.1 hup he)
    have HSMD : Hid (∀ v, ∀ e ∈ tabI G (qn max) v, Sm e.dist) := Lib.hid (fun v e he => by
      obtain ⟨d, -, -, -, -, rfl⟩ := tab_mem he
      rw [(en_parts G (qn max) v d).2.1]
      exact dI_sm hz HWT.out HLIM.out.2 _ _)
    have HBE : Hid (ballE G max = 0) := Lib.hid hbe
    have HWW := Lib.hid (fun (b : Int) V (hV : Below W1.heap.size W1 V) => lawWt_any u b G na nc la lc V (HIN.out V hV) hz hup)
    have HTL : Hid (tabL G max u = tabI G (qn max) u) := Lib.hid (by unfold tabL; rw [if_pos ⟨hbe, hup⟩])
    have HLE : Hid ((tabI G (qn max) u).length ≤ 768) := Lib.hid (by rw [← HTL.out]; exact tabL_len G max u)
    rw [HTL.out] at HO1 ⊢
    rw [hE]
    obtain ⟨L, hL⟩ : ∃ L, L = tabI G (qn max) u := ⟨_, rfl⟩
    have HSML : Hid (∀ e ∈ L, Sm e.dist) := Lib.hid (by rw [hL]; exact HSMD.out u)
    rw [← hL] at HO1 HON HLE ⊢
    have HEI : Hid (0 < L.length → ∃ g c, Value.slice a1 L.length c1 = .slice (some ⟨g, 0, none⟩) L.length c ∧ EnsIn w2 L g) := Lib.hid (fun h0 => ens_in HO1.out h0)
    clear hE hbe hup hz hl hL HO1 HTL
    go_wp2_with fail
    clear g0 g1
    go_loopw [11] (fun v wr => ∃ k : Nat, v = .int .i64 (k : Int) ∧ k ≤ L.length ∧ Below w2.heap.size w2 wr) (fun v _ => L.length - (RowKit.intOf v).toNat)
    case atStart => exact ⟨0, rfl, Nat.zero_le _, Below.refl _ _⟩
    case round =>
      rename World => wo
      obtain ⟨k, rfl, hk, hbel⟩ := hrel
      have HBO := Lib.hid hbel
      by_cases hlt : k < L.length
      · have hlti : (k : Int) < (L.length : Int) := by omega
        have hk0 : (0 : Int) ≤ (k : Int) := by omega
        have hkw : IntKind.i64.wrap ((k : Int) + 1) = (k : Int) + 1 := by rw [IntKind.wrap_i64]; have := HLE.out; omega
        have HK1 : Hid (k + 1 ≤ L.length ∧ L.length - (k + 1) < L.length - k ∧ ((k : Int) + 1).toNat = k + 1 ∧ (k : Int) + 1 = ((k + 1 : Nat) : Int)) := Lib.hid ⟨by omega, by omega, by omega, by omega⟩
        obtain ⟨eg, ec, he1, hei⟩ := HEI.out (by omega)
        simp only [Value.slice.injEq, true_and] at he1
        obtain ⟨rfl, rfl⟩ := he1
        have hcs := (hei.kept (hbel.block eg hei.low)).choose_spec.2 k hlt
        have hon := HON.out _ (List.getElem_mem hlt)
        have hsm := HSML.out _ (List.getElem_mem hlt)
        generalize L[k] = en at *
        obtain ⟨a0, ak, A, an, ar, ah⟩ := en
        have y0 := hcs 0 _ rfl
        have y1 := hcs 1 _ rfl
        have y2 := hcs 2 _ rfl
        have y3 := hcs 3 _ rfl
        have y4 := hcs 4 _ rfl
        have y5 := hcs 5 _ rfl
        simp only [Nat.add_zero] at y0
        simp only at hon hsm
        have HSM := Lib.hid hsm
        generalize hdn : dw A = dn at *
        generalize dw ar = dr at *
        obtain ⟨W5, hW5⟩ : ∃ W5, W5 = wo.alloc (.cells #[.int .i64 a0, .int .i64 ak, .float .f64 dn, .int .i64 an, .float .f64 dr, .int .i64 ah] 43) := ⟨_, rfl⟩
        obtain ⟨bx, hbx⟩ : ∃ bx, bx = wo.heap.size := ⟨_, rfl⟩
        have b5 : Below wo.heap.size wo W5 := by rw [hW5]; exact gAl _ _
        have s5 : bx < W5.heap.size := by rw [hW5, hbx]; simp
        have r5 : EnL W5 bx [.int .i64 a0, .int .i64 ak, .float .f64 dn, .int .i64 an, .float .f64 dr, .int .i64 ah] := by rw [hW5, hbx]; exact heap_alloc_new wo _
        have HB5 := Lib.hid (gNx HBO.out b5)
        have HBX : Hid (∀ V, Below W5.heap.size W5 V → V.cell? ⟨bx, 0, none⟩ = some (.int .i64 a0) ∧ V.cell? ⟨bx, 1, none⟩ = some (.int .i64 ak) ∧ V.cell? ⟨bx, 2, none⟩ = some (.float .f64 dn) ∧ V.cell? ⟨bx, 3, none⟩ = some (.int .i64 an)) := Lib.hid (fun V hV => by
          obtain ⟨q0, q1, q2, q3, -⟩ := (r5.kept (hV.block bx s5)).cells
          exact ⟨q0, q1, q2, q3⟩)
        have HFAR := Lib.hid (fun V => rbFar_any A hsm V)
        rw [hdn] at HFAR
        have HDN := Lib.hid hdn
        have HB15 := Lib.hid (gNx HB2.out HB5.out)
        clear hlt hbel hk hcs hei hsm hdn b5 s5 r5
        go_upto_region 9 with (fail)
        rw [← hW5, ← hbx]
        clear y0 y1 y2 y3 y4 y5 hW5 hbx
        obtain ⟨y0, y1, y2, y3⟩ := HBX.out W5 (Below.refl _ _)
        rcases hon with ⟨rfl, rfl, rfl⟩ | ⟨n, c, m, rfl, hup, hwt, hc0, hc1, hmc, hor⟩
        · simp only [Option.isNone_none] at HFAR
          go_wp2_with ((go_at_call 15; refine (HFAR.out _).mono ?_; rintro e w' ⟨rfl, rfl⟩))
          refine ⟨⟨k + 1, congrArg (Value.int .i64) HK1.out.2.2.2, HK1.out.1, HB5.out⟩, ?_⟩
          show L.length - ((k : Int) + 1).toNat < L.length - (k : Int).toNat
          rw [HK1.out.2.2.1]
          exact HK1.out.2.1
        · simp only [Option.isNone_some] at HFAR
          have HW := Lib.hid (HWW.out an W5 HB15.out)
          rw [hwt] at HW
          have HMC := Lib.hid hmc
          have HC01 : Hid (0 < c ∧ c ≤ 4294967296) := Lib.hid ⟨hc0, hc1⟩
          have HNS : Hid (n ≤ 4294967296) := HSM
          have HUN := Lib.hid hup
          obtain ⟨g0, g1⟩ := HKG.out W5 HB15.out
          clear hwt hup hc0 hc1 hmc
          obtain ⟨cw, hcw⟩ : ∃ cw, cw = qw c := ⟨_, rfl⟩
          have HCW := Lib.hid hcw
          rw [← hcw] at HW
          clear hcw
          by_cases hnd : an = a0
          · have hne : (an == a0) = true := by simpa using hnd
            have hcn : cw = dn := by
              rcases hor with ⟨-, h0⟩ | ⟨h1, -⟩
              · have := HMC.out; have h2 := HDN.out; rw [HCW.out, ← h2]; unfold dw; congr 1; omega
              · exact absurd hnd h1
            have hfe0 : (FloatKind.f64.format.order cw dn == some .eq) = true := by
              have h2 := HDN.out
              rw [hcn, ← h2]
              show (FloatKind.f64.format.order (qw n) (qw n) == some .eq) = true
              rw [qw_eqB2 (by have := HNS.out; omega) (by have := HNS.out; omega)]; simp
            have hfe : (FloatKind.f64.format.order cw dn != some .eq) = false := by rw [bne, hfe0]; rfl
            clear hor hnd hcn hfe0
            go_wp2_with ((go_at_call 15; refine (HFAR.out _).mono ?_; rintro e w' ⟨rfl, rfl⟩))
            refine HW.out.mono ?_
            rintro e W6 ⟨rfl, hb6⟩
            have HB6 := Lib.hid (gNx HB5.out hb6)
            clear y0 y1 y2 y3 g0 g1
            obtain ⟨y0, y1, y2, y3⟩ := HBX.out W6 hb6
            clear hb6
            go_wp2_with fail
            refine ⟨⟨k + 1, congrArg (Value.int .i64) HK1.out.2.2.2, HK1.out.1, HB6.out⟩, ?_⟩
            show L.length - ((k : Int) + 1).toNat < L.length - (k : Int).toNat
            rw [HK1.out.2.2.1]
            exact HK1.out.2.1
          · have hne : (an == a0) = false := by simpa using hnd
            have HEX : Hid (∃ x ∈ tabI G (qn max) an, x.dest = a0 ∧ x.dist = some m) := Lib.hid (by
              rcases hor with ⟨h1, -⟩ | ⟨-, h⟩
              · exact absurd h1 hnd
              · exact h)
            clear hor hnd
            go_wp2_with ((go_at_call 15; refine (HFAR.out _).mono ?_; rintro e w' ⟨rfl, rfl⟩))
            refine HW.out.mono ?_
            rintro e W6 ⟨rfl, hb6⟩
            have HB56 := Lib.hid hb6
            have HB6 := Lib.hid (gNx HB5.out hb6)
            have HB16 := Lib.hid (gNx HB15.out hb6)
            clear y0 y1 y2 y3 g0 g1
            obtain ⟨y0, y1, y2, y3⟩ := HBX.out W6 hb6
            obtain ⟨g0, g1⟩ := HKG.out W6 HB16.out
            clear hb6
            go_wp2_with fail
            refine (HC.out an W6 HB16.out).mono ?_
            rintro e W7 hte
            obtain ⟨hb7, v2, rfl, ho2⟩ := TabEnds.is HWT.out hte
            have HTE : Hid (tabE G max an = 0 ∧ tabL G max an = tabI G (qn max) an) := Lib.hid ⟨tabE_zero.2 ⟨HBE.out, HUN.out⟩, by unfold tabL; rw [if_pos ⟨HBE.out, HUN.out⟩]⟩
            have HLE2 : Hid ((tabI G (qn max) an).length ≤ 768) := Lib.hid (by rw [← HTE.out.2]; exact tabL_len G max an)
            rw [HTE.out.2] at ho2
            rw [HTE.out.1]
            obtain ⟨a2, c2, rfl⟩ := ho2.slice
            have HSM2 : Hid (∀ e ∈ tabI G (qn max) an, Sm e.dist) := Lib.hid (HSMD.out an)
            obtain ⟨L2, hL2⟩ : ∃ L2, L2 = tabI G (qn max) an := ⟨_, rfl⟩
            rw [← hL2] at ho2 HEX HLE2 HSM2 ⊢
            have HEI2 : Hid (0 < L2.length → ∃ g c, Value.slice a2 L2.length c2 = .slice (some ⟨g, 0, none⟩) L2.length c ∧ EnsIn W7 L2 g) := Lib.hid (fun h0 => ens_in ho2 h0)
            have HALL : Hid (L2.any (onB a0 c n) = true) := Lib.hid (by
              obtain ⟨x, x1, x2, x3⟩ := HEX.out
              refine List.any_eq_true.2 ⟨x, x1, ?_⟩
              unfold onB sumIs
              rw [x2, x3]
              have := HMC.out
              simp [this])
            have HB57 := Lib.hid (gNx HB56.out hb7)
            have HB7 := Lib.hid (gNx HB6.out hb7)
            have HBX7 : Hid (∀ V, Below W7.heap.size W7 V → V.cell? ⟨bx, 0, none⟩ = some (.int .i64 a0) ∧ V.cell? ⟨bx, 2, none⟩ = some (.float .f64 dn)) := Lib.hid (fun V hV => by
              obtain ⟨q0, -, q2, -⟩ := HBX.out V (gNx HB57.out hV)
              exact ⟨q0, q2⟩)
            clear y0 y1 y2 y3 g0 g1 hte hb7 ho2 hL2 HTE HEX
            go_wp2_with fail
            go_loopw [17, 14] (fun v tv wr => ∃ (j : Nat) (tb : Bool), v = .int .i64 (j : Int) ∧ tv = .bool tb ∧ j ≤ L2.length ∧ tb = (L2.take j).any (onB a0 c n) ∧ Below W7.heap.size W7 wr) (fun v _ _ => L2.length - (RowKit.intOf v).toNat)
            case atStart => exact ⟨0, false, rfl, rfl, Nat.zero_le _, rfl, Below.refl _ _⟩
            case round =>
              obtain ⟨j, tb, rfl, rfl, hj, htb, hbel⟩ := hrel
              obtain ⟨wq, hwq⟩ : ∃ wq, wq = wr := ⟨_, rfl⟩
              subst hwq
              have HBQ := Lib.hid hbel
              have HTB := Lib.hid htb
              by_cases hlt : j < L2.length
              · have hlti : (j : Int) < (L2.length : Int) := by omega
                have hj0 : (0 : Int) ≤ (j : Int) := by omega
                have hjw : IntKind.i64.wrap ((j : Int) + 1) = (j : Int) + 1 := by rw [IntKind.wrap_i64]; have := HLE2.out; omega
                have HJ1 : Hid (j + 1 ≤ L2.length ∧ L2.length - (j + 1) < L2.length - j ∧ ((j : Int) + 1).toNat = j + 1 ∧ (j : Int) + 1 = ((j + 1 : Nat) : Int)) := Lib.hid ⟨by omega, by omega, by omega, by omega⟩
                obtain ⟨q2, p2, he2, hei⟩ := HEI2.out (by omega)
                simp only [Value.slice.injEq, true_and] at he2
                obtain ⟨rfl, rfl⟩ := he2
                have HSS0 : Hid (∀ V, Below W7.heap.size W7 V → ∀ i u, (enC L2[j])[i]? = some u → V.cell? ⟨q2, j * 6 + i, none⟩ = some u) := Lib.hid (fun V hV => (hei.kept (hV.block q2 hei.low)).choose_spec.2 j hlt)
                have HTN := Lib.hid (any_take (onB a0 c n) L2 hlt)
                have hsm := HSM2.out _ (List.getElem_mem hlt)
                rw [← HTB.out] at HTN
                generalize L2[j] = en at *
                obtain ⟨xd, xk, xA, xn, xr, xh⟩ := en
                simp only at hsm
                obtain ⟨S, hS, hS2⟩ := sum_is3 xA c n hsm HC01.out.1 HC01.out.2 HNS.out
                obtain ⟨da, hda⟩ : ∃ da, da = dw xA := ⟨_, rfl⟩
                have HSS : Hid (∀ V, Below W7.heap.size W7 V → V.cell? ⟨q2, j * 6, none⟩ = some (.int .i64 xd) ∧ V.cell? ⟨q2, j * 6 + 2, none⟩ = some (.float .f64 da) ∧ V.cell? ⟨bx, 0, none⟩ = some (.int .i64 a0) ∧ V.cell? ⟨bx, 2, none⟩ = some (.float .f64 dn)) := Lib.hid (fun V hV => by
                  have e0 := HSS0.out V hV 0 _ rfl
                  have e2 := HSS0.out V hV 2 _ rfl
                  obtain ⟨q0, q2'⟩ := HBX7.out V hV
                  exact ⟨by simpa using e0, by rw [hda]; exact e2, q0, q2'⟩)
                have hdq := HDN.out
                rw [show qw n = dn from hdq] at hS2
                rw [← hda, ← HCW.out] at hS
                have e1 := fun w => run_add_some (P := Tryz.prog) 26 da cw S hS w
                obtain ⟨ts, hts⟩ : ∃ ts, ts = sumIs xA c n := ⟨_, rfl⟩
                have HTN2 : Hid ((L2.take (j + 1)).any (onB a0 c n) = (tb || ((xd == a0) && ts))) := Lib.hid (by rw [HTN.out, hts]; rfl)
                rw [← hts] at hS2
                clear hlt hbel hj htb hei hsm hda hdq hts hS HTN HSS0
                cases tb with
                | true =>
                  have HTN : Hid (true = (L2.take (j + 1)).any (onB a0 c n)) := Lib.hid (by rw [HTN2.out]; rfl)
                  go_upto_region 21 with (fail)
                  refine wp_region_held_drew (S := fun V => V.cell? ⟨q2, j * 6, none⟩ = some (.int .i64 xd) ∧ V.cell? ⟨q2, j * 6 + 2, none⟩ = some (.float .f64 da) ∧ V.cell? ⟨bx, 0, none⟩ = some (.int .i64 a0) ∧ V.cell? ⟨bx, 2, none⟩ = some (.float .f64 dn)) (by kernel_rfl) (HSS.out _ (Below.drew HBQ.out)) (fun hH => ?_)
                  have hs0 := HSS.out _ (Below.drew HBQ.out)
                  have HX0 := Lib.hid (Below.drew HBQ.out)
                  generalize wq.drew = V0 at *
                  refine tk 0 (by assumption) rfl (by kernel_rfl) (fun _ _ _ h => h) (fun V hV => by go_simp; try with_reducible rfl) ?_
                  try simp only [Act.put, sqA, sqB, sqC, sqD, sqE, sqF]
                  refine tk 1 (by assumption) rfl (by kernel_rfl) (fun _ _ _ h => h) (fun V hV => by go_simp; try with_reducible rfl) ?_
                  try simp only [Act.put, sqA, sqB, sqC, sqD, sqE, sqF]
                  refine wpAnyH_take (i := 2) (oi := _) (v := undef) rfl (by kernel_rfl) (by kernel_rfl) (by kernel_rfl) (fun _ _ _ h => h) (Or.inr ⟨by kernel_rfl, rfl⟩) (by assumption) ?_
                  try simp only [Act.put, sqA, sqB, sqC, sqD, sqE, sqF]
                  refine wpAnyH_take (i := 3) (oi := _) (v := undef) rfl (by kernel_rfl) (by kernel_rfl) (by kernel_rfl) (fun _ _ _ h => h) (Or.inr ⟨by kernel_rfl, rfl⟩) (by assumption) ?_
                  try simp only [Act.put, sqA, sqB, sqC, sqD, sqE, sqF]
                  refine wpAnyH_take (i := 4) (oi := _) (v := undef) rfl (by kernel_rfl) (by kernel_rfl) (by kernel_rfl) (fun _ _ _ h => h) (Or.inr ⟨by kernel_rfl, rfl⟩) (by assumption) ?_
                  try simp only [Act.put, sqA, sqB, sqC, sqD, sqE, sqF]
                  refine wpAnyH_take (i := 5) (oi := _) (v := undef) rfl (by kernel_rfl) (by kernel_rfl) (by kernel_rfl) (fun _ _ _ h => h) (Or.inr ⟨by kernel_rfl, rfl⟩) (by assumption) ?_
                  try simp only [Act.put, sqA, sqB, sqC, sqD, sqE, sqF]
                  refine wpAnyH_take (i := 6) (oi := _) (v := undef) rfl (by kernel_rfl) (by kernel_rfl) (by kernel_rfl) (fun _ _ _ h => h) (Or.inr ⟨by kernel_rfl, rfl⟩) (by assumption) ?_
                  try simp only [Act.put, sqA, sqB, sqC, sqD, sqE, sqF]
                  refine wpAnyH_take (i := 7) (oi := _) (v := undef) rfl (by kernel_rfl) (by kernel_rfl) (by kernel_rfl) (fun _ _ _ h => h) (Or.inr ⟨by kernel_rfl, rfl⟩) (by assumption) ?_
                  try simp only [Act.put, sqA, sqB, sqC, sqD, sqE, sqF]
                  refine wpAnyH_take (i := 8) (oi := _) (v := undef) rfl (by kernel_rfl) (by kernel_rfl) (by kernel_rfl) (fun _ _ _ h => h) (Or.inr ⟨by kernel_rfl, rfl⟩) (by assumption) ?_
                  try simp only [Act.put, sqA, sqB, sqC, sqD, sqE, sqF]
                  refine wpAnyH_take (i := 9) (oi := _) (v := undef) rfl (by kernel_rfl) (by kernel_rfl) (by kernel_rfl) (fun _ _ _ h => h) (Or.inr ⟨by kernel_rfl, rfl⟩) (by assumption) ?_
                  try simp only [Act.put, sqA, sqB, sqC, sqD, sqE, sqF]
                  refine wpAnyH_take (i := 10) (oi := _) (v := undef) rfl (by kernel_rfl) (by kernel_rfl) (by kernel_rfl) (fun _ _ _ h => h) (Or.inr ⟨by kernel_rfl, rfl⟩) (by assumption) ?_
                  try simp only [Act.put, sqA, sqB, sqC, sqD, sqE, sqF]
                  refine wpAnyH_take (i := 11) (oi := _) (v := undef) rfl (by kernel_rfl) (by kernel_rfl) (by kernel_rfl) (fun _ _ _ h => h) (Or.inr ⟨by kernel_rfl, rfl⟩) (by assumption) ?_
                  try simp only [Act.put, sqA, sqB, sqC, sqD, sqE, sqF]
                  refine wpAnyH_take (i := 12) (oi := _) (v := undef) rfl (by kernel_rfl) (by kernel_rfl) (by kernel_rfl) (fun _ _ _ h => h) (Or.inr ⟨by kernel_rfl, rfl⟩) (by assumption) ?_
                  try simp only [Act.put, sqA, sqB, sqC, sqD, sqE, sqF]
                  refine wpAnyH_take (i := 13) (oi := _) (v := undef) rfl (by kernel_rfl) (by kernel_rfl) (by kernel_rfl) (fun _ _ _ h => h) (Or.inr ⟨by kernel_rfl, rfl⟩) (by assumption) ?_
                  try simp only [Act.put, sqA, sqB, sqC, sqD, sqE, sqF]
                  refine wpAnyH_take (i := 14) (oi := _) (v := undef) rfl (by kernel_rfl) (by kernel_rfl) (by kernel_rfl) (fun _ _ _ h => h) (Or.inr ⟨by kernel_rfl, rfl⟩) (by assumption) ?_
                  try simp only [Act.put, sqA, sqB, sqC, sqD, sqE, sqF]
                  refine wpAnyH_take (i := 15) (oi := _) (v := undef) rfl (by kernel_rfl) (by kernel_rfl) (by kernel_rfl) (fun _ _ _ h => h) (Or.inr ⟨by kernel_rfl, rfl⟩) (by assumption) ?_
                  try simp only [Act.put, sqA, sqB, sqC, sqD, sqE, sqF]
                  refine wpAnyH_take (i := 16) (oi := _) (v := undef) rfl (by kernel_rfl) (by kernel_rfl) (by kernel_rfl) (fun _ _ _ h => h) (Or.inr ⟨by kernel_rfl, rfl⟩) (by assumption) ?_
                  try simp only [Act.put, sqA, sqB, sqC, sqD, sqE, sqF]
                  refine wpAnyH_take (i := 17) (oi := _) (v := undef) rfl (by kernel_rfl) (by kernel_rfl) (by kernel_rfl) (fun _ _ _ h => h) (Or.inr ⟨by kernel_rfl, rfl⟩) (by assumption) ?_
                  try simp only [Act.put, sqA, sqB, sqC, sqD, sqE, sqF]
                  refine wpAnyH_take (i := 18) (oi := _) (v := undef) rfl (by kernel_rfl) (by kernel_rfl) (by kernel_rfl) (fun _ _ _ h => h) (Or.inr ⟨by kernel_rfl, rfl⟩) (by assumption) ?_
                  try simp only [Act.put, sqA, sqB, sqC, sqD, sqE, sqF]
                  refine wpAnyH_take (i := 19) (oi := _) (v := undef) rfl (by kernel_rfl) (by kernel_rfl) (by kernel_rfl) (fun _ _ _ h => h) (Or.inr ⟨by kernel_rfl, rfl⟩) (by assumption) ?_
                  try simp only [Act.put, sqA, sqB, sqC, sqD, sqE, sqF]
                  refine wpAnyH_take (i := 20) (oi := _) (v := undef) rfl (by kernel_rfl) (by kernel_rfl) (by kernel_rfl) (fun _ _ _ h => h) (Or.inr ⟨by kernel_rfl, rfl⟩) (by assumption) ?_
                  try simp only [Act.put, sqA, sqB, sqC, sqD, sqE, sqF]
                  refine wpAnyH_take (i := 21) (oi := _) (v := undef) rfl (by kernel_rfl) (by kernel_rfl) (by kernel_rfl) (fun _ _ _ h => h) (Or.inr ⟨by kernel_rfl, rfl⟩) (by assumption) ?_
                  try simp only [Act.put, sqA, sqB, sqC, sqD, sqE, sqF]
                  refine tk 22 (by assumption) rfl (by kernel_rfl) (fun _ _ _ h => h) (fun V hV => by go_simp; try with_reducible rfl) ?_
                  try simp only [Act.put, sqA, sqB, sqC, sqD, sqE, sqF]
                  refine tk 23 (by assumption) rfl (by kernel_rfl) (fun _ _ _ h => h) (fun V hV => by go_simp; try with_reducible rfl) ?_
                  try simp only [Act.put, sqA, sqB, sqC, sqD, sqE, sqF]
                  refine wpAnyH_done (by kernel_rfl) ?_ _
                  clear hs0 hH
                  go_wp2_with fail
                  refine ⟨⟨j + 1, true, congrArg (Value.int .i64) HJ1.out.2.2.2, rfl, HJ1.out.1, HTN.out, HX0.out⟩, ?_⟩
                  show L2.length - ((j : Int) + 1).toNat < L2.length - (j : Int).toNat
                  rw [HJ1.out.2.2.1]
                  exact HJ1.out.2.1
                | false =>
                  by_cases hxa : xd = a0
                  · have hxe : (xd == a0) = true := by simpa using hxa
                    have HTN : Hid (ts = (L2.take (j + 1)).any (onB a0 c n)) := Lib.hid (by rw [HTN2.out, hxe]; simp)
                    clear hxa
                    go_upto_region 21 with (fail)
                    refine wp_region_held_drew (S := fun V => V.cell? ⟨q2, j * 6, none⟩ = some (.int .i64 xd) ∧ V.cell? ⟨q2, j * 6 + 2, none⟩ = some (.float .f64 da) ∧ V.cell? ⟨bx, 0, none⟩ = some (.int .i64 a0) ∧ V.cell? ⟨bx, 2, none⟩ = some (.float .f64 dn)) (by kernel_rfl) (HSS.out _ (Below.drew HBQ.out)) (fun hH => ?_)
                    have hs0 := HSS.out _ (Below.drew HBQ.out)
                    have HX0 := Lib.hid (Below.drew HBQ.out)
                    generalize wq.drew = V0 at *
                    refine tk 0 (by assumption) rfl (by kernel_rfl) (fun _ _ _ h => h) (fun V hV => by go_simp; try with_reducible rfl) ?_
                    try simp only [Act.put, sqA, sqB, sqC, sqD, sqE, sqF]
                    refine tk 1 (by assumption) rfl (by kernel_rfl) (fun _ _ _ h => h) (fun V hV => by go_simp; try with_reducible rfl) ?_
                    try simp only [Act.put, sqA, sqB, sqC, sqD, sqE, sqF]
                    refine tk 2 (by assumption) rfl (by kernel_rfl) (fun _ _ _ h => h) (fun V hV => by go_simp; try with_reducible rfl) ?_
                    try simp only [Act.put, sqA, sqB, sqC, sqD, sqE, sqF]
                    refine tk 3 (by assumption) rfl (by kernel_rfl) (fun _ _ _ h => h) (fun V hV => by go_simp; try with_reducible rfl) ?_
                    try simp only [Act.put, sqA, sqB, sqC, sqD, sqE, sqF]
                    refine tk 4 (by assumption) rfl (by kernel_rfl) (fun _ _ _ h => h) (fun V hV => by go_simp; try with_reducible rfl) ?_
                    try simp only [Act.put, sqA, sqB, sqC, sqD, sqE, sqF]
                    refine tk 5 (by assumption) rfl (by kernel_rfl) (fun _ _ _ h => h) (fun V hV => by go_simp; try with_reducible rfl) ?_
                    try simp only [Act.put, sqA, sqB, sqC, sqD, sqE, sqF]
                    refine tk 6 (by assumption) rfl (by kernel_rfl) (fun _ _ _ h => h) (fun V hV => by obtain ⟨hx0, hx1, hx2, hx3⟩ := hV; go_simp; try with_reducible rfl) ?_
                    try simp only [Act.put, sqA, sqB, sqC, sqD, sqE, sqF]
                    refine tk 7 (by assumption) rfl (by kernel_rfl) (fun _ _ _ h => h) (fun V hV => by go_simp; try with_reducible rfl) ?_
                    try simp only [Act.put, sqA, sqB, sqC, sqD, sqE, sqF]
                    refine tk 8 (by assumption) rfl (by kernel_rfl) (fun _ _ _ h => h) (fun V hV => by obtain ⟨hx0, hx1, hx2, hx3⟩ := hV; go_simp; try with_reducible rfl) ?_
                    try simp only [Act.put, sqA, sqB, sqC, sqD, sqE, sqF]
                    refine tk 9 (by assumption) rfl (by kernel_rfl) (fun _ _ _ h => h) (fun V hV => by go_simp; try with_reducible rfl) ?_
                    try simp only [Act.put, sqA, sqB, sqC, sqD, sqE, sqF]
                    refine tk 10 (by assumption) rfl (by kernel_rfl) (fun _ _ _ h => h) (fun V hV => by go_simp; try with_reducible rfl) ?_
                    try simp only [Act.put, sqA, sqB, sqC, sqD, sqE, sqF]
                    refine tk 11 (by assumption) rfl (by kernel_rfl) (fun _ _ _ h => h) (fun V hV => by go_simp; try with_reducible rfl) ?_
                    try simp only [Act.put, sqA, sqB, sqC, sqD, sqE, sqF]
                    refine tk 12 (by assumption) rfl (by kernel_rfl) (fun _ _ _ h => h) (fun V hV => by go_simp; try with_reducible rfl) ?_
                    try simp only [Act.put, sqA, sqB, sqC, sqD, sqE, sqF]
                    refine tk 13 (by assumption) rfl (by kernel_rfl) (fun _ _ _ h => h) (fun V hV => by go_simp; try with_reducible rfl) ?_
                    try simp only [Act.put, sqA, sqB, sqC, sqD, sqE, sqF]
                    refine tk 14 (by assumption) rfl (by kernel_rfl) (fun _ _ _ h => h) (fun V hV => by go_simp; try with_reducible rfl) ?_
                    try simp only [Act.put, sqA, sqB, sqC, sqD, sqE, sqF]
                    refine tk 15 (by assumption) rfl (by kernel_rfl) (fun _ _ _ h => h) (fun V hV => by obtain ⟨hx0, hx1, hx2, hx3⟩ := hV; go_simp; try with_reducible rfl) ?_
                    try simp only [Act.put, sqA, sqB, sqC, sqD, sqE, sqF]
                    refine tk 16 (by assumption) rfl (by kernel_rfl) (fun _ _ _ h => h) (fun V hV => by go_simp; try with_reducible rfl) ?_
                    try simp only [Act.put, sqA, sqB, sqC, sqD, sqE, sqF]
                    refine tk 17 (by assumption) rfl (by kernel_rfl) (fun _ _ _ h => h) (fun V hV => by go_simp; try with_reducible rfl) ?_
                    try simp only [Act.put, sqA, sqB, sqC, sqD, sqE, sqF]
                    refine tk 18 (by assumption) rfl (by kernel_rfl) (fun _ _ _ h => h) (fun V hV => by go_simp; try with_reducible rfl) ?_
                    try simp only [Act.put, sqA, sqB, sqC, sqD, sqE, sqF]
                    refine tk 19 (by assumption) rfl (by kernel_rfl) (fun _ _ _ h => h) (fun V hV => by obtain ⟨hx0, hx1, hx2, hx3⟩ := hV; go_simp; try with_reducible rfl) ?_
                    try simp only [Act.put, sqA, sqB, sqC, sqD, sqE, sqF]
                    refine tk 20 (by assumption) rfl (by kernel_rfl) (fun _ _ _ h => h) (fun V hV => by go_simp; try with_reducible rfl) ?_
                    try simp only [Act.put, sqA, sqB, sqC, sqD, sqE, sqF]
                    refine tk 21 (by assumption) rfl (by kernel_rfl) (fun _ _ _ h => h) (fun V hV => by go_simp; try with_reducible rfl) ?_
                    try simp only [Act.put, sqA, sqB, sqC, sqD, sqE, sqF]
                    refine tk 22 (by assumption) rfl (by kernel_rfl) (fun _ _ _ h => h) (fun V hV => by go_simp; try with_reducible rfl) ?_
                    try simp only [Act.put, sqA, sqB, sqC, sqD, sqE, sqF]
                    refine tk 23 (by assumption) rfl (by kernel_rfl) (fun _ _ _ h => h) (fun V hV => by go_simp; try with_reducible rfl) ?_
                    try simp only [Act.put, sqA, sqB, sqC, sqD, sqE, sqF]
                    refine wpAnyH_done (by kernel_rfl) ?_ _
                    clear hs0 hH
                    go_wp2_with fail
                    refine ⟨⟨j + 1, ts, congrArg (Value.int .i64) HJ1.out.2.2.2, rfl, HJ1.out.1, HTN.out, HX0.out⟩, ?_⟩
                    show L2.length - ((j : Int) + 1).toNat < L2.length - (j : Int).toNat
                    rw [HJ1.out.2.2.1]
                    exact HJ1.out.2.1
                  · have hxe : (xd == a0) = false := by simpa using hxa
                    have HTN : Hid (false = (L2.take (j + 1)).any (onB a0 c n)) := Lib.hid (by rw [HTN2.out, hxe]; simp)
                    clear hxa
                    go_upto_region 21 with (fail)
                    refine wp_region_held_drew (S := fun V => V.cell? ⟨q2, j * 6, none⟩ = some (.int .i64 xd) ∧ V.cell? ⟨q2, j * 6 + 2, none⟩ = some (.float .f64 da) ∧ V.cell? ⟨bx, 0, none⟩ = some (.int .i64 a0) ∧ V.cell? ⟨bx, 2, none⟩ = some (.float .f64 dn)) (by kernel_rfl) (HSS.out _ (Below.drew HBQ.out)) (fun hH => ?_)
                    have hs0 := HSS.out _ (Below.drew HBQ.out)
                    have HX0 := Lib.hid (Below.drew HBQ.out)
                    generalize wq.drew = V0 at *
                    refine tk 0 (by assumption) rfl (by kernel_rfl) (fun _ _ _ h => h) (fun V hV => by go_simp; try with_reducible rfl) ?_
                    try simp only [Act.put, sqA, sqB, sqC, sqD, sqE, sqF]
                    refine tk 1 (by assumption) rfl (by kernel_rfl) (fun _ _ _ h => h) (fun V hV => by go_simp; try with_reducible rfl) ?_
                    try simp only [Act.put, sqA, sqB, sqC, sqD, sqE, sqF]
                    refine tk 2 (by assumption) rfl (by kernel_rfl) (fun _ _ _ h => h) (fun V hV => by go_simp; try with_reducible rfl) ?_
                    try simp only [Act.put, sqA, sqB, sqC, sqD, sqE, sqF]
                    refine tk 3 (by assumption) rfl (by kernel_rfl) (fun _ _ _ h => h) (fun V hV => by go_simp; try with_reducible rfl) ?_
                    try simp only [Act.put, sqA, sqB, sqC, sqD, sqE, sqF]
                    refine tk 4 (by assumption) rfl (by kernel_rfl) (fun _ _ _ h => h) (fun V hV => by go_simp; try with_reducible rfl) ?_
                    try simp only [Act.put, sqA, sqB, sqC, sqD, sqE, sqF]
                    refine tk 5 (by assumption) rfl (by kernel_rfl) (fun _ _ _ h => h) (fun V hV => by go_simp; try with_reducible rfl) ?_
                    try simp only [Act.put, sqA, sqB, sqC, sqD, sqE, sqF]
                    refine tk 6 (by assumption) rfl (by kernel_rfl) (fun _ _ _ h => h) (fun V hV => by obtain ⟨hx0, hx1, hx2, hx3⟩ := hV; go_simp; try with_reducible rfl) ?_
                    try simp only [Act.put, sqA, sqB, sqC, sqD, sqE, sqF]
                    refine tk 7 (by assumption) rfl (by kernel_rfl) (fun _ _ _ h => h) (fun V hV => by go_simp; try with_reducible rfl) ?_
                    try simp only [Act.put, sqA, sqB, sqC, sqD, sqE, sqF]
                    refine tk 8 (by assumption) rfl (by kernel_rfl) (fun _ _ _ h => h) (fun V hV => by obtain ⟨hx0, hx1, hx2, hx3⟩ := hV; go_simp; try with_reducible rfl) ?_
                    try simp only [Act.put, sqA, sqB, sqC, sqD, sqE, sqF]
                    refine tk 9 (by assumption) rfl (by kernel_rfl) (fun _ _ _ h => h) (fun V hV => by go_simp; try with_reducible rfl) ?_
                    try simp only [Act.put, sqA, sqB, sqC, sqD, sqE, sqF]
                    refine tk 10 (by assumption) rfl (by kernel_rfl) (fun _ _ _ h => h) (fun V hV => by go_simp; try with_reducible rfl) ?_
                    try simp only [Act.put, sqA, sqB, sqC, sqD, sqE, sqF]
                    refine wpAnyH_take (i := 11) (oi := _) (v := undef) rfl (by kernel_rfl) (by kernel_rfl) (by kernel_rfl) (fun _ _ _ h => h) (Or.inr ⟨by kernel_rfl, rfl⟩) (by assumption) ?_
                    try simp only [Act.put, sqA, sqB, sqC, sqD, sqE, sqF]
                    refine wpAnyH_take (i := 12) (oi := _) (v := undef) rfl (by kernel_rfl) (by kernel_rfl) (by kernel_rfl) (fun _ _ _ h => h) (Or.inr ⟨by kernel_rfl, rfl⟩) (by assumption) ?_
                    try simp only [Act.put, sqA, sqB, sqC, sqD, sqE, sqF]
                    refine wpAnyH_take (i := 13) (oi := _) (v := undef) rfl (by kernel_rfl) (by kernel_rfl) (by kernel_rfl) (fun _ _ _ h => h) (Or.inr ⟨by kernel_rfl, rfl⟩) (by assumption) ?_
                    try simp only [Act.put, sqA, sqB, sqC, sqD, sqE, sqF]
                    refine wpAnyH_take (i := 14) (oi := _) (v := undef) rfl (by kernel_rfl) (by kernel_rfl) (by kernel_rfl) (fun _ _ _ h => h) (Or.inr ⟨by kernel_rfl, rfl⟩) (by assumption) ?_
                    try simp only [Act.put, sqA, sqB, sqC, sqD, sqE, sqF]
                    refine wpAnyH_take (i := 15) (oi := _) (v := undef) rfl (by kernel_rfl) (by kernel_rfl) (by kernel_rfl) (fun _ _ _ h => h) (Or.inr ⟨by kernel_rfl, rfl⟩) (by assumption) ?_
                    try simp only [Act.put, sqA, sqB, sqC, sqD, sqE, sqF]
                    refine wpAnyH_take (i := 16) (oi := _) (v := undef) rfl (by kernel_rfl) (by kernel_rfl) (by kernel_rfl) (fun _ _ _ h => h) (Or.inr ⟨by kernel_rfl, rfl⟩) (by assumption) ?_
                    try simp only [Act.put, sqA, sqB, sqC, sqD, sqE, sqF]
                    refine wpAnyH_take (i := 17) (oi := _) (v := undef) rfl (by kernel_rfl) (by kernel_rfl) (by kernel_rfl) (fun _ _ _ h => h) (Or.inr ⟨by kernel_rfl, rfl⟩) (by assumption) ?_
                    try simp only [Act.put, sqA, sqB, sqC, sqD, sqE, sqF]
                    refine wpAnyH_take (i := 18) (oi := _) (v := undef) rfl (by kernel_rfl) (by kernel_rfl) (by kernel_rfl) (fun _ _ _ h => h) (Or.inr ⟨by kernel_rfl, rfl⟩) (by assumption) ?_
                    try simp only [Act.put, sqA, sqB, sqC, sqD, sqE, sqF]
                    refine wpAnyH_take (i := 19) (oi := _) (v := undef) rfl (by kernel_rfl) (by kernel_rfl) (by kernel_rfl) (fun _ _ _ h => h) (Or.inr ⟨by kernel_rfl, rfl⟩) (by assumption) ?_
                    try simp only [Act.put, sqA, sqB, sqC, sqD, sqE, sqF]
                    refine wpAnyH_take (i := 20) (oi := _) (v := undef) rfl (by kernel_rfl) (by kernel_rfl) (by kernel_rfl) (fun _ _ _ h => h) (Or.inr ⟨by kernel_rfl, rfl⟩) (by assumption) ?_
                    try simp only [Act.put, sqA, sqB, sqC, sqD, sqE, sqF]
                    refine tk 21 (by assumption) rfl (by kernel_rfl) (fun _ _ _ h => h) (fun V hV => by go_simp; try with_reducible rfl) ?_
                    try simp only [Act.put, sqA, sqB, sqC, sqD, sqE, sqF]
                    refine tk 22 (by assumption) rfl (by kernel_rfl) (fun _ _ _ h => h) (fun V hV => by go_simp; try with_reducible rfl) ?_
                    try simp only [Act.put, sqA, sqB, sqC, sqD, sqE, sqF]
                    refine tk 23 (by assumption) rfl (by kernel_rfl) (fun _ _ _ h => h) (fun V hV => by go_simp; try with_reducible rfl) ?_
                    try simp only [Act.put, sqA, sqB, sqC, sqD, sqE, sqF]
                    refine wpAnyH_done (by kernel_rfl) ?_ _
                    clear hs0 hH
                    go_wp2_with fail
                    refine ⟨⟨j + 1, false, congrArg (Value.int .i64) HJ1.out.2.2.2, rfl, HJ1.out.1, HTN.out, HX0.out⟩, ?_⟩
                    show L2.length - ((j : Int) + 1).toNat < L2.length - (j : Int).toNat
                    rw [HJ1.out.2.2.1]
                    exact HJ1.out.2.1
              · have hnj : ¬ (j : Int) < (L2.length : Int) := by omega
                have htt : tb = true := by
                  rw [htb, List.take_of_length_le (by omega)]; exact HALL.out
                subst htt
                clear hlt hbel hj htb HTB
                go_wp2_with fail
                refine ⟨⟨k + 1, congrArg (Value.int .i64) HK1.out.2.2.2, HK1.out.1, gNx HB7.out HBQ.out⟩, ?_⟩
                show L.length - ((k : Int) + 1).toNat < L.length - (k : Int).toNat
                rw [HK1.out.2.2.1]
                exact HK1.out.2.1
      · have hnk : ¬ (k : Int) < (L.length : Int) := by omega
        clear hlt hbel hk
        go_wp2_with fail
        refine (HAW.out wo).mono ?_
        rintro e w6 ⟨rfl, hb6⟩
        have HB6 := Lib.hid (gNx HB1.out (gNx HB2.out (gNx HBO.out hb6)))
        clear hb6
        go_wp2_with fail
        go_ret
        exact ⟨rfl, HB6.out⟩
end Go.Proofs.YtjlfpjjfldbknaaGreat
