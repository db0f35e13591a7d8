/- Balls: the document's asked, mark, home. -/
import Derived.Test.YtjlfpjjfldbknaaGreatBaH
import Derived.Test.YtjlfpjjfldbknaaGreatPrC
import Derived.Test.YtjlfpjjfldbknaaGreatNgU
namespace Go.Proofs.YtjlfpjjfldbknaaGreat
open Go.RowKit Go.Lib Go.Fq Go.Pq Go.Iq Go.Nq Go.Ow Go.Bq
set_option linter.unusedVariables false
set_option linter.unusedSimpArgs false
set_option maxRecDepth 100000

theorem rbAsked_any (G : Gr) (na : Option Addr) (nc : Nat) (la : Option Addr) (lc : Nat) (max : Nat) (w : World) (hin : GrIn w G na la) (hm : max < 2 ^ 64) :
    Calls Tryz.prog 23 #[.agg #[.slice na G.nodes.length nc, .slice la G.links.length lc], .float .f64 max] w fun e w' => e = .returned (.int .i64 (ballE G max)) ∧ Below w.heap.size w w' := by
  obtain ⟨W1, hW1⟩ : ∃ W1, W1 = w.alloc (.cells #[.slice na G.nodes.length nc, .slice la G.links.length lc] 25) := ⟨_, rfl⟩
  have b1 : Below w.heap.size w W1 := by rw [hW1]; exact gAl _ _
  have s1 : w.heap.size < W1.heap.size := by rw [hW1]; simp
  have r1 : W1.heap[w.heap.size]? = some (.cells #[.slice na G.nodes.length nc, .slice la G.links.length lc] 25 (0, 0)) := by rw [hW1]; exact heap_alloc_new w _
  obtain ⟨gb, hgb⟩ : ∃ gb, gb = w.heap.size := ⟨_, rfl⟩
  rw [← hgb] at r1 s1
  have HKG : Hid (∀ V, Below W1.heap.size W1 V → V.cell? ⟨gb, 0, none⟩ = some (.slice na G.nodes.length nc) ∧ V.cell? ⟨gb, 1, none⟩ = some (.slice la G.links.length lc)) := Lib.hid (fun V hV => by
    have := two_cells ((hV.block _ s1).trans r1)
    exact ⟨this.1, this.2.1⟩)
  have HB1 := Lib.hid b1
  have HIN : Hid (∀ V, Below W1.heap.size W1 V → GrIn V G na la) := Lib.hid (fun V hV => (hin.below b1).below hV)
  have HC := Lib.hid (rCheck_any G na la nc lc W1 (hin.below b1).nodes (hin.below b1).links hin.wts (by have := hin.n1; omega) (by have := hin.l1; omega))
  have HLM := Lib.hid (fun V => reflimit_any max V hm)
  obtain ⟨g0, g1⟩ := HKG.out W1 (Below.refl _ _)
  clear hin b1 s1 r1 hm
  by_cases hz : checkG G = 0
  · have HZ : Hid (ballE G max = limitF max) := Lib.hid (by unfold ballE; rw [if_neg (by simpa using hz)])
    rw [hz] at HC
    clear hz
    go_enter Tryz.func23, Tryz.ntmps23
    go_upto_region 1 with (fail)
    rw [← hW1, ← hgb]
    clear hW1 hgb
    go_wp2_with fail
    refine HC.out.mono ?_
    rintro e w2 ⟨rfl, hb2⟩
    have HB2 := Lib.hid (gNx HB1.out hb2)
    clear hb2 g0 g1
    go_wp2_with (go_at_call 39; refine (HLM.out _).mono ?_; rintro e w' ⟨rfl, rfl⟩)
    go_ret
    refine ⟨?_, HB2.out⟩
    rw [HZ.out]; rfl
  · have HZ : Hid (ballE G max = checkG G) := Lib.hid (by unfold ballE; rw [if_pos hz])
    have hz2 : (checkG G != 0) = true := by simpa using hz
    obtain ⟨ce, hce⟩ : ∃ ce, ce = checkG G := ⟨_, rfl⟩
    rw [← hce] at hz2 HC HZ
    clear hz hce
    go_enter Tryz.func23, Tryz.ntmps23
    go_upto_region 1 with (fail)
    rw [← hW1, ← hgb]
    clear hW1 hgb
    go_wp2_with fail
    refine HC.out.mono ?_
    rintro e w2 ⟨rfl, hb2⟩
    have HB2 := Lib.hid (gNx HB1.out hb2)
    clear hb2 g0 g1
    go_wp2_with fail
    go_ret
    refine ⟨?_, HB2.out⟩
    rw [HZ.out]; rfl
set_option maxHeartbeats 4000000 in
theorem rbMark_any (i : Nat) (G : Gr) (na : Option Addr) (nc : Nat) (la : Option Addr) (lc : Nat) (w : World) (hin : GrIn w G na la) (hz : checkG G = 0) (hi : i < G.nodes.length) :
    Calls Tryz.prog 59 #[.agg #[.slice na G.nodes.length nc, .slice la G.links.length lc], .int .i64 (idf G.nodes i : Int)] w fun e w' => e = .returned (.bool (G.nodes[i].up && G.nodes[i].mark)) ∧ Below w.heap.size w w' := by
  have n3 := (check_zero.1 hz).2.2.1
  obtain ⟨W1, hW1⟩ : ∃ W1, W1 = w.alloc (.cells #[.slice na G.nodes.length nc, .slice la G.links.length lc] 25) := ⟨_, rfl⟩
  have b1 : Below w.heap.size w W1 := by rw [hW1]; exact gAl _ _
  have s1 : w.heap.size < W1.heap.size := by rw [hW1]; simp
  have r1 : W1.heap[w.heap.size]? = some (.cells #[.slice na G.nodes.length nc, .slice la G.links.length lc] 25 (0, 0)) := by rw [hW1]; exact heap_alloc_new w _
  obtain ⟨gb, hgb⟩ : ∃ gb, gb = w.heap.size := ⟨_, rfl⟩
  rw [← hgb] at r1 s1
  have HKG : Hid (∀ V, Below W1.heap.size W1 V → V.cell? ⟨gb, 0, none⟩ = some (.slice na G.nodes.length nc) ∧ V.cell? ⟨gb, 1, none⟩ = some (.slice la G.links.length lc)) := Lib.hid (fun V hV => by
    have := two_cells ((hV.block _ s1).trans r1)
    exact ⟨this.1, this.2.1⟩)
  have HB1 := Lib.hid b1
  have HIN : Hid (∀ V, Below W1.heap.size W1 V → GrIn V G na la) := Lib.hid (fun V hV => (hin.below b1).below hV)
  have HP := Lib.hid (rPlace_any G.nodes na nc la G.links.length lc (idf G.nodes i : Int) W1 (hin.below b1).nodes n3 (by have := (check_zero.1 hz).1; omega))
  have hpl : placeV G.nodes (idf G.nodes i : Int) = (i : Int) := placeV_hit n3 hi (idf_is n3 hi).1
  rw [hpl] at HP
  obtain ⟨g0, g1⟩ := HKG.out W1 (Below.refl _ _)
  have HND : Hid (∀ V, Below W1.heap.size W1 V → ∃ b o, na = some ⟨b, o, none⟩ ∧ V.cell? ⟨b, o + i * 3 + 1, none⟩ = some (.bool G.nodes[i].up) ∧ V.cell? ⟨b, o + i * 3 + 2, none⟩ = some (.bool G.nodes[i].mark)) := Lib.hid (fun V hV => by
    obtain ⟨b, o, h1, -, h2⟩ := (HIN.out V hV).nodes.at i hi
    obtain ⟨-, h3, h4⟩ := h2 i hi
    exact ⟨b, o, h1, h3, h4⟩)
  have hii : (i : Int) < (G.nodes.length : Int) := by omega
  have hi0 : (0 : Int) ≤ (i : Int) := by omega
  have hi1 : ¬ ((i : Int) < 0) := by omega
  generalize G.nodes[i] = nd at *
  obtain ⟨ndi, ndu, ndm⟩ := nd
  simp only at HND ⊢
  clear hin b1 s1 r1 n3 hz hi hpl
  cases ndu with
  | false =>
    go_enter Tryz.func59, Tryz.ntmps59
    go_upto_region 1 with (fail)
    rw [← hW1, ← hgb]
    clear hW1 hgb
    go_wp2_with fail
    refine HP.out.mono ?_
    rintro e w2 ⟨rfl, hb2⟩
    have HB2 := Lib.hid (gNx HB1.out hb2)
    clear g0 g1
    obtain ⟨g0, g1⟩ := HKG.out w2 hb2
    obtain ⟨b, o, rfl, hu, hm⟩ := HND.out w2 hb2
    clear hb2
    go_wp2_with fail
    go_ret
    exact ⟨rfl, HB2.out⟩
  | true =>
    go_enter Tryz.func59, Tryz.ntmps59
    go_upto_region 1 with (fail)
    rw [← hW1, ← hgb]
    clear hW1 hgb
    go_wp2_with fail
    refine HP.out.mono ?_
    rintro e w2 ⟨rfl, hb2⟩
    have HB2 := Lib.hid (gNx HB1.out hb2)
    clear g0 g1
    obtain ⟨g0, g1⟩ := HKG.out w2 hb2
    obtain ⟨b, o, rfl, hu, hm⟩ := HND.out w2 hb2
    clear hb2
    go_wp2_with fail
    go_ret
    exact ⟨rfl, HB2.out⟩
def HoS (V : World) (gb : Nat) (na la : Option Addr) (nc n lc m : Nat) (b o k dg hb : Nat) (y : Int) (d1 d2 : Nat) : Prop := V.cell? ⟨gb, 0, none⟩ = some (.slice na n nc) ∧ V.cell? ⟨gb, 1, none⟩ = some (.slice la m lc) ∧ V.cell? ⟨b, o + k * 3, none⟩ = some (.int .i64 y) ∧ V.cell? ⟨dg, k, none⟩ = some (.float .f64 d1) ∧ V.cell? ⟨hb, 2, none⟩ = some (.float .f64 d2)
set_option maxHeartbeats 16000000 in
theorem rbHome_any (x : Int) (max dg dc : Nat) (G : Gr) (na : Option Addr) (nc : Nat) (la : Option Addr) (lc : Nat) (w : World) (hin : GrIn w G na la) (hz : checkG G = 0) (hl : qn max ≤ 4294967296) (hd : ∀ V, Below w.heap.size w V → ∀ i, i < G.nodes.length → V.cell? ⟨dg, i, none⟩ = some (.float .f64 (dw (g_ (dst G (qn max) (Nq.ahead G.nodes x)) i)))) :
    Calls Tryz.prog 61 #[.agg #[.slice na G.nodes.length nc, .slice la G.links.length lc], .int .i64 x, .slice (some ⟨dg, 0, none⟩) G.nodes.length dc] w fun e w' => e = .returned (.agg #[.int .i64 x, .int .i64 (homeI G (qn max) x).1, .float .f64 (dw (homeI G (qn max) x).2)]) ∧ Below w.heap.size w w' := by
  have hst := g_storeL
  have n3 := (check_zero.1 hz).2.2.1
  obtain ⟨W1, hW1⟩ : ∃ W1, W1 = w.alloc (.cells #[.slice na G.nodes.length nc, .slice la G.links.length lc] 25) := ⟨_, rfl⟩
  have b1 : Below w.heap.size w W1 := by rw [hW1]; exact gAl _ _
  have s1 : w.heap.size < W1.heap.size := by rw [hW1]; simp
  have r1 : W1.heap[w.heap.size]? = some (.cells #[.slice na G.nodes.length nc, .slice la G.links.length lc] 25 (0, 0)) := by rw [hW1]; exact heap_alloc_new w _
  obtain ⟨gb, hgb⟩ : ∃ gb, gb = w.heap.size := ⟨_, rfl⟩
  rw [← hgb] at r1 s1
  have HKG : Hid (∀ V, Below W1.heap.size W1 V → V.cell? ⟨gb, 0, none⟩ = some (.slice na G.nodes.length nc) ∧ V.cell? ⟨gb, 1, none⟩ = some (.slice la G.links.length lc)) := Lib.hid (fun V hV => by
    have := two_cells ((hV.block _ s1).trans r1)
    exact ⟨this.1, this.2.1⟩)
  have HB1 := Lib.hid b1
  have HIN : Hid (∀ V, Below W1.heap.size W1 V → GrIn V G na la) := Lib.hid (fun V hV => (hin.below b1).below hV)
  obtain ⟨W2, hW2⟩ : ∃ W2, W2 = W1.alloc (.cells #[.int .i64 0, .int .i64 0, .float .f64 0] 50) := ⟨_, rfl⟩
  have b2 : Below W1.heap.size W1 W2 := by rw [hW2]; exact gAl _ _
  have r2 : W2.heap[W1.heap.size]? = some (.cells #[.int .i64 0, .int .i64 0, .float .f64 0] 50 (0, 0)) := by rw [hW2]; exact heap_alloc_new W1 _
  have hs1 : W1.heap.size = w.heap.size + 1 := by rw [hW1]; simp
  have hs2 : W2.heap.size = W1.heap.size + 1 := by rw [hW2]; simp
  obtain ⟨rc, hrc⟩ : ∃ rc, rc = W1.heap.size := ⟨_, rfl⟩
  rw [← hrc] at r2
  obtain ⟨W3, hW3⟩ : ∃ W3, W3 = W2.alloc (.cells #[.int .i64 x, .int .i64 0, .float .f64 INF] 50) := ⟨_, rfl⟩
  have b3 : Below W2.heap.size W2 W3 := by rw [hW3]; exact gAl _ _
  have r3 : W3.heap[W2.heap.size]? = some (.cells #[.int .i64 x, .int .i64 0, .float .f64 INF] 50 (0, 0)) := by rw [hW3]; exact heap_alloc_new W2 _
  have hs3 : W3.heap.size = W2.heap.size + 1 := by rw [hW3]; simp
  obtain ⟨hb, hhb⟩ : ∃ hb, hb = W2.heap.size := ⟨_, rfl⟩
  rw [← hhb] at r3
  have HR3 : Hid (W3.heap[rc]? = some (.cells #[.int .i64 0, .int .i64 0, .float .f64 0] 50 (0, 0))) := Lib.hid ((b3.block rc (by omega)).trans r2)
  have HH3 : Hid (HomeV W3 hb x (0, none)) := Lib.hid r3
  have hb13 := gNx b2 b3
  have HB3 : Hid (Below w.heap.size w W3 ∧ Below W1.heap.size W1 W3) := Lib.hid ⟨gNx b1 hb13, hb13⟩
  have HNE0 : Hid (hb ≠ rc ∧ w.heap.size ≤ hb ∧ w.heap.size ≤ rc ∧ gb < W3.heap.size ∧ hb ≠ gb ∧ W1.heap.size ≤ hb ∧ W1.heap.size ≤ rc) := Lib.hid (by omega)
  have HDD := Lib.hid hd
  have HNL : Hid (G.nodes.length ≤ 256) := Lib.hid (check_zero.1 hz).1
  have HID : Hid (∀ k (hk : k < G.nodes.length), G.nodes[k].id = (idf G.nodes k : Int) ∧ Nq.ahead G.nodes (idf G.nodes k : Int) = k) := Lib.hid (fun k hk => ⟨(idf_is n3 hk).1, (aheadOf n3 hk).2⟩)
  have HZ := Lib.hid hz
  have HWT : Hid (Wts G) := Lib.hid hin.wts
  have HSMA : Hid (∀ u, Sm (g_ (dst G (qn max) (Nq.ahead G.nodes x)) u) ∧ Sm (homeK G (qn max) x u).2) := Lib.hid (fun u => ⟨dst_sm hz hin.wts hl _ _, by
    by_cases hu : u ≤ G.nodes.length
    · rcases home_fact (g := G) (qn max) x u hu with ⟨-, e⟩ | ⟨m, -, -, -, -, e, -⟩
      · rw [e]; trivial
      · rw [e]; exact dI_sm hz hin.wts hl _ _
    · rw [homeK_all G (qn max) x (by omega)]
      rcases home_is (g := G) (qn max) x with ⟨-, e⟩ | ⟨m, -, -, -, -, e, -⟩
      · rw [e]; trivial
      · rw [e]; exact dI_sm hz hin.wts hl _ _⟩)
  obtain ⟨g0, g1⟩ := HKG.out W3 hb13
  have HWS : Hid (W1 = w.alloc (.cells #[.slice na G.nodes.length nc, .slice la G.links.length lc] 25) ∧ W2 = W1.alloc (.cells #[.int .i64 0, .int .i64 0, .float .f64 0] 50) ∧ W3 = W2.alloc (.cells #[.int .i64 x, .int .i64 0, .float .f64 INF] 50) ∧ w.heap.size = gb ∧ w.heap.size + 1 = rc ∧ w.heap.size + 1 + 1 = hb) := Lib.hid ⟨hW1, hW2, hW3, hgb.symm, by omega, by omega⟩
  clear hin hz hl hd b1 s1 r1 b2 r2 b3 r3 hb13 n3 hs1 hs2 hs3 hW1 hW2 hW3 hgb hrc hhb
  go_enter Tryz.func61, Tryz.ntmps61
  go_upto_region 2 with (go_at_call 54; refine (inf1_any _).mono ?_; rintro e w' ⟨rfl, rfl⟩)
  rw [← HWS.out.1, ← HWS.out.2.1, ← HWS.out.2.2.1, HWS.out.2.2.2.2.2, HWS.out.2.2.2.2.1, HWS.out.2.2.2.1]
  clear HWS
  go_wp2_with fail
  clear g0 g1
  go_loopw [8] (fun i wr => ∃ k : Nat, i = .int .i64 (k : Int) ∧ k ≤ G.nodes.length ∧ HomeV wr hb x (homeK G (qn max) x k) ∧ wr.heap[rc]? = some (.cells #[.int .i64 0, .int .i64 0, .float .f64 0] 50 (0, 0)) ∧ Below W1.heap.size W1 wr) (fun i _ => G.nodes.length - (RowKit.intOf i).toNat)
  case atStart => exact ⟨0, rfl, Nat.zero_le _, HH3.out, HR3.out, HB3.out.2⟩
  case round =>
    obtain ⟨k, rfl, hk, hhv, hrc, hbx⟩ := hrel
    obtain ⟨wo, hwo⟩ : ∃ wo, wo = wr := ⟨_, rfl⟩
    subst hwo
    have HXW := Lib.hid hbx
    have HHV := Lib.hid hhv
    have HRV := Lib.hid hrc
    obtain ⟨g0, g1⟩ := HKG.out wo hbx
    by_cases hlt : k < G.nodes.length
    · have hlti : (k : Int) < (G.nodes.length : Int) := by omega
      have hk0 : (0 : Int) ≤ (k : Int) := by omega
      have hkw : IntKind.i64.wrap ((k : Int) + 1) = (k : Int) + 1 := by rw [IntKind.wrap_i64]; have := HNL.out; omega
      have HK1 : Hid (k + 1 ≤ G.nodes.length ∧ G.nodes.length - (k + 1) < G.nodes.length - k ∧ ((k : Int) + 1).toNat = k + 1 ∧ (k : Int) + 1 = ((k + 1 : Nat) : Int)) := Lib.hid ⟨by omega, by omega, by omega, by omega⟩
      obtain ⟨b, o, hna, hbb, hnc⟩ := (HIN.out wo hbx).nodes.at k hlt
      obtain ⟨n0, -, -⟩ := hnc k hlt
      rw [(HID.out k hlt).1] at n0
      have HMK := Lib.hid (fun V (hV : Below wo.heap.size wo V) => rbMark_any k G na nc la lc V (HIN.out V (gNx hbx hV)) HZ.out hlt)
      have HKS : Hid (homeK G (qn max) x (k + 1) = if (G.nodes[k].up && G.nodes[k].mark) = true ∧ ltO (g_ (dst G (qn max) (Nq.ahead G.nodes x)) k) (homeK G (qn max) x k).2 = true then ((idf G.nodes k : Int), g_ (dst G (qn max) (Nq.ahead G.nodes x)) k) else homeK G (qn max) x k) := Lib.hid (by
        rw [homeK_go G (qn max) x hlt]
        unfold homeS dI
        rw [(HID.out k hlt).1, (HID.out k hlt).2]
        cases G.nodes[k].up <;> cases G.nodes[k].mark <;> simp)
      have hdk := HDD.out
      have HSM := Lib.hid (HSMA.out k)
      obtain ⟨y, hy⟩ : ∃ y, y = (idf G.nodes k : Int) := ⟨_, rfl⟩
      rw [← hy] at n0 HMK HKS
      obtain ⟨D, hD⟩ : ∃ D, D = g_ (dst G (qn max) (Nq.ahead G.nodes x)) k := ⟨_, rfl⟩
      have HLT := Lib.hid (dw_lt HSM.out.1 HSM.out.2)
      rw [← hD] at HKS HLT
      obtain ⟨r, hr⟩ : ∃ r, r = homeK G (qn max) x k := ⟨_, rfl⟩
      rw [← hr] at HKS HLT HHV
      obtain ⟨rh, rr⟩ := r
      simp only at HKS HLT
      obtain ⟨bv, hbv⟩ : ∃ bv, bv = ltO D rr := ⟨_, rfl⟩
      rw [← hbv] at HLT HKS
      obtain ⟨d1, hd1⟩ : ∃ d1, d1 = dw D := ⟨_, rfl⟩
      obtain ⟨d2, hd2⟩ : ∃ d2, d2 = dw rr := ⟨_, rfl⟩
      have HD1 := Lib.hid hd1
      have HD2 := Lib.hid hd2
      rw [← hd1, ← hd2] at HLT
      have HDV : Hid (∀ V, Below w.heap.size w V → V.cell? ⟨dg, k, none⟩ = some (.float .f64 d1)) := Lib.hid (fun V hV => by rw [hd1, hD]; exact hdk V hV k hlt)
      have hlt2 := HLT.out
      obtain ⟨mk, hmk⟩ : ∃ mk, (G.nodes[k].up && G.nodes[k].mark) = mk := ⟨_, rfl⟩
      have HMV := Lib.hid hmk
      rw [hmk] at HKS
      have HNE : Hid (hb < wo.heap.size ∧ rc < wo.heap.size ∧ hb ≠ rc ∧ W1.heap.size ≤ hb ∧ W1.heap.size ≤ wo.heap.size) := Lib.hid ⟨(Array.getElem?_eq_some_iff.1 HHV.out).1, (Array.getElem?_eq_some_iff.1 HRV.out).1, HNE0.out.1, HNE0.out.2.2.2.2.2.1, hbx.size⟩
      have HSS : Hid (∀ V, Below wo.heap.size wo V → HoS V gb na la nc G.nodes.length lc G.links.length b o k dg hb y d1 d2) := Lib.hid (fun V hV => by
        obtain ⟨g0, g1⟩ := HKG.out V (gNx hbx hV)
        refine ⟨g0, g1, (hV.cell (p := ⟨b, o + k * 3, none⟩) hbb).trans n0, HDV.out V (gNx HB1.out (gNx hbx hV)), ?_⟩
        rw [hd2]
        exact (HomeV.cells (show HomeV V hb x (rh, rr) from (hV.block hb HNE.out.1).trans HHV.out)).2.2.1)
      subst hna
      clear hhv hrc hbx hnc n0 hdk hy hD hr hbv hd1 hd2 hbb hmk hk
      cases mk with
      | false =>
        go_upto_region 5 with (fail)
        clear g0 g1
        refine wp_region_held_drew (S := fun V => HoS V gb (some ⟨b, o, none⟩) la nc G.nodes.length lc G.links.length b o k dg hb y d1 d2) (by kernel_rfl) (HSS.out _ (Below.drew (Below.refl _ _))) (fun hH => ?_)
        have hs0 := HSS.out _ (Below.drew (Below.refl _ _))
        have B0' : Hid (Below wo.heap.size wo wo.drew) := Lib.hid (Below.drew (Below.refl _ _))
        generalize wo.drew = V0 at *
        refine tk 0 (by assumption) rfl (by kernel_rfl) (fun _ _ _ h => h) (fun V hV => by obtain ⟨hx0, hx1, hx2, hx3, hx4⟩ := hV; go_simp; try with_reducible rfl) ?_
        try simp only [Act.put, sqA, sqB, sqC, sqD, sqE, sqF]
        refine tk 1 (by assumption) rfl (by kernel_rfl) (fun _ _ _ h => h) (fun V hV => by go_simp; try with_reducible rfl) ?_
        try simp only [Act.put, sqA, sqB, sqC, sqD, sqE, sqF]
        refine tk 2 (by assumption) rfl (by kernel_rfl) (fun _ _ _ h => h) (fun V hV => by obtain ⟨hx0, hx1, hx2, hx3, hx4⟩ := hV; go_simp; try with_reducible rfl) ?_
        try simp only [Act.put, sqA, sqB, sqC, sqD, sqE, sqF]
        refine tk 3 (by assumption) rfl (by kernel_rfl) (fun _ _ _ h => h) (fun V hV => by go_simp; try with_reducible rfl) ?_
        try simp only [Act.put, sqA, sqB, sqC, sqD, sqE, sqF]
        refine tk 4 (by assumption) rfl (by kernel_rfl) (fun _ _ _ h => h) (fun V hV => by go_simp; try with_reducible rfl) ?_
        try simp only [Act.put, sqA, sqB, sqC, sqD, sqE, sqF]
        refine tk 5 (by assumption) rfl (by kernel_rfl) (fun _ _ _ h => h) (fun V hV => by go_simp; try with_reducible rfl) ?_
        try simp only [Act.put, sqA, sqB, sqC, sqD, sqE, sqF]
        refine tk 6 (by assumption) rfl (by kernel_rfl) (fun _ _ _ h => h) (fun V hV => by obtain ⟨hx0, hx1, hx2, hx3, hx4⟩ := hV; go_simp; try with_reducible rfl) ?_
        try simp only [Act.put, sqA, sqB, sqC, sqD, sqE, sqF]
        refine wpAnyH_ready (rs := [7]) (by kernel_rfl) (by simp) ?_
        refine AllReadyH.cons (o := _) rfl (fun K hK => ?_) AllReadyH.nil
        go_simp
        refine (HMK.out V0 B0'.out).mono ?_
        rintro e V1 ⟨rfl, hb1⟩
        have B1 : Hid (Below wo.heap.size wo V1) := Lib.hid (gNx B0'.out hb1)
        clear hb1
        rw [HMV.out]
        go_wp2_with fail
        refine hK.out _ _ (HSS.out _ B1.out) (fun hH => ?_)
        clear hK K
        try simp only [Act.put, sqA, sqB, sqC, sqD, sqE, sqF]
        refine tk 8 (by assumption) rfl (by kernel_rfl) (fun _ _ _ h => h) (fun V hV => by go_simp; try with_reducible rfl) ?_
        try simp only [Act.put, sqA, sqB, sqC, sqD, sqE, sqF]
        refine wpAnyH_take (i := 9) (oi := _) (v := undef) rfl (by kernel_rfl) (by kernel_rfl) (by kernel_rfl) (fun _ _ _ h => h) (Or.inr ⟨by kernel_rfl, rfl⟩) (by assumption) ?_
        try simp only [Act.put, sqA, sqB, sqC, sqD, sqE, sqF]
        refine wpAnyH_take (i := 10) (oi := _) (v := undef) rfl (by kernel_rfl) (by kernel_rfl) (by kernel_rfl) (fun _ _ _ h => h) (Or.inr ⟨by kernel_rfl, rfl⟩) (by assumption) ?_
        try simp only [Act.put, sqA, sqB, sqC, sqD, sqE, sqF]
        refine wpAnyH_take (i := 11) (oi := _) (v := undef) rfl (by kernel_rfl) (by kernel_rfl) (by kernel_rfl) (fun _ _ _ h => h) (Or.inr ⟨by kernel_rfl, rfl⟩) (by assumption) ?_
        try simp only [Act.put, sqA, sqB, sqC, sqD, sqE, sqF]
        refine wpAnyH_take (i := 12) (oi := _) (v := undef) rfl (by kernel_rfl) (by kernel_rfl) (by kernel_rfl) (fun _ _ _ h => h) (Or.inr ⟨by kernel_rfl, rfl⟩) (by assumption) ?_
        try simp only [Act.put, sqA, sqB, sqC, sqD, sqE, sqF]
        refine wpAnyH_take (i := 13) (oi := _) (v := undef) rfl (by kernel_rfl) (by kernel_rfl) (by kernel_rfl) (fun _ _ _ h => h) (Or.inr ⟨by kernel_rfl, rfl⟩) (by assumption) ?_
        try simp only [Act.put, sqA, sqB, sqC, sqD, sqE, sqF]
        refine wpAnyH_take (i := 14) (oi := _) (v := undef) rfl (by kernel_rfl) (by kernel_rfl) (by kernel_rfl) (fun _ _ _ h => h) (Or.inr ⟨by kernel_rfl, rfl⟩) (by assumption) ?_
        try simp only [Act.put, sqA, sqB, sqC, sqD, sqE, sqF]
        refine wpAnyH_take (i := 15) (oi := _) (v := undef) rfl (by kernel_rfl) (by kernel_rfl) (by kernel_rfl) (fun _ _ _ h => h) (Or.inr ⟨by kernel_rfl, rfl⟩) (by assumption) ?_
        try simp only [Act.put, sqA, sqB, sqC, sqD, sqE, sqF]
        refine tk 16 (by assumption) rfl (by kernel_rfl) (fun _ _ _ h => h) (fun V hV => by go_simp; try with_reducible rfl) ?_
        try simp only [Act.put, sqA, sqB, sqC, sqD, sqE, sqF]
        refine wpAnyH_done (by kernel_rfl) ?_ _
        have hwv : Below wo.heap.size wo V1 := B1.out
        have HHV9 : Hid (HomeV V1 hb x (rh, rr)) := Lib.hid ((hwv.block hb HNE.out.1).trans HHV.out)
        have HRV9 : Hid (V1.heap[rc]? = some (.cells #[.int .i64 0, .int .i64 0, .float .f64 0] 50 (0, 0))) := Lib.hid ((hwv.block rc HNE.out.2.1).trans HRV.out)
        have HX9 : Hid (Below W1.heap.size W1 V1) := Lib.hid (HXW.out.trans (hwv.mono HNE.out.2.2.2.2))
        clear hwv hs0
        go_wp2_with fail
        refine ⟨⟨k + 1, congrArg (Value.int .i64) HK1.out.2.2.2, HK1.out.1, by rw [HKS.out, if_neg (by simp)]; exact HHV9.out, HRV9.out, HX9.out⟩, ?_⟩
        show G.nodes.length - ((k : Int) + 1).toNat < G.nodes.length - (k : Int).toNat
        rw [HK1.out.2.2.1]
        exact HK1.out.2.1
      | true =>
        go_upto_region 5 with (fail)
        clear g0 g1
        refine wp_region_held_drew (S := fun V => HoS V gb (some ⟨b, o, none⟩) la nc G.nodes.length lc G.links.length b o k dg hb y d1 d2) (by kernel_rfl) (HSS.out _ (Below.drew (Below.refl _ _))) (fun hH => ?_)
        have hs0 := HSS.out _ (Below.drew (Below.refl _ _))
        have B0' : Hid (Below wo.heap.size wo wo.drew) := Lib.hid (Below.drew (Below.refl _ _))
        generalize wo.drew = V0 at *
        refine tk 0 (by assumption) rfl (by kernel_rfl) (fun _ _ _ h => h) (fun V hV => by obtain ⟨hx0, hx1, hx2, hx3, hx4⟩ := hV; go_simp; try with_reducible rfl) ?_
        try simp only [Act.put, sqA, sqB, sqC, sqD, sqE, sqF]
        refine tk 1 (by assumption) rfl (by kernel_rfl) (fun _ _ _ h => h) (fun V hV => by go_simp; try with_reducible rfl) ?_
        try simp only [Act.put, sqA, sqB, sqC, sqD, sqE, sqF]
        refine tk 2 (by assumption) rfl (by kernel_rfl) (fun _ _ _ h => h) (fun V hV => by obtain ⟨hx0, hx1, hx2, hx3, hx4⟩ := hV; go_simp; try with_reducible rfl) ?_
        try simp only [Act.put, sqA, sqB, sqC, sqD, sqE, sqF]
        refine tk 3 (by assumption) rfl (by kernel_rfl) (fun _ _ _ h => h) (fun V hV => by go_simp; try with_reducible rfl) ?_
        try simp only [Act.put, sqA, sqB, sqC, sqD, sqE, sqF]
        refine tk 4 (by assumption) rfl (by kernel_rfl) (fun _ _ _ h => h) (fun V hV => by go_simp; try with_reducible rfl) ?_
        try simp only [Act.put, sqA, sqB, sqC, sqD, sqE, sqF]
        refine tk 5 (by assumption) rfl (by kernel_rfl) (fun _ _ _ h => h) (fun V hV => by go_simp; try with_reducible rfl) ?_
        try simp only [Act.put, sqA, sqB, sqC, sqD, sqE, sqF]
        refine tk 6 (by assumption) rfl (by kernel_rfl) (fun _ _ _ h => h) (fun V hV => by obtain ⟨hx0, hx1, hx2, hx3, hx4⟩ := hV; go_simp; try with_reducible rfl) ?_
        try simp only [Act.put, sqA, sqB, sqC, sqD, sqE, sqF]
        refine wpAnyH_ready (rs := [7]) (by kernel_rfl) (by simp) ?_
        refine AllReadyH.cons (o := _) rfl (fun K hK => ?_) AllReadyH.nil
        go_simp
        refine (HMK.out V0 B0'.out).mono ?_
        rintro e V1 ⟨rfl, hb1⟩
        have B1 : Hid (Below wo.heap.size wo V1) := Lib.hid (gNx B0'.out hb1)
        clear hb1
        rw [HMV.out]
        go_wp2_with fail
        refine hK.out _ _ (HSS.out _ B1.out) (fun hH => ?_)
        clear hK K
        try simp only [Act.put, sqA, sqB, sqC, sqD, sqE, sqF]
        refine tk 8 (by assumption) rfl (by kernel_rfl) (fun _ _ _ h => h) (fun V hV => by go_simp; try with_reducible rfl) ?_
        try simp only [Act.put, sqA, sqB, sqC, sqD, sqE, sqF]
        refine tk 9 (by assumption) rfl (by kernel_rfl) (fun _ _ _ h => h) (fun V hV => by go_simp; try with_reducible rfl) ?_
        try simp only [Act.put, sqA, sqB, sqC, sqD, sqE, sqF]
        refine tk 10 (by assumption) rfl (by kernel_rfl) (fun _ _ _ h => h) (fun V hV => by go_simp; try with_reducible rfl) ?_
        try simp only [Act.put, sqA, sqB, sqC, sqD, sqE, sqF]
        refine tk 11 (by assumption) rfl (by kernel_rfl) (fun _ _ _ h => h) (fun V hV => by go_simp; try with_reducible rfl) ?_
        try simp only [Act.put, sqA, sqB, sqC, sqD, sqE, sqF]
        refine tk 12 (by assumption) rfl (by kernel_rfl) (fun _ _ _ h => h) (fun V hV => by obtain ⟨hx0, hx1, hx2, hx3, hx4⟩ := hV; go_simp; try with_reducible rfl) ?_
        try simp only [Act.put, sqA, sqB, sqC, sqD, sqE, sqF]
        refine tk 13 (by assumption) rfl (by kernel_rfl) (fun _ _ _ h => h) (fun V hV => by go_simp; try with_reducible rfl) ?_
        try simp only [Act.put, sqA, sqB, sqC, sqD, sqE, sqF]
        refine tk 14 (by assumption) rfl (by kernel_rfl) (fun _ _ _ h => h) (fun V hV => by obtain ⟨hx0, hx1, hx2, hx3, hx4⟩ := hV; go_simp; try with_reducible rfl) ?_
        try simp only [Act.put, sqA, sqB, sqC, sqD, sqE, sqF]
        refine tk 15 (by assumption) rfl (by kernel_rfl) (fun _ _ _ h => h) (fun V hV => by go_simp; try with_reducible rfl) ?_
        try simp only [Act.put, sqA, sqB, sqC, sqD, sqE, sqF]
        refine tk 16 (by assumption) rfl (by kernel_rfl) (fun _ _ _ h => h) (fun V hV => by go_simp; try with_reducible rfl) ?_
        try simp only [Act.put, sqA, sqB, sqC, sqD, sqE, sqF]
        refine wpAnyH_done (by kernel_rfl) ?_ _
        have hwv : Below wo.heap.size wo V1 := B1.out
        have HHV9 : Hid (HomeV V1 hb x (rh, rr)) := Lib.hid ((hwv.block hb HNE.out.1).trans HHV.out)
        have HRV9 : Hid (V1.heap[rc]? = some (.cells #[.int .i64 0, .int .i64 0, .float .f64 0] 50 (0, 0))) := Lib.hid ((hwv.block rc HNE.out.2.1).trans HRV.out)
        have HX9 : Hid (Below W1.heap.size W1 V1) := Lib.hid (HXW.out.trans (hwv.mono HNE.out.2.2.2.2))
        clear hwv hs0
        obtain ⟨t0, t1, t2, t3, t4⟩ := HSS.out V1 B1.out
        obtain ⟨z0, z1, z2, f0, f1, f2⟩ := HomeV.cells HHV9.out
        cases bv with
        | false =>
          go_wp2_with fail
          refine ⟨⟨k + 1, congrArg (Value.int .i64) HK1.out.2.2.2, HK1.out.1, by rw [HKS.out, if_neg (by simp)]; exact HHV9.out, HRV9.out, HX9.out⟩, ?_⟩
          show G.nodes.length - ((k : Int) + 1).toNat < G.nodes.length - (k : Int).toNat
          rw [HK1.out.2.2.1]
          exact HK1.out.2.1
        | true =>
          have hdgb : dg ≠ hb := by
            have h1 := World.block_lt_of_cell? w _ (HDV.out w (Below.refl _ _))
            have h2 := HNE0.out.2.1
            simp only at h1
            omega
          have hdgc : hb ≠ dg := fun e => hdgb e.symm
          go_wp2_with fail
          have hq1 := heap_setCell_same V1 hb 1 _ _ (.int .i64 y) HHV9.out
          have hq2 := heap_setCell_same _ hb 2 _ _ (.float .f64 d1) hq1
          refine ⟨⟨k + 1, congrArg (Value.int .i64) HK1.out.2.2.2, HK1.out.1, ?_, ?_, ?_⟩, ?_⟩
          · rw [HKS.out, if_pos (by simp)]
            unfold HomeV
            rw [hq2, HD1.out]; rfl
          · rw [Below.heap_setCell _ _ _ _ (fun e => HNE.out.2.2.1 e.symm), Below.heap_setCell _ _ _ _ (fun e => HNE.out.2.2.1 e.symm)]
            exact HRV9.out
          · exact (HX9.out.setCell HNE.out.2.2.2.1 _).setCell HNE.out.2.2.2.1 _
          · show G.nodes.length - ((k : Int) + 1).toNat < G.nodes.length - (k : Int).toNat
            rw [HK1.out.2.2.1]
            exact HK1.out.2.1
    · have hnk : ¬ (k : Int) < (G.nodes.length : Int) := by omega
      have hall := homeK_all G (qn max) x (k := k) (by omega)
      rw [hall] at hhv
      have HHV := Lib.hid hhv
      obtain ⟨r, hr⟩ : ∃ r, r = homeI G (qn max) x := ⟨_, rfl⟩
      have HRE := Lib.hid hr
      obtain ⟨z0, z1, z2, f0, f1, f2⟩ := HomeV.cells hhv
      rw [← hr] at z1 z2 HHV
      have q0 := frozen_of_row wo rc 0 _ _ hrc
      have q1 := frozen_of_row wo rc 1 _ _ hrc
      have q2 := frozen_of_row wo rc 2 _ _ hrc
      have t0 : wo.cell? ⟨rc, 0, none⟩ = some (.int .i64 0) := by rw [cell_of_row wo _ 0 _ _ (0, 0) hrc]; rfl
      have t1 : wo.cell? ⟨rc, 1, none⟩ = some (.int .i64 0) := by rw [cell_of_row wo _ 1 _ _ (0, 0) hrc]; rfl
      have t2 : wo.cell? ⟨rc, 2, none⟩ = some (.float .f64 0) := by rw [cell_of_row wo _ 2 _ _ (0, 0) hrc]; rfl
      obtain ⟨rh, rr⟩ := r
      simp only at z1 z2
      obtain ⟨dr, hdr⟩ : ∃ dr, dr = dw rr := ⟨_, rfl⟩
      have HDR := Lib.hid hdr
      rw [← hdr] at z2
      have HNX : Hid (w.heap.size ≤ rc) := Lib.hid HNE0.out.2.2.1
      clear hlt hhv hrc hbx hall hr hdr hk
      go_wp2_with fail
      have hq1 := heap_setCell_same wo rc 0 _ _ (.int .i64 x) HRV.out
      have hq2 := heap_setCell_same _ rc 1 _ _ (.int .i64 rh) hq1
      have hq3 := heap_setCell_same _ rc 2 _ _ (.float .f64 dr) hq2
      refine bodyPost_ret (results_cell Tryz.results61 _ _ rc 0 [.int .i64 x, .int .i64 rh, .float .f64 dr] _ rfl ?_ Tryz.underlying50 (by rfl) (by kernel_rfl)) rfl ?_
      · intro j v hj
        match j with
        | 0 => simp at hj; subst hj; rw [cell_of_row _ _ _ _ _ (0, 0) hq3]; rfl
        | 1 => simp at hj; subst hj; rw [cell_of_row _ _ _ _ _ (0, 0) hq3]; rfl
        | 2 => simp at hj; subst hj; rw [cell_of_row _ _ _ _ _ (0, 0) hq3]; rfl
        | j + 3 => simp at hj
      · refine ⟨?_, (((gNx HB1.out HXW.out).setCell HNX.out _).setCell HNX.out _).setCell HNX.out _⟩
        rw [← HRE.out, HDR.out]
end Go.Proofs.YtjlfpjjfldbknaaGreat
