/- Balls: the law that graphs stay and what is told is new memory. -/
import Derived.Test.YtjlfpjjfldbknaaGreatBeE
namespace Go.Proofs.YtjlfpjjfldbknaaGreat
open Go.RowKit Go.Lib Go.Fq Go.Pq Go.Iq Go.Nq Go.Ow Go.Bq
set_option linter.unusedVariables false
set_option linter.unusedSimpArgs false
set_option maxRecDepth 100000

/-- A cell of a row of one's own. -/
theorem own_spot {w : World} {base k n : Nat} {e : TypeId} {v : Value} {xs : List Value} (h : Own w base e k v n xs) {j : Nat} (hn : 0 < n) (hj : j < n * k) : ∃ g cap u, v = .slice (some ⟨g, 0, none⟩) n cap ∧ base ≤ g ∧ w.cell? ⟨g, j, none⟩ = some u ∧ w.frozen? ⟨g, j, none⟩ = false := by
  obtain ⟨g, cap, rfl, h1, h2, h3, h4⟩ := h.range hn
  obtain ⟨t1, t2⟩ := h4 j hj
  rw [Nat.zero_add] at t1 t2
  obtain ⟨u, hu⟩ := Option.isSome_iff_exists.1 t1
  exact ⟨g, cap, u, rfl, h2, hu, t2⟩
theorem homes_is {w w' : World} {G : Gr} {max : Nat} {e : Ending} (h : HomesEnds w G max e w') : Below w.heap.size w w' ∧ ∃ a c n xs, n ≤ 256 ∧ e = .returned (.tuple #[.slice a n c, .int .i64 (ballE G max)]) ∧ Own w' w.heap.size 50 3 (.slice a n c) n xs := by
  refine ⟨h.1, ?_⟩
  rcases h.2 with ⟨hne, rfl⟩ | ⟨hE, v, rfl, h1⟩
  · exact ⟨none, 0, 0, [], by omega, rfl, Or.inl ⟨rfl, rfl, none, rfl⟩⟩
  · obtain ⟨a, c, rfl⟩ := h1.slice
    exact ⟨a, c, _, _, (check_zero.1 (live_keeps (ballE_zero.1 hE).1).1).1, by rw [hE], h1⟩
set_option maxHeartbeats 32000000 in
theorem law_bown (G : Gr) (na : Option Addr) (nc : Nat) (la : Option Addr) (lc : Nat) (max : Nat) (id : Int) (w : World) (hin : GrIn w G na la) (hm : max < 2 ^ 64) (_ : (Lit.int .i64 id).wf = true) :
    Calls Tryz.prog 6 #[.agg #[.slice na G.nodes.length nc, .slice la G.links.length lc], .float .f64 max, .int .i64 id] w fun e w' => e = .returned (.bool true) ∧ Below w.heap.size w w' := by
  obtain ⟨W1, hW1⟩ : ∃ W1, W1 = w.alloc (.cells #[.slice na G.nodes.length nc, .slice la G.links.length lc] 25) := ⟨_, rfl⟩
  have b1 : Below w.heap.size w W1 := by rw [hW1]; exact gAl _ _
  have s1 : w.heap.size < W1.heap.size := by rw [hW1]; simp
  have r1 : W1.heap[w.heap.size]? = some (.cells #[.slice na G.nodes.length nc, .slice la G.links.length lc] 25 (0, 0)) := by rw [hW1]; exact heap_alloc_new w _
  obtain ⟨gb, hgb⟩ : ∃ gb, gb = w.heap.size := ⟨_, rfl⟩
  rw [← hgb] at r1 s1
  have HKG : Hid (∀ V, Below W1.heap.size W1 V → V.cell? ⟨gb, 0, none⟩ = some (.slice na G.nodes.length nc) ∧ V.cell? ⟨gb, 1, none⟩ = some (.slice la G.links.length lc)) := Lib.hid (fun V hV => by
    have := two_cells ((hV.block _ s1).trans r1)
    exact ⟨this.1, this.2.1⟩)
  have HB1 := Lib.hid b1
  have HIN : Hid (∀ V, Below W1.heap.size W1 V → GrIn V G na la) := Lib.hid (fun V hV => (hin.below b1).below hV)
  have HMX := Lib.hid hm
  have HAW := Lib.hid bAwake_any
  have HCP := Lib.hid (rCopy_any G na la nc lc W1 (hin.below b1).nodes (hin.below b1).links hin.wts (by have := hin.n1; omega) (by have := hin.l1; omega))
  have HSZ : Hid (G.nodes.length * 16 ≤ 140737488351232 ∧ G.links.length * 32 ≤ 140737488351232) := Lib.hid ⟨hin.n1, hin.l1⟩
  have HWT : Hid (Wts G) := Lib.hid hin.wts
  obtain ⟨g0, g1⟩ := HKG.out W1 (Below.refl _ _)
  have HWS : Hid (W1 = w.alloc (.cells #[.slice na G.nodes.length nc, .slice la G.links.length lc] 25) ∧ w.heap.size = gb) := Lib.hid ⟨hW1, hgb.symm⟩
  clear hin b1 s1 r1 hm hW1 hgb
  go_enter Tryz.func6, Tryz.ntmps6
  go_upto_region 1 with (fail)
  rw [← HWS.out.1, HWS.out.2]
  go_wp2_with fail
  refine HCP.out.mono ?_
  rintro e w2 ⟨vn, vl, rfl, hgv, hb2⟩
  obtain ⟨ni, ci, li, di, rfl, rfl, hini⟩ := GrV.gin hgv HSZ.out.1 HSZ.out.2
  obtain ⟨W3, hW3⟩ : ∃ W, W = w2.alloc (.cells #[.slice ni G.nodes.length ci, .slice li G.links.length di] 25) := ⟨_, rfl⟩
  obtain ⟨bi, hbi⟩ : ∃ b, b = w2.heap.size := ⟨_, rfl⟩
  have b4 : Below w2.heap.size w2 W3 := by rw [hW3]; exact gAl _ _
  have s4 : bi < W3.heap.size := by rw [hW3, hbi]; simp
  have r4 : W3.heap[bi]? = some (.cells #[.slice ni G.nodes.length ci, .slice li G.links.length di] 25 (0, 0)) := by rw [hW3, hbi]; exact heap_alloc_new w2 _
  have hw13 : Below W1.heap.size W1 W3 := gNx hb2 b4
  have HAT : Hid (∀ V, Below W3.heap.size W3 V → (V.cell? ⟨bi, 0, none⟩ = some (.slice ni G.nodes.length ci) ∧ V.cell? ⟨bi, 1, none⟩ = some (.slice li G.links.length di)) ∧ GrIn V G ni li ∧ (V.cell? ⟨gb, 0, none⟩ = some (.slice na G.nodes.length nc) ∧ V.cell? ⟨gb, 1, none⟩ = some (.slice la G.links.length lc)) ∧ GrIn V G na la) := Lib.hid (fun V hV => by
    have hh := two_cells ((hV.block bi s4).trans r4)
    have h2 := gNx hw13 hV
    exact ⟨⟨hh.1, hh.2.1⟩, hini.below (gNx b4 hV), HKG.out V h2, HIN.out V h2⟩)
  have HB3 := Lib.hid (gNx HB1.out hw13)
  go_upto_region 2 with (fail)
  rw [← hW3, ← hbi]
  clear hW3 hbi b4 s4 r4 hw13 hgv hb2 hini g0 g1 HKG HIN HCP
  go_wp2_with fail
  go_loopw [8] (fun v wo => ∃ q : Nat, v = .int .i64 (q : Int) ∧ q ≤ 2 ∧ Below W3.heap.size W3 wo) (fun v _ => 2 - (RowKit.intOf v).toNat)
  case atStart => exact ⟨0, rfl, by omega, Below.refl _ _⟩
  case round =>
    rename World => wo
    obtain ⟨q, rfl, hq, hbel⟩ := hrel
    have HBO := Lib.hid hbel
    obtain ⟨⟨i0, i1⟩, hgi, ⟨g0, g1⟩, hgg⟩ := HAT.out wo hbel
    clear hbel
    by_cases hlt : q < 2
    · have hlti : (q : Int) < 2 := by omega
      have hqw : IntKind.i64.wrap ((q : Int) + 1) = (q : Int) + 1 := by rw [IntKind.wrap_i64]; omega
      have HQ : Hid (q + 1 ≤ 2 ∧ 2 - (q + 1) < 2 - q ∧ ((q : Int) + 1).toNat = q + 1 ∧ (q : Int) + 1 = ((q + 1 : Nat) : Int)) := Lib.hid ⟨by omega, by omega, by omega, by omega⟩
      have HC := Lib.hid (pTable_any G ni ci li di max id wo hgi HMX.out)
      clear hgi hgg hlt hq
      go_wp2_with fail
      refine HC.out.mono ?_
      rintro e w3 hte
      obtain ⟨hb3, v1, rfl, ho1⟩ := TabEnds.is HWT.out hte
      have HB4 := Lib.hid (gNx HBO.out hb3)
      have HO0 := Lib.hid ho1
      obtain ⟨a1, c1, rfl⟩ := ho1.slice
      clear hb3 hte ho1 i0 i1 g0 g1 HC
      obtain ⟨-, -, ⟨g0, g1⟩, hgg⟩ := HAT.out w3 HB4.out
      have HR := Lib.hid (rbTab_any max id G na nc la lc w3 hgg HMX.out)
      clear hgg
      go_wp2_with fail
      refine HR.out.mono ?_
      rintro e w4 ⟨hb4, v2, rfl, ho2⟩
      obtain ⟨a2, c2, rfl⟩ := ho2.slice
      have HS := Lib.hid (sameEnts_own (tabL G max id) _ _ _ _ w4 (HO0.out.below hb4) ho2 (tabL_len G max id))
      have HO4 := Lib.hid (HO0.out.below hb4)
      have HB5' := Lib.hid (gNx HB4.out hb4)
      have HNT0 : Hid ((tabL G max id).length ≤ 768) := Lib.hid (tabL_len G max id)
      clear hb4 g0 g1 ho2 HO0 HR
      obtain ⟨nt, hnt⟩ : ∃ nt, nt = (tabL G max id).length := ⟨_, rfl⟩
      have HNT := HNT0
      rw [← hnt] at HO4 HNT HS ⊢
      obtain ⟨b4, hb4⟩ : ∃ b4, b4 = wo.heap.size := ⟨_, rfl⟩
      have HQ4 : Hid (W3.heap.size ≤ b4) := Lib.hid (by rw [hb4]; exact HBO.out.size)
      rw [← hb4] at HO4
      clear hnt hb4 HNT0
      generalize tabE G max id = E at *
      have hee : (E != E) = false := by simp
      go_wp2_with fail
      refine HS.out.mono ?_
      rintro e w5 ⟨rfl, hb5⟩
      have HB5 := Lib.hid (gNx HB5'.out hb5)
      have HO1 := Lib.hid (HO4.out.below hb5)
      clear hb5 HO4 HS
      go_wp2_with fail
      go_loopw [13] (fun v wr => ∃ (k : Nat) (xs : List Value), v = .int .i64 (k : Int) ∧ k ≤ nt ∧ Own wr b4 43 6 (.slice a1 nt c1) nt xs ∧ Below W3.heap.size W3 wr) (fun v _ => nt - (RowKit.intOf v).toNat)
      case atStart => exact ⟨0, _, rfl, Nat.zero_le _, HO1.out, HB5.out⟩
      case round =>
        obtain ⟨k, xs, rfl, hk, ho, hbel⟩ := hrel
        obtain ⟨wq, hwq⟩ : ∃ wq, wq = wr := ⟨_, rfl⟩
        subst hwq
        have HOQ := Lib.hid ho
        have HBQ := Lib.hid hbel
        by_cases hlt : k < nt
        · have hlti : (k : Int) < (nt : Int) := by omega
          have hk0 : (0 : Int) ≤ (k : Int) := by omega
          have hkw : IntKind.i64.wrap ((k : Int) + 1) = (k : Int) + 1 := by rw [IntKind.wrap_i64]; have := HNT.out; omega
          have HK1 : Hid (k + 1 ≤ nt ∧ nt - (k + 1) < nt - k ∧ ((k : Int) + 1).toNat = k + 1 ∧ (k : Int) + 1 = ((k + 1 : Nat) : Int)) := Lib.hid ⟨by omega, by omega, by omega, by omega⟩
          obtain ⟨g, cap, u, e1, hg, f0, f1⟩ := own_spot ho (j := k * 6) (by omega) (by omega)
          simp only [Value.slice.injEq, true_and] at e1
          obtain ⟨rfl, rfl⟩ := e1
          have HST := Lib.hid (own_set ho (j := k * 6) (by omega) (.int .i64 (-7))).1
          have HBS := Lib.hid (hbel.setCell (p := ⟨g, k * 6, none⟩) (Nat.le_trans HQ4.out hg) (.int .i64 (-7)))
          clear ho hbel hlt hk hg
          go_wp2_with fail
          refine ⟨⟨k + 1, _, congrArg (Value.int .i64) HK1.out.2.2.2, HK1.out.1, HST.out, HBS.out⟩, ?_⟩
          show nt - ((k : Int) + 1).toNat < nt - (k : Int).toNat
          rw [HK1.out.2.2.1]
          exact HK1.out.2.1
        · have hnk : ¬ (k : Int) < (nt : Int) := by omega
          clear hlt ho hbel hk
          obtain ⟨⟨i0, i1⟩, hgi, -⟩ := HAT.out wq HBQ.out
          have HC7 := Lib.hid (pHomes_any G ni ci li di max wq hgi HMX.out)
          clear hgi
          go_wp2_with fail
          refine HC7.out.mono ?_
          rintro e w7 hse
          obtain ⟨hb7, a7, c7, nh, xh, hnh, rfl, ho7⟩ := homes_is hse
          have HB7 := Lib.hid (gNx HBQ.out hb7)
          have HO7 := Lib.hid ho7
          have HNH := Lib.hid hnh
          have HQ7 : Hid (W3.heap.size ≤ wq.heap.size) := Lib.hid HBQ.out.size
          clear hb7 ho7 hse HC7 i0 i1 HBQ HOQ hnh
          obtain ⟨b7, hb7⟩ : ∃ b7, b7 = wq.heap.size := ⟨_, rfl⟩
          rw [← hb7] at HO7 HQ7
          clear hb7
          generalize ballE G max = E7
          go_wp2_with fail
          go_loopw [16] (fun v wr => ∃ (k : Nat) (xs : List Value), v = .int .i64 (k : Int) ∧ k ≤ nh ∧ Own wr b7 50 3 (.slice a7 nh c7) nh xs ∧ Below W3.heap.size W3 wr) (fun v _ => nh - (RowKit.intOf v).toNat)
          case atStart => exact ⟨0, _, rfl, Nat.zero_le _, HO7.out, HB7.out⟩
          case round =>
            obtain ⟨k, xs, rfl, hk, ho, hbel⟩ := hrel
            obtain ⟨wq, hwq⟩ : ∃ wq, wq = wr := ⟨_, rfl⟩
            subst hwq
            have HOQ := Lib.hid ho
            have HBQ := Lib.hid hbel
            by_cases hlt : k < nh
            · have hlti : (k : Int) < (nh : Int) := by omega
              have hk0 : (0 : Int) ≤ (k : Int) := by omega
              have hkw : IntKind.i64.wrap ((k : Int) + 1) = (k : Int) + 1 := by rw [IntKind.wrap_i64]; have := HNH.out; omega
              have HK1 : Hid (k + 1 ≤ nh ∧ nh - (k + 1) < nh - k ∧ ((k : Int) + 1).toNat = k + 1 ∧ (k : Int) + 1 = ((k + 1 : Nat) : Int)) := Lib.hid ⟨by omega, by omega, by omega, by omega⟩
              obtain ⟨g, cap, u, e1, hg, f0, f1⟩ := own_spot ho (j := k * 3 + 1) (by omega) (by omega)
              simp only [Value.slice.injEq, true_and] at e1
              obtain ⟨rfl, rfl⟩ := e1
              have HST := Lib.hid (own_set ho (j := k * 3 + 1) (by omega) (.int .i64 (-7))).1
              have HBS := Lib.hid (hbel.setCell (p := ⟨g, k * 3 + 1, none⟩) (Nat.le_trans HQ7.out hg) (.int .i64 (-7)))
              clear ho hbel hlt hk hg
              go_wp2_with fail
              refine ⟨⟨k + 1, _, congrArg (Value.int .i64) HK1.out.2.2.2, HK1.out.1, HST.out, HBS.out⟩, ?_⟩
              show nh - ((k : Int) + 1).toNat < nh - (k : Int).toNat
              rw [HK1.out.2.2.1]
              exact HK1.out.2.1
            · have hnk : ¬ (k : Int) < (nh : Int) := by omega
              clear hlt ho hbel hk
              obtain ⟨⟨i0, i1⟩, hgi, -⟩ := HAT.out wq HBQ.out
              have HC9 := Lib.hid (pSizes_any G ni ci li di max wq hgi HMX.out)
              clear hgi
              go_wp2_with fail
              refine HC9.out.mono ?_
              rintro e w9 hse
              obtain ⟨hb9, a9, c9, rfl, ho9⟩ := hse.is
              have HB9 := Lib.hid (gNx HBQ.out hb9)
              have HO9 := Lib.hid ho9
              have HQ9 : Hid (W3.heap.size ≤ wq.heap.size) := Lib.hid HBQ.out.size
              clear hb9 ho9 hse HC9 i0 i1 HBQ HOQ
              obtain ⟨nz, hnz⟩ : ∃ nz, nz = nB G max := ⟨_, rfl⟩
              have HNZ : Hid (nz ≤ 256) := Lib.hid (by rw [hnz]; exact nB_le)
              rw [← hnz] at HO9 ⊢
              obtain ⟨b9, hb9⟩ : ∃ b9, b9 = wq.heap.size := ⟨_, rfl⟩
              rw [← hb9] at HO9 HQ9
              clear hnz hb9
              generalize ballE G max = E9
              go_wp2_with fail
              go_loopw [19] (fun v wr => ∃ (k : Nat) (xs : List Value), v = .int .i64 (k : Int) ∧ k ≤ nz ∧ Own wr b9 3 1 (.slice a9 nz c9) nz xs ∧ Below W3.heap.size W3 wr) (fun v _ => nz - (RowKit.intOf v).toNat)
              case atStart => exact ⟨0, _, rfl, Nat.zero_le _, HO9.out, HB9.out⟩
              case round =>
                obtain ⟨k, xs, rfl, hk, ho, hbel⟩ := hrel
                obtain ⟨wq, hwq⟩ : ∃ wq, wq = wr := ⟨_, rfl⟩
                subst hwq
                have HOQ := Lib.hid ho
                have HBQ := Lib.hid hbel
                by_cases hlt : k < nz
                · have hlti : (k : Int) < (nz : Int) := by omega
                  have hk0 : (0 : Int) ≤ (k : Int) := by omega
                  have hkw : IntKind.i64.wrap ((k : Int) + 1) = (k : Int) + 1 := by rw [IntKind.wrap_i64]; have := HNZ.out; omega
                  have HK1 : Hid (k + 1 ≤ nz ∧ nz - (k + 1) < nz - k ∧ ((k : Int) + 1).toNat = k + 1 ∧ (k : Int) + 1 = ((k + 1 : Nat) : Int)) := Lib.hid ⟨by omega, by omega, by omega, by omega⟩
                  obtain ⟨g, cap, u, e1, hg, f0, f1⟩ := own_spot ho (j := k) (by omega) (by omega)
                  simp only [Value.slice.injEq, true_and] at e1
                  obtain ⟨rfl, rfl⟩ := e1
                  have HST := Lib.hid (own_set ho (j := k) (by omega) (.int .i64 (-7))).1
                  have HBS := Lib.hid (hbel.setCell (p := ⟨g, k, none⟩) (Nat.le_trans HQ9.out hg) (.int .i64 (-7)))
                  clear ho hbel hlt hk hg
                  go_wp2_with fail
                  refine ⟨⟨k + 1, _, congrArg (Value.int .i64) HK1.out.2.2.2, HK1.out.1, HST.out, HBS.out⟩, ?_⟩
                  show nz - ((k : Int) + 1).toNat < nz - (k : Int).toNat
                  rw [HK1.out.2.2.1]
                  exact HK1.out.2.1
                · have hnk : ¬ (k : Int) < (nz : Int) := by omega
                  clear hlt ho hbel hk
                  go_wp2_with fail
                  refine ⟨⟨q + 1, congrArg (Value.int .i64) HQ.out.2.2.2, HQ.out.1, HBQ.out⟩, ?_⟩
                  show 2 - ((q : Int) + 1).toNat < 2 - (q : Int).toNat
                  rw [HQ.out.2.2.1]
                  exact HQ.out.2.1
    · have hni : ¬ (q : Int) < 2 := by omega
      have HS := Lib.hid (rSame_gin G ni na li la ci nc di lc wo hgi hgg)
      clear hlt hgi hgg hq
      go_wp2_with fail
      refine HS.out.mono ?_
      rintro e w5 ⟨rfl, hb5⟩
      have HB5 := Lib.hid (gNx HBO.out hb5)
      clear hb5 i0 i1 g0 g1
      go_wp2_with fail
      refine (HAW.out w5).mono ?_
      rintro e w6 ⟨rfl, hb6⟩
      have HB6 := Lib.hid (gNx HB3.out (gNx HB5.out hb6))
      clear hb6
      go_wp2_with fail
      go_ret
      exact ⟨rfl, HB6.out⟩
end Go.Proofs.YtjlfpjjfldbknaaGreat
