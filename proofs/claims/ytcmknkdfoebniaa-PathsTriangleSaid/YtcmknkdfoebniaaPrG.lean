/- Paths: the law of limits. -/
import Derived.Test.YtcmknkdfoebniaaPrE
namespace Go.Proofs.Ytcmknkdfoebniaa
open Go.RowKit Go.Lib Go.Fq Go.Pq Go.Iq Go.Nq Go.Ow
set_option linter.unusedVariables false
set_option linter.unusedSimpArgs false
set_option maxRecDepth 100000

theorem lim_facts {G : Gr} {s lim0 lim1 : Nat} {l l1 : List (Option Nat)} (hA : DistsP G s lim0 l) (hB : DistsP G s lim1 l1) (hle : lim0 ≤ lim1) (k : Nat) : (∀ q, g_ l k = some q → g_ l1 k = some q) ∧ (∀ m, g_ l k = none → g_ l1 k = some m → lim0 ≤ m) := by
  obtain ⟨-, h1⟩ := hA
  obtain ⟨-, h2⟩ := hB
  by_cases hu : upAt G.nodes s = true
  · rw [if_pos hu] at h1 h2
    exact ⟨fun q h => Least.wider h1 h2 hle h, fun m ha hb => (h1 k).2 ha m ((h2 k).1 m hb).1⟩
  · rw [if_neg hu] at h1 h2
    exact ⟨fun q h => absurd ((h1 k).symm.trans h) (by simp), fun m _ hb => absurd ((h2 k).symm.trans hb) (by simp)⟩
theorem isinf_dw (a : Option Nat) (h : Sm a) (b : Bool) (hb : a.isNone = b) (w : World) : Calls Try.prog 28 #[.float .f64 (dw a), .int .i64 1] w fun e w' => e = .returned (.bool b) ∧ w' = w := by
  rw [← hb, ← dw_inf h]; exact (isinf1 (dw a) w (dw_ng h)).mono (fun _ _ h => ⟨h.1, h.2.symm⟩)
theorem qAdd {P : Program} {f : FuncId} {args : Array Value} {w : World} {a n : Nat} {v : Value} (h : Calls P f args (w.drewN (a + n)) fun e w' => e = .returned v ∧ w' = w.drewN (a + n)) :
    Calls P f args (w.drewN (a + n)) fun e w' => e = .returned v ∧ ∃ m, w' = w.drewN (a + m) := h.mono (fun _ _ h => ⟨h.1, _, h.2⟩)
theorem row_cells {w : World} {base n : Nat} {v : Value} {l : List (Option Nat)} (ho : Own w base 26 1 v n (dRow l)) (hl : l.length = n) (hn : 0 < n) : ∃ dg dc, v = .slice (some ⟨dg, 0, none⟩) n dc ∧ ∀ V, Below w.heap.size w V → ∀ i, i < n → V.cell? ⟨dg, i, none⟩ = some (.float .f64 (dw (g_ l i))) := by
  obtain ⟨dg, dc, rfl, -⟩ := own1_cell ho hn
  refine ⟨dg, dc, rfl, fun V hV i hi => ?_⟩
  obtain ⟨g', c', e1, e2⟩ := own1_cell (ho.below hV) hn
  simp only [Value.slice.injEq, Option.some.injEq, Addr.mk.injEq, and_true, true_and] at e1
  obtain ⟨rfl, rfl⟩ := e1
  exact e2 i hi _ (dRow_at (by rw [hl]; exact hi))
set_option maxHeartbeats 16000000 in
theorem law_plimits (G : Gr) (na : Option Addr) (nc : Nat) (la : Option Addr) (lc : Nat) (max rad : Nat) (fr : Int) (w : World) (hin : GrIn w G na la) (hm : max < 2 ^ 64) (hrd : rad < 2 ^ 64) (_ : (Lit.int .i64 fr).wf = true) :
    Calls Try.prog 10 #[.agg #[.slice na G.nodes.length nc, .slice la G.links.length lc], .agg #[.float .f64 max, .float .f64 rad], .int .i64 fr] w fun e w' => e = .returned (.bool true) ∧ Below w.heap.size w w' := by
  obtain ⟨W0, hW0⟩ : ∃ W0, W0 = w.alloc (.cells #[.slice na G.nodes.length nc, .slice la G.links.length lc] 25) := ⟨_, rfl⟩
  have b0 : Below w.heap.size w W0 := by rw [hW0]; exact gAl _ _
  have s0 : w.heap.size < W0.heap.size := by rw [hW0]; simp
  have r0 : W0.heap[w.heap.size]? = some (.cells #[.slice na G.nodes.length nc, .slice la G.links.length lc] 25 (0, 0)) := by rw [hW0]; exact heap_alloc_new w _
  obtain ⟨W1, hW1⟩ : ∃ W1, W1 = W0.alloc (.cells #[.float .f64 max, .float .f64 rad] 44) := ⟨_, rfl⟩
  have b01 : Below W0.heap.size W0 W1 := by rw [hW1]; exact gAl _ _
  have s1 : W0.heap.size < W1.heap.size := by rw [hW1]; simp
  have b1 : Below w.heap.size w W1 := gNx b0 b01
  have r1 : W1.heap[W0.heap.size]? = some (.cells #[.float .f64 max, .float .f64 rad] 44 (0, 0)) := by rw [hW1]; exact heap_alloc_new W0 _
  have HKG : Hid (∀ V, Below W1.heap.size W1 V → V.cell? ⟨w.heap.size, 0, none⟩ = some (.slice na G.nodes.length nc) ∧ V.cell? ⟨w.heap.size, 1, none⟩ = some (.slice la G.links.length lc) ∧ V.cell? ⟨w.heap.size + 1, 0, none⟩ = some (.float .f64 max) ∧ V.cell? ⟨w.heap.size + 1, 1, none⟩ = some (.float .f64 rad)) := Lib.hid (fun V hV => by
    have h1 := two_cells ((hV.block _ (Nat.lt_trans s0 s1)).trans ((b01.block _ s0).trans r0))
    have h2 := two_cells ((hV.block _ s1).trans r1)
    have hs : W0.heap.size = w.heap.size + 1 := by rw [hW0]; simp
    rw [← hs]
    exact ⟨h1.1, h1.2.1, h2.1, h2.2.1⟩)
  have HB1 := Lib.hid b1
  have HIN : Hid (∀ V, Below W1.heap.size W1 V → GrIn V G na la) := Lib.hid (fun V hV => (hin.below b1).below hV)
  have HP := Lib.hid (pDists_any G na nc la lc max fr W1 (hin.below b1) hm)
  have HR := Lib.hid (fun V (hV : Below W1.heap.size W1 V) => pDists_any G na nc la lc rad fr V ((hin.below b1).below hV) hrd)
  have HCK := Lib.hid (fun V (hV : Below W1.heap.size W1 V) => rCheck_any G na la nc lc V (HIN.out V hV).nodes (HIN.out V hV).links (HIN.out V hV).wts (by have := (HIN.out V hV).n1; omega) (by have := (HIN.out V hV).l1; omega))
  have HAW := Lib.hid pAwake_any
  obtain ⟨E, hEE⟩ : ∃ E, E = askE G max [fr] := ⟨_, rfl⟩
  obtain ⟨E1, hEE1⟩ : ∃ E1, E1 = askE G rad [fr] := ⟨_, rfl⟩
  have HNZ : Hid (E = 0 → 0 < G.nodes.length ∧ G.nodes.length ≤ 256) := Lib.hid (ask_nz hEE)
  have HCZ : Hid (E = 0 → checkG G = 0) := Lib.hid (fun h => (askE_zero (hEE.symm.trans h)).2.1)
  have HLI : Hid (E = 0 → ∃ q, max = qw q ∧ qn max = q ∧ q ≤ 4294967296) := Lib.hid (fun h => by
    obtain ⟨lim, l1, l2, l3⟩ := limit_q max hm (askE_zero (hEE.symm.trans h)).1
    exact ⟨lim, l3, by rw [l3]; exact qn_qw (by omega), l2⟩)
  have HLI1 : Hid (E1 = 0 → ∃ q, rad = qw q ∧ qn rad = q ∧ q ≤ 4294967296) := Lib.hid (fun h => by
    obtain ⟨lim, l1, l2, l3⟩ := limit_q rad hrd (askE_zero (hEE1.symm.trans h)).1
    exact ⟨lim, l3, by rw [l3]; exact qn_qw (by omega), l2⟩)
  rw [← hEE] at HP
  rw [← hEE1] at HR
  obtain ⟨g0, g1, g2, g3⟩ := HKG.out W1 (Below.refl _ _)
  generalize Nq.ahead G.nodes fr = s at *
  clear hin hm hrd b1 s1 r1 b0 s0 r0 b01 hEE hEE1
  go_enter Try.func10, Try.ntmps10
  go_upto_region 1 with (fail)
  rw [← hW0, ← hW1]
  clear hW0 hW1
  go_wp2_with fail
  refine HP.out.mono ?_
  rintro e w2 (⟨hne, rfl, hb2⟩ | ⟨hE, l, v, rfl, ho, hdp, hb2⟩)
  · have HB2 := Lib.hid hb2
    have hz : (E != 0) = true := by simpa using hne
    clear hb2 hne g0 g1 g2 g3 HP
    obtain ⟨g0, g1, g2, g3⟩ := HKG.out w2 HB2.out
    go_wp2_with fail
    refine (HR.out w2 HB2.out).mono ?_
    rintro e w3 (⟨hne1, rfl, hb3⟩ | ⟨hE1, l1, v1, rfl, ho1, hdp1, hb3⟩)
    · have HB3 := Lib.hid (gNx HB1.out (gNx HB2.out hb3))
      clear hb3 hne1 g0 g1 g2 g3
      go_wp2_with fail
      go_ret
      exact ⟨rfl, HB3.out⟩
    · have HB3 := Lib.hid (gNx HB1.out (gNx HB2.out hb3))
      clear hb3 ho1 hdp1 hE1 g0 g1 g2 g3
      go_wp2_with fail
      go_ret
      exact ⟨rfl, HB3.out⟩
  · subst hE
    have HB2 := Lib.hid hb2
    have HDP := Lib.hid hdp
    have HN := Lib.hid (HNZ.out rfl)
    obtain ⟨dg, dc, hve, hdc⟩ := row_cells ho hdp.1 HN.out.1
    have HDC := Lib.hid hdc
    subst hve
    have hn0 : ((G.nodes.length : Int) == 0) = false := by have := HN.out; exact beq_eq_false_iff_ne.2 (by omega)
    have HN0 := Lib.hid hn0
    clear hb2 ho hdp hdc g0 g1 g2 g3 HP hn0
    obtain ⟨g0, g1, g2, g3⟩ := HKG.out w2 HB2.out
    go_wp2_with fail
    refine (HR.out w2 HB2.out).mono ?_
    rintro e w3 (⟨hne1, rfl, hb3⟩ | ⟨hE1, l1, v1, rfl, ho1, hdp1, hb3⟩)
    · have HB3 := Lib.hid (gNx HB1.out (gNx HB2.out hb3))
      have hz : (E1 != 0) = true := by simpa using hne1
      have hn0 := HN0.out
      clear hb3 hne1 g0 g1 g2 g3
      go_wp2_with fail
      go_ret
      exact ⟨rfl, HB3.out⟩
    · subst hE1
      have HB3 := Lib.hid (gNx HB2.out hb3)
      have HDP1 := Lib.hid hdp1
      obtain ⟨eg, ec, hve1, hec⟩ := row_cells ho1 hdp1.1 HN.out.1
      have HEC := Lib.hid hec
      subst hve1
      have HDC3 : Hid (∀ V, Below w3.heap.size w3 V → ∀ i, i < G.nodes.length → V.cell? ⟨dg, i, none⟩ = some (.float .f64 (dw (g_ l i)))) := Lib.hid (fun V hV => HDC.out V (gNx hb3 hV))
      clear hb3 ho1 hdp1 hec g0 g1 g2 g3 HR HDC
      obtain ⟨g0, g1, g2, g3⟩ := HKG.out w3 HB3.out
      have hn0 := HN0.out
      cases hgt : (FloatKind.f64.format.order max rad == some .gt) with
      | true =>
        go_wp2_with fail
        refine (HAW.out w3).mono ?_
        rintro e w4 ⟨rfl, hb4⟩
        have HB4 := Lib.hid (gNx HB1.out (gNx HB3.out hb4))
        clear hb4
        go_wp2_with fail
        go_ret
        exact ⟨rfl, HB4.out⟩
      | false =>
        have hnn : ((G.nodes.length : Int) != (G.nodes.length : Int)) = false := by simp
        have HLE : Hid (∃ q0 q1, max = qw q0 ∧ qn max = q0 ∧ q0 ≤ 4294967296 ∧ qn rad = q1 ∧ q1 ≤ 4294967296 ∧ q0 ≤ q1) := Lib.hid (by
          obtain ⟨q0, x1, x2, x3⟩ := HLI.out (by simp)
          obtain ⟨q1, y1, y2, y3⟩ := HLI1.out (by simp)
          refine ⟨q0, q1, x1, x2, x3, y2, y3, ?_⟩
          have this : (FloatKind.f64.format.order (qw q0) (qw q1) == some .gt) = ltO (some q1) (some q0) := dw_gt (a := some q0) (b := some q1) x3 y3
          rw [← x1, ← y1, hgt] at this
          simp only [ltO] at this
          have := of_decide_eq_false this.symm
          omega)
        go_wp2_with fail
        refine (HCK.out w3 HB3.out).mono ?_
        rw [HCZ.out (by simp)]
        rintro e w4 ⟨rfl, hb4⟩
        have HB4 := Lib.hid hb4
        clear hb4 hgt g0 g1 g2 g3 hn0 HCZ HNZ HLI HLI1
        go_wp2_with fail
        go_loopw [11] (fun i wr => ∃ k : Nat, i = .int .i64 (k : Int) ∧ k ≤ G.nodes.length ∧ Below w3.heap.size w3 wr) (fun i _ => G.nodes.length - (RowKit.intOf i).toNat)
        case atStart => exact ⟨0, rfl, Nat.zero_le _, HB4.out⟩
        case round =>
          obtain ⟨k, rfl, hk, hbel⟩ := hrel
          have HBE := Lib.hid hbel
          by_cases hlt : k < G.nodes.length
          · have hlti : (k : Int) < (G.nodes.length : Int) := by omega
            have hk0 : (0 : Int) ≤ (k : Int) := by omega
            have hkw : IntKind.i64.wrap ((k : Int) + 1) = (k : Int) + 1 := by rw [IntKind.wrap_i64]; have := HN.out.2; omega
            have HK1 : Hid (k + 1 ≤ G.nodes.length ∧ G.nodes.length - (k + 1) < G.nodes.length - k ∧ ((k : Int) + 1).toNat = k + 1 ∧ (k : Int) + 1 = ((k + 1 : Nat) : Int)) := Lib.hid ⟨by omega, by omega, by omega, by omega⟩
            have c0 := HDC3.out wr hbel k hlt
            have c1 := HEC.out wr hbel k hlt
            obtain ⟨g0, g1, g2, g3⟩ := HKG.out wr (gNx HB3.out hbel)
            obtain ⟨q0, q1, x1, x2, x3, y2, y3, xy⟩ := HLE.out
            have d0 := HDP.out
            have d1 := HDP1.out
            rw [x2] at d0
            rw [y2] at d1
            have sA := d0.sm x3 k
            have sB := d1.sm y3 k
            obtain ⟨f1, f2⟩ := lim_facts d0 d1 xy k
            clear hbel d0 d1 x2 y2 y3 xy HLE
            generalize g_ l k = A at *
            generalize g_ l1 k = B at *
            cases A with
            | some q =>
              have hB := f1 q rfl
              subst hB
              have hne : (FloatKind.f64.format.order (dw (some q)) (dw (some q)) != some .eq) = false := by
                have := dw_eq sA sA
                simp only [eqO, decide_true] at this
                simpa using this
              have HIA := Lib.hid (isinf_dw (some q) sA false rfl)
              generalize dw (some q) = da at *
              clear f1 f2 sA sB x1 x3
              go_upto_region 10 with (fail)
              go_quiet ((go_at_call 28; exact Calls.quiet_of_same (HIA.out _)))
              go_wp2_with fail
              go_quiet ((go_at_call 28; exact qAdd (HIA.out _)))
              go_wp2_with fail
              refine ⟨⟨k + 1, congrArg (Value.int .i64) HK1.out.2.2.2, HK1.out.1, Go.Iq.below_drewN HBE.out _⟩, ?_⟩
              show G.nodes.length - ((k : Int) + 1).toNat < G.nodes.length - (k : Int).toNat
              rw [HK1.out.2.2.1]
              exact HK1.out.2.1
            | none =>
              cases B with
              | none =>
                have HIA := Lib.hid (isinf_dw none sA true rfl)
                generalize dw none = da at *
                clear f1 f2 sA sB x1 x3
                go_upto_region 10 with (fail)
                go_quiet ((go_at_call 28; exact Calls.quiet_of_same (HIA.out _)))
                go_wp2_with fail
                go_quiet ((go_at_call 28; exact qAdd (HIA.out _)))
                go_wp2_with fail
                refine ⟨⟨k + 1, congrArg (Value.int .i64) HK1.out.2.2.2, HK1.out.1, Go.Iq.below_drewN HBE.out _⟩, ?_⟩
                show G.nodes.length - ((k : Int) + 1).toNat < G.nodes.length - (k : Int).toNat
                rw [HK1.out.2.2.1]
                exact HK1.out.2.1
              | some m =>
                have hmm := f2 m rfl rfl
                have hlm : (FloatKind.f64.format.order (dw (some m)) max == some .lt) = false := by
                  have := dw_lt (a := some m) (b := some q0) sB x3
                  rw [x1]
                  refine this.trans ?_
                  simp only [ltO]
                  exact decide_eq_false (by omega)
                have HIA := Lib.hid (isinf_dw none sA true rfl)
                have HIB := Lib.hid (isinf_dw (some m) sB false rfl)
                generalize dw none = da at *
                generalize dw (some m) = db at *
                have HAB : Hid (∀ (x : Nat) (b : Bool) (V : World), (x = da ∧ b = true) ∨ (x = db ∧ b = false) → Calls Try.prog 28 #[.float .f64 x, .int .i64 1] V fun e w' => e = .returned (.bool b) ∧ w' = V) := Lib.hid (fun x b V h => by
                  rcases h with ⟨rfl, rfl⟩ | ⟨rfl, rfl⟩
                  · exact HIA.out V
                  · exact HIB.out V)
                clear f1 f2 sA sB x1 x3 hmm
                go_upto_region 10 with (fail)
                go_quiet ((go_at_call 28; exact Calls.quiet_of_same (HIA.out _)))
                go_wp2_with fail
                go_quiet ((go_at_call 28; exact qAdd (HAB.out _ _ _ (by first | exact Or.inl ⟨rfl, rfl⟩ | exact Or.inr ⟨rfl, rfl⟩))))
                go_wp2_with fail
                refine ⟨⟨k + 1, congrArg (Value.int .i64) HK1.out.2.2.2, HK1.out.1, Go.Iq.below_drewN HBE.out _⟩, ?_⟩
                show G.nodes.length - ((k : Int) + 1).toNat < G.nodes.length - (k : Int).toNat
                rw [HK1.out.2.2.1]
                exact HK1.out.2.1
          · have hnk : ¬ (k : Int) < (G.nodes.length : Int) := by omega
            have HBW := Lib.hid (gNx HB1.out (gNx HB3.out HBE.out))
            clear hbel hlt hk
            go_wp2_with fail
            refine (HAW.out wr).mono ?_
            rintro e w5 ⟨rfl, hb5⟩
            have HB5 := Lib.hid (gNx HBW.out hb5)
            clear hb5
            go_wp2_with fail
            go_ret
            exact ⟨rfl, HB5.out⟩
end Go.Proofs.Ytcmknkdfoebniaa
