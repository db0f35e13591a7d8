/- Paths: the law of triangles. -/
import Derived.Test.YtcmknkdfoebniaaPrG
import Derived.Test.YtcmknkdfoebniaaPqT
namespace Go.Proofs.Ytcmknkdfoebniaa
open Go.RowKit Go.Lib Go.Fq Go.Pq Go.Iq Go.Nq Go.Ow
set_option linter.unusedVariables false
set_option linter.unusedSimpArgs false
set_option maxRecDepth 100000

theorem placeX_any (l : List Nd) (na : Option Addr) (nc : Nat) (la : Option Addr) (ln lc : Nat) (x : Int) (w : World) (hin : NodesIn w w.heap.size l na) (h : NodesP l) (hn : l.length < 4611686018427387904) :
    Calls Try.prog 27 #[.agg #[.slice na l.length nc, .slice la ln lc], .int .i64 x] w fun e w' => e = .returned (.int .i64 (placeV l x)) ∧ Below w.heap.size w w' := by
  obtain ⟨W1, hW1⟩ : ∃ W1, W1 = w.alloc (.cells #[.slice na l.length nc, .slice la ln lc] 25) := ⟨_, rfl⟩
  have b1 : Below w.heap.size w W1 := by rw [hW1]; exact gAl _ _
  have r1 : W1.heap[w.heap.size]? = some (.cells #[.slice na l.length nc, .slice la ln lc] 25 (0, 0)) := by rw [hW1]; exact heap_alloc_new w _
  obtain ⟨g0, g1, -, -⟩ := two_cells r1
  have HC := Lib.hid (sPlace_any l na nc la ln lc x W1 (hin.kept (fun i hi => b1.block i hi) b1.size) h hn)
  have HB1 := Lib.hid b1
  generalize placeV l x = p at *
  clear hin h hn b1 r1
  go_enter Try.func27, Try.ntmps27
  go_upto_region 1 with (fail)
  rw [← hW1]
  clear hW1
  go_wp2_with fail
  refine HC.out.mono ?_
  rintro e w2 ⟨rfl, hb2⟩
  have HB2 := Lib.hid (gNx HB1.out hb2)
  clear hb2 g0 g1
  go_wp2_with fail
  go_ret
  exact ⟨rfl, HB2.out⟩
def TrS (V : World) (gb : Nat) (na la : Option Addr) (nc n lc m b o i : Nat) (x : Int) : Prop := V.cell? ⟨gb, 0, none⟩ = some (.slice na n nc) ∧ V.cell? ⟨gb, 1, none⟩ = some (.slice la m lc) ∧ V.cell? ⟨b, o + i * 3, none⟩ = some (.int .i64 x)
def TsS (V : World) (gb : Nat) (na la : Option Addr) (nc n lc m cg s dg i d : Nat) : Prop := V.cell? ⟨gb, 0, none⟩ = some (.slice na n nc) ∧ V.cell? ⟨gb, 1, none⟩ = some (.slice la m lc) ∧ V.cell? ⟨cg, s, none⟩ = some (.float .f64 d) ∧ V.cell? ⟨dg, i, none⟩ = some (.float .f64 d)
theorem ask_id {G : Gr} {max : Nat} (h1 : limitF max = 0) (h2 : checkG G = 0) {i : Nat} (hi : i < G.nodes.length) : askE G max [idI G.nodes i] = 0 ∧ Nq.ahead G.nodes (idI G.nodes i) = i := by
  obtain ⟨n1, n2, n3, n4⟩ := check_zero.1 h2
  have e := idI_at hi
  have hh : has G.nodes (idI G.nodes i) = true := by
    unfold has
    rw [List.any_eq_true]
    exact ⟨G.nodes[i], List.getElem_mem hi, by simp [e]⟩
  refine ⟨askE_ok h1 h2 (by simp [hh]), ?_⟩
  obtain ⟨hk, hx⟩ := (has_at n3 _).1 hh
  obtain ⟨-, h4⟩ := ahead_spec n3 (idI G.nodes i)
  have a1 := (h4 i hi)
  rw [e] at a1
  rcases Nat.lt_trichotomy (Nq.ahead G.nodes (idI G.nodes i)) i with hl | he | hg
  · have h5 : G.nodes[Nq.ahead G.nodes (idI G.nodes i)].id < G.nodes[i].id := nodes_rise n3 i (Nq.ahead G.nodes (idI G.nodes i)) hl hi
    rw [hx, e] at h5
    omega
  · exact he
  · have := a1.1 hg; omega
set_option maxHeartbeats 16000000 in
theorem law_ptriangle (G : Gr) (na : Option Addr) (nc : Nat) (la : Option Addr) (lc : Nat) (max : Nat) (fr : Int) (w : World) (hin : GrIn w G na la) (hm : max < 2 ^ 64) (_ : (Lit.int .i64 fr).wf = true) :
    Calls Try.prog 8 #[.agg #[.slice na G.nodes.length nc, .slice la G.links.length lc], .float .f64 max, .int .i64 fr] w fun e w' => e = .returned (.bool true) ∧ Below w.heap.size w w' := by
  obtain ⟨W1, hW1⟩ : ∃ W1, W1 = w.alloc (.cells #[.slice na G.nodes.length nc, .slice la G.links.length lc] 25) := ⟨_, rfl⟩
  have b1 : Below w.heap.size w W1 := by rw [hW1]; exact gAl _ _
  have s1 : w.heap.size < W1.heap.size := by rw [hW1]; simp
  have r1 : W1.heap[w.heap.size]? = some (.cells #[.slice na G.nodes.length nc, .slice la G.links.length lc] 25 (0, 0)) := by rw [hW1]; exact heap_alloc_new w _
  have HKG : Hid (∀ V, Below W1.heap.size W1 V → V.cell? ⟨w.heap.size, 0, none⟩ = some (.slice na G.nodes.length nc) ∧ V.cell? ⟨w.heap.size, 1, none⟩ = some (.slice la G.links.length lc)) := Lib.hid (fun V hV => by
    have := two_cells ((hV.block _ s1).trans r1)
    exact ⟨this.1, this.2.1⟩)
  have HB1 := Lib.hid b1
  have HIN : Hid (∀ V, Below W1.heap.size W1 V → GrIn V G na la) := Lib.hid (fun V hV => (hin.below b1).below hV)
  have HP := Lib.hid (pDists_any G na nc la lc max fr W1 (hin.below b1) hm)
  have HR := Lib.hid (fun V (hV : Below W1.heap.size W1 V) => rDists_any G na nc la lc max fr V (HIN.out V hV) hm)
  have HAW := Lib.hid pAwake_any
  have HWT := Lib.hid hin.wts
  obtain ⟨E, hEE⟩ : ∃ E, E = askE G max [fr] := ⟨_, rfl⟩
  have HNZ : Hid (E = 0 → 0 < G.nodes.length ∧ G.nodes.length ≤ 256) := Lib.hid (ask_nz hEE)
  have HCZ : Hid (E = 0 → checkG G = 0) := Lib.hid (fun h => (askE_zero (hEE.symm.trans h)).2.1)
  have HLI : Hid (E = 0 → ∃ q, max = qw q ∧ qn max = q ∧ q ≤ 4294967296) := Lib.hid (fun h => by
    obtain ⟨lim, l1, l2, l3⟩ := limit_q max hm (askE_zero (hEE.symm.trans h)).1
    exact ⟨lim, l3, by rw [l3]; exact qn_qw (by omega), l2⟩)
  have HPS : Hid (E = 0 → placeV G.nodes fr = (Nq.ahead G.nodes fr : Int) ∧ Nq.ahead G.nodes fr < G.nodes.length) := Lib.hid (fun h => by
    obtain ⟨a1, a2, a3⟩ := askE_zero (hEE.symm.trans h)
    have hhas : has G.nodes fr = true := by simpa using a3
    obtain ⟨n1, n2, n3, n4⟩ := check_zero.1 a2
    exact ⟨placeV_has hhas, ((has_at n3 fr).1 hhas).1⟩)
  have HPX : Hid (E = 0 → ∀ V, Below W1.heap.size W1 V → Calls Try.prog 27 #[.agg #[.slice na G.nodes.length nc, .slice la G.links.length lc], .int .i64 fr] V fun e w' => e = .returned (.int .i64 (Nq.ahead G.nodes fr : Int)) ∧ Below V.heap.size V w') := Lib.hid (fun h V hV => by
    have h2 := (HPS.out h).1
    rw [← h2]
    exact placeX_any G.nodes na nc la G.links.length lc fr V (HIN.out V hV).nodes (check_zero.1 (HCZ.out h)).2.2.1 (by have := (HNZ.out h).2; omega))
  have HPI : Hid (E = 0 → ∀ i, i < G.nodes.length → ∀ V, Below W1.heap.size W1 V → Calls Try.prog 11 #[.agg #[.slice na G.nodes.length nc, .slice la G.links.length lc], .float .f64 max, .int .i64 (idI G.nodes i)] V fun e w' => DistsEnds V G 0 i (qn max) e w') := Lib.hid (fun h i hi V hV => by
    obtain ⟨a1, a2, a3⟩ := askE_zero (hEE.symm.trans h)
    obtain ⟨e1, e2⟩ := ask_id a1 a2 hi
    have := pDists_any G na nc la lc max (idI G.nodes i) V (HIN.out V hV) hm
    rw [e1, e2] at this
    exact this)
  rw [← hEE] at HP HR
  generalize Nq.ahead G.nodes fr = s at *
  obtain ⟨g0, g1⟩ := HKG.out W1 (Below.refl _ _)
  clear hin hm b1 s1 r1 hEE
  go_enter Try.func8, Try.ntmps8
  go_upto_region 1 with (fail)
  rw [← hW1]
  clear hW1
  go_wp2_with fail
  refine HP.out.mono ?_
  rintro e w2 (⟨hne, rfl, hb2⟩ | ⟨hE, l, v, rfl, ho, hdp, hb2⟩)
  · have HB2 := Lib.hid hb2
    have HNE := Lib.hid hne
    have hz : (E != 0) = true := by simpa using hne
    clear hb2 hne g0 g1 HP HPX HPI HPS HLI HCZ HNZ
    obtain ⟨g0, g1⟩ := HKG.out w2 HB2.out
    go_wp2_with fail
    refine (HR.out w2 HB2.out).mono ?_
    rintro e w3 (⟨-, rfl, hb3⟩ | ⟨hE, -⟩)
    case inr => exact absurd hE HNE.out
    have HB3 := Lib.hid (gNx HB1.out (gNx HB2.out hb3))
    clear hb3 g0 g1
    go_wp2_with fail
    refine (HAW.out w3).mono ?_
    rintro e w5 ⟨rfl, hb5⟩
    have HB5 := Lib.hid (gNx HB3.out hb5)
    clear hb5
    go_wp2_with fail
    go_ret
    exact ⟨rfl, HB5.out⟩
  · subst hE
    have HB2 := Lib.hid hb2
    have HDP := Lib.hid hdp
    have HN := Lib.hid (HNZ.out rfl)
    have HZ := Lib.hid (HCZ.out rfl)
    have HS := Lib.hid (HPS.out rfl).2
    have HPX2 := Lib.hid (HPX.out rfl)
    have HPI2 := Lib.hid (HPI.out rfl)
    obtain ⟨lim, x1, x2, x3⟩ := HLI.out rfl
    have HX := Lib.hid (show max = qw lim ∧ qn max = lim ∧ lim ≤ 4294967296 from ⟨x1, x2, x3⟩)
    obtain ⟨dg, dc, hve, hdc⟩ := row_cells ho hdp.1 HN.out.1
    have HDC := Lib.hid hdc
    subst hve
    clear hb2 ho hdp hdc g0 g1 HP HR HPX HPI HPS HLI HCZ HNZ x1 x2 x3
    obtain ⟨g0, g1⟩ := HKG.out w2 HB2.out
    have hnn : ((G.nodes.length : Int) != (G.nodes.length : Int)) = false := by simp
    go_wp2_with fail
    refine (HPX2.out w2 HB2.out).mono ?_
    rintro e w3 ⟨rfl, hb3⟩
    have HB3 := Lib.hid (gNx HB2.out hb3)
    have HDC3 : Hid (∀ V, Below w3.heap.size w3 V → ∀ i, i < G.nodes.length → V.cell? ⟨dg, i, none⟩ = some (.float .f64 (dw (g_ l i)))) := Lib.hid (fun V hV => HDC.out V (gNx hb3 hV))
    clear hb3 g0 g1 hnn HDC
    obtain ⟨g0, g1⟩ := HKG.out w3 HB3.out
    have hs0 : ¬ ((s : Int) < 0) := by omega
    go_wp2_with fail
    clear g0 g1 hs0
    go_loopw [11] (fun i wr => ∃ k : Nat, i = .int .i64 (k : Int) ∧ k ≤ G.nodes.length ∧ Below w3.heap.size w3 wr) (fun i _ => G.nodes.length - (RowKit.intOf i).toNat)
    case atStart => exact ⟨0, rfl, Nat.zero_le _, Below.refl _ _⟩
    case round =>
      obtain ⟨i, rfl, hk, hbel⟩ := hrel
      obtain ⟨wo, hwo⟩ : ∃ wo, wo = wr := ⟨_, rfl⟩
      subst hwo
      have HBE := Lib.hid hbel
      obtain ⟨g0, g1⟩ := HKG.out wo (gNx HB3.out hbel)
      by_cases hlt : i < G.nodes.length
      · have hlti : (i : Int) < (G.nodes.length : Int) := by omega
        have hk0 : (0 : Int) ≤ (i : Int) := by omega
        have hkw : IntKind.i64.wrap ((i : Int) + 1) = (i : Int) + 1 := by rw [IntKind.wrap_i64]; have := HN.out.2; omega
        have HK1 : Hid (i + 1 ≤ G.nodes.length ∧ G.nodes.length - (i + 1) < G.nodes.length - i ∧ ((i : Int) + 1).toNat = i + 1 ∧ (i : Int) + 1 = ((i + 1 : Nat) : Int)) := Lib.hid ⟨by omega, by omega, by omega, by omega⟩
        have HLT := Lib.hid hlt
        obtain ⟨b, o, hna, hbb, hcn⟩ := (HIN.out W1 (Below.refl _ _)).nodes.at i hlt
        obtain ⟨ni, -⟩ := hcn i hlt
        rw [idI_at hlt] at ni
        have HSS : Hid (∀ V, Below W1.heap.size W1 V → TrS V w.heap.size na la nc G.nodes.length lc G.links.length b o i (idI G.nodes i)) := Lib.hid (fun V hV => ⟨(HKG.out V hV).1, (HKG.out V hV).2, (hV.cell (p := ⟨b, o + i * 3, none⟩) hbb).trans ni⟩)
        have HCI := Lib.hid (HPI2.out i hlt)
        have HB4 := Lib.hid (gNx HB3.out hbel)
        clear hcn ni hbb hbel
        subst hna
        generalize idI G.nodes i = x at *
        go_upto_region 10 with (fail)
        clear g0 g1
        refine wp_region_held_drew (S := fun V => TrS V w.heap.size (some ⟨b, o, none⟩) la nc G.nodes.length lc G.links.length b o i x) (by kernel_rfl) (HSS.out _ (Below.drew HB4.out)) (fun hH => ?_)
        have hs0 := HSS.out _ (Below.drew HB4.out)
        have B0 : Hid (Below w3.heap.size w3 wo.drew) := Lib.hid (Below.drew HBE.out)
        have C0 : Hid (Below W1.heap.size W1 wo.drew) := Lib.hid (Below.drew HB4.out)
        generalize wo.drew = V0 at *
        refine tk 0 (by assumption) rfl (by kernel_rfl) (fun _ _ _ h => h) (fun V hV => by obtain ⟨hx0, hx1, hx2⟩ := hV; go_simp; try with_reducible rfl) ?_
        try simp only [Act.put, List.setIfInBounds_toArray, List.set_cons_zero, List.set_cons_succ, List.getElem_toArray, List.getElem_cons_succ, List.getElem_cons_zero]
        refine tk 1 (by assumption) rfl (by kernel_rfl) (fun _ _ _ h => h) (fun V hV => by go_simp; try with_reducible rfl) ?_
        try simp only [Act.put, List.setIfInBounds_toArray, List.set_cons_zero, List.set_cons_succ, List.getElem_toArray, List.getElem_cons_succ, List.getElem_cons_zero]
        refine tk 2 (by assumption) rfl (by kernel_rfl) (fun _ _ _ h => h) (fun V hV => by go_simp; try with_reducible rfl) ?_
        try simp only [Act.put, List.setIfInBounds_toArray, List.set_cons_zero, List.set_cons_succ, List.getElem_toArray, List.getElem_cons_succ, List.getElem_cons_zero]
        refine tk 3 (by assumption) rfl (by kernel_rfl) (fun _ _ _ h => h) (fun V hV => by obtain ⟨hx0, hx1, hx2⟩ := hV; go_simp; try with_reducible rfl) ?_
        try simp only [Act.put, List.setIfInBounds_toArray, List.set_cons_zero, List.set_cons_succ, List.getElem_toArray, List.getElem_cons_succ, List.getElem_cons_zero]
        refine tk 4 (by assumption) rfl (by kernel_rfl) (fun _ _ _ h => h) (fun V hV => by go_simp; try with_reducible rfl) ?_
        try simp only [Act.put, List.setIfInBounds_toArray, List.set_cons_zero, List.set_cons_succ, List.getElem_toArray, List.getElem_cons_succ, List.getElem_cons_zero]
        refine tk 5 (by assumption) rfl (by kernel_rfl) (fun _ _ _ h => h) (fun V hV => by go_simp; try with_reducible rfl) ?_
        try simp only [Act.put, List.setIfInBounds_toArray, List.set_cons_zero, List.set_cons_succ, List.getElem_toArray, List.getElem_cons_succ, List.getElem_cons_zero]
        refine tk 6 (by assumption) rfl (by kernel_rfl) (fun _ _ _ h => h) (fun V hV => by go_simp; try with_reducible rfl) ?_
        try simp only [Act.put, List.setIfInBounds_toArray, List.set_cons_zero, List.set_cons_succ, List.getElem_toArray, List.getElem_cons_succ, List.getElem_cons_zero]
        refine tk 7 (by assumption) rfl (by kernel_rfl) (fun _ _ _ h => h) (fun V hV => by obtain ⟨hx0, hx1, hx2⟩ := hV; go_simp; try with_reducible rfl) ?_
        try simp only [Act.put, List.setIfInBounds_toArray, List.set_cons_zero, List.set_cons_succ, List.getElem_toArray, List.getElem_cons_succ, List.getElem_cons_zero]
        refine wpAnyH_ready (rs := [8]) (by kernel_rfl) (by simp) ?_
        refine AllReadyH.cons (o := _) rfl (fun K hK => ?_) AllReadyH.nil
        go_simp
        refine (HCI.out V0 C0.out).mono ?_
        rintro e V1 (⟨hne, -⟩ | ⟨-, c, cv, rfl, hoc, hdc, hb1⟩)
        case inl => exact absurd rfl hne
        have C1 : Hid (Below W1.heap.size W1 V1) := Lib.hid (gNx C0.out hb1)
        have B1 : Hid (Below w3.heap.size w3 V1) := Lib.hid (gNx B0.out hb1)
        obtain ⟨cg, cc, hve, hcc⟩ := row_cells hoc hdc.1 HN.out.1
        have HCC := Lib.hid hcc
        have HDI := Lib.hid hdc
        subst hve
        clear hoc hdc hb1 hcc
        go_wp2_with fail
        refine hK.out _ _ (HSS.out _ C1.out) (fun hH => ?_)
        clear hK K
        try simp only [Act.put, List.setIfInBounds_toArray, List.set_cons_zero, List.set_cons_succ, List.getElem_toArray, List.getElem_cons_succ, List.getElem_cons_zero]
        refine tk 9 (by assumption) rfl (by kernel_rfl) (fun _ _ _ h => h) (fun V hV => by go_simp; try with_reducible rfl) ?_
        try simp only [Act.put, List.setIfInBounds_toArray, List.set_cons_zero, List.set_cons_succ, List.getElem_toArray, List.getElem_cons_succ, List.getElem_cons_zero]
        refine tk 10 (by assumption) rfl (by kernel_rfl) (fun _ _ _ h => h) (fun V hV => by go_simp; try with_reducible rfl) ?_
        try simp only [Act.put, List.setIfInBounds_toArray, List.set_cons_zero, List.set_cons_succ, List.getElem_toArray, List.getElem_cons_succ, List.getElem_cons_zero]
        refine tk 11 (by assumption) rfl (by kernel_rfl) (fun _ _ _ h => h) (fun V hV => by go_simp; try with_reducible rfl) ?_
        try simp only [Act.put, List.setIfInBounds_toArray, List.set_cons_zero, List.set_cons_succ, List.getElem_toArray, List.getElem_cons_succ, List.getElem_cons_zero]
        refine tk 12 (by assumption) rfl (by kernel_rfl) (fun _ _ _ h => h) (fun V hV => by go_simp; try with_reducible rfl) ?_
        try simp only [Act.put, List.setIfInBounds_toArray, List.set_cons_zero, List.set_cons_succ, List.getElem_toArray, List.getElem_cons_succ, List.getElem_cons_zero]
        refine tk 13 (by assumption) rfl (by kernel_rfl) (fun _ _ _ h => h) (fun V hV => by go_simp; try with_reducible rfl) ?_
        try simp only [Act.put, List.setIfInBounds_toArray, List.set_cons_zero, List.set_cons_succ, List.getElem_toArray, List.getElem_cons_succ, List.getElem_cons_zero]
        refine wpAnyH_done (by kernel_rfl) ?_ _
        have HTS := Lib.hid (tri_sym HZ.out HWT.out HDP.out HDI.out)
        have HSA : Hid (Sm (g_ l i)) := Lib.hid (HDP.out.sm (by have := HX.out; omega) i)
        obtain ⟨d, hd⟩ : ∃ d, d = dw (g_ l i) := ⟨_, rfl⟩
        have hne : (FloatKind.f64.format.order d d != some .eq) = false := by
          have := dw_eq HSA.out HSA.out
          rw [← hd] at this
          cases hq : g_ l i <;> simp [hq, eqO] at this <;> simpa using this
        have HTT : Hid (∀ V, Below V1.heap.size V1 V → Below w3.heap.size w3 V → Below W1.heap.size W1 V → TsS V w.heap.size (some ⟨b, o, none⟩) la nc G.nodes.length lc G.links.length cg s dg i d) := Lib.hid (fun V hV h3 h1 => ⟨(HKG.out V h1).1, (HKG.out V h1).2, by rw [hd, ← HTS.out]; exact HCC.out V hV s HS.out, by rw [hd]; exact HDC3.out V h3 i HLT.out⟩)
        have HDD := Lib.hid hd
        clear hd
        have hsl : (s : Int) < (G.nodes.length : Int) := by have := HS.out; omega
        have hs00 : (0 : Int) ≤ (s : Int) := by omega
        have hnn : ((G.nodes.length : Int) != (G.nodes.length : Int)) = false := by simp
        go_upto_region 11 with (fail)
        have T1 := HTT.out V1.drew (Below.drew (Below.refl _ _)) (Below.drew B1.out) (Below.drew C1.out)
        refine wp_region_held_drew (S := fun V => TsS V w.heap.size (some ⟨b, o, none⟩) la nc G.nodes.length lc G.links.length cg s dg i d) (by kernel_rfl) T1 (fun hH => ?_)
        have D2 : Hid (Below V1.heap.size V1 V1.drew) := Lib.hid (Below.drew (Below.refl _ _))
        have C2 : Hid (Below W1.heap.size W1 V1.drew) := Lib.hid (Below.drew C1.out)
        have B2 : Hid (Below w3.heap.size w3 V1.drew) := Lib.hid (Below.drew B1.out)
        clear hs0
        generalize V1.drew = V2 at *
        refine tk 0 (by assumption) rfl (by kernel_rfl) (fun _ _ _ h => h) (fun V hV => by go_simp; try with_reducible rfl) ?_
        try simp only [Act.put, List.setIfInBounds_toArray, List.set_cons_zero, List.set_cons_succ, List.getElem_toArray, List.getElem_cons_succ, List.getElem_cons_zero]
        refine tk 1 (by assumption) rfl (by kernel_rfl) (fun _ _ _ h => h) (fun V hV => by go_simp; try with_reducible rfl) ?_
        try simp only [Act.put, List.setIfInBounds_toArray, List.set_cons_zero, List.set_cons_succ, List.getElem_toArray, List.getElem_cons_succ, List.getElem_cons_zero]
        refine tk 2 (by assumption) rfl (by kernel_rfl) (fun _ _ _ h => h) (fun V hV => by go_simp; try with_reducible rfl) ?_
        try simp only [Act.put, List.setIfInBounds_toArray, List.set_cons_zero, List.set_cons_succ, List.getElem_toArray, List.getElem_cons_succ, List.getElem_cons_zero]
        refine tk 3 (by assumption) rfl (by kernel_rfl) (fun _ _ _ h => h) (fun V hV => by go_simp; try with_reducible rfl) ?_
        try simp only [Act.put, List.setIfInBounds_toArray, List.set_cons_zero, List.set_cons_succ, List.getElem_toArray, List.getElem_cons_succ, List.getElem_cons_zero]
        refine tk 4 (by assumption) rfl (by kernel_rfl) (fun _ _ _ h => h) (fun V hV => by go_simp; try with_reducible rfl) ?_
        try simp only [Act.put, List.setIfInBounds_toArray, List.set_cons_zero, List.set_cons_succ, List.getElem_toArray, List.getElem_cons_succ, List.getElem_cons_zero]
        refine tk 5 (by assumption) rfl (by kernel_rfl) (fun _ _ _ h => h) (fun V hV => by go_simp; try with_reducible rfl) ?_
        try simp only [Act.put, List.setIfInBounds_toArray, List.set_cons_zero, List.set_cons_succ, List.getElem_toArray, List.getElem_cons_succ, List.getElem_cons_zero]
        refine tk 6 (by assumption) rfl (by kernel_rfl) (fun _ _ _ h => h) (fun V hV => by go_simp; try with_reducible rfl) ?_
        try simp only [Act.put, List.setIfInBounds_toArray, List.set_cons_zero, List.set_cons_succ, List.getElem_toArray, List.getElem_cons_succ, List.getElem_cons_zero]
        refine tk 7 (by assumption) rfl (by kernel_rfl) (fun _ _ _ h => h) (fun V hV => by go_simp; try with_reducible rfl) ?_
        try simp only [Act.put, List.setIfInBounds_toArray, List.set_cons_zero, List.set_cons_succ, List.getElem_toArray, List.getElem_cons_succ, List.getElem_cons_zero]
        refine tk 8 (by assumption) rfl (by kernel_rfl) (fun _ _ _ h => h) (fun V hV => by go_simp; try with_reducible rfl) ?_
        try simp only [Act.put, List.setIfInBounds_toArray, List.set_cons_zero, List.set_cons_succ, List.getElem_toArray, List.getElem_cons_succ, List.getElem_cons_zero]
        refine tk 9 (by assumption) rfl (by kernel_rfl) (fun _ _ _ h => h) (fun V hV => by go_simp; try with_reducible rfl) ?_
        try simp only [Act.put, List.setIfInBounds_toArray, List.set_cons_zero, List.set_cons_succ, List.getElem_toArray, List.getElem_cons_succ, List.getElem_cons_zero]
        refine tk 10 (by assumption) rfl (by kernel_rfl) (fun _ _ _ h => h) (fun V hV => by go_simp; try with_reducible rfl) ?_
        try simp only [Act.put, List.setIfInBounds_toArray, List.set_cons_zero, List.set_cons_succ, List.getElem_toArray, List.getElem_cons_succ, List.getElem_cons_zero]
        refine tk 11 (by assumption) rfl (by kernel_rfl) (fun _ _ _ h => h) (fun V hV => by obtain ⟨hx0, hx1, hx2, hx3⟩ := hV; go_simp; try with_reducible rfl) ?_
        try simp only [Act.put, List.setIfInBounds_toArray, List.set_cons_zero, List.set_cons_succ, List.getElem_toArray, List.getElem_cons_succ, List.getElem_cons_zero]
        refine tk 12 (by assumption) rfl (by kernel_rfl) (fun _ _ _ h => h) (fun V hV => by go_simp; try with_reducible rfl) ?_
        try simp only [Act.put, List.setIfInBounds_toArray, List.set_cons_zero, List.set_cons_succ, List.getElem_toArray, List.getElem_cons_succ, List.getElem_cons_zero]
        refine tk 16 (by assumption) rfl (by kernel_rfl) (fun _ _ _ h => h) (fun V hV => by go_simp; try with_reducible rfl) ?_
        try simp only [Act.put, List.setIfInBounds_toArray, List.set_cons_zero, List.set_cons_succ, List.getElem_toArray, List.getElem_cons_succ, List.getElem_cons_zero]
        refine tk 17 (by assumption) rfl (by kernel_rfl) (fun _ _ _ h => h) (fun V hV => by go_simp; try with_reducible rfl) ?_
        try simp only [Act.put, List.setIfInBounds_toArray, List.set_cons_zero, List.set_cons_succ, List.getElem_toArray, List.getElem_cons_succ, List.getElem_cons_zero]
        refine tk 18 (by assumption) rfl (by kernel_rfl) (fun _ _ _ h => h) (fun V hV => by go_simp; try with_reducible rfl) ?_
        try simp only [Act.put, List.setIfInBounds_toArray, List.set_cons_zero, List.set_cons_succ, List.getElem_toArray, List.getElem_cons_succ, List.getElem_cons_zero]
        refine tk 19 (by assumption) rfl (by kernel_rfl) (fun _ _ _ h => h) (fun V hV => by obtain ⟨hx0, hx1, hx2, hx3⟩ := hV; go_simp; try with_reducible rfl) ?_
        try simp only [Act.put, List.setIfInBounds_toArray, List.set_cons_zero, List.set_cons_succ, List.getElem_toArray, List.getElem_cons_succ, List.getElem_cons_zero]
        refine wpAnyH_ready (rs := [13]) (by kernel_rfl) (by simp) ?_
        refine AllReadyH.cons (o := _) rfl (fun K hK => ?_) AllReadyH.nil
        go_simp
        refine (HPX2.out V2 C2.out).mono ?_
        rintro e V3 ⟨rfl, hb3⟩
        have C3 : Hid (Below W1.heap.size W1 V3) := Lib.hid (gNx C2.out hb3)
        have B3 : Hid (Below w3.heap.size w3 V3) := Lib.hid (gNx B2.out hb3)
        have D3 : Hid (Below V1.heap.size V1 V3) := Lib.hid (gNx D2.out hb3)
        clear hb3
        go_wp2_with fail
        refine hK.out _ _ (HTT.out _ D3.out B3.out C3.out) (fun hH => ?_)
        clear hK K
        try simp only [Act.put, List.setIfInBounds_toArray, List.set_cons_zero, List.set_cons_succ, List.getElem_toArray, List.getElem_cons_succ, List.getElem_cons_zero]
        refine tk 14 (by assumption) rfl (by kernel_rfl) (fun _ _ _ h => h) (fun V hV => by go_simp; try with_reducible rfl) ?_
        try simp only [Act.put, List.setIfInBounds_toArray, List.set_cons_zero, List.set_cons_succ, List.getElem_toArray, List.getElem_cons_succ, List.getElem_cons_zero]
        refine tk 15 (by assumption) rfl (by kernel_rfl) (fun _ _ _ h => h) (fun V hV => by obtain ⟨hx0, hx1, hx2, hx3⟩ := hV; go_simp; try with_reducible rfl) ?_
        try simp only [Act.put, List.setIfInBounds_toArray, List.set_cons_zero, List.set_cons_succ, List.getElem_toArray, List.getElem_cons_succ, List.getElem_cons_zero]
        refine tk 20 (by assumption) rfl (by kernel_rfl) (fun _ _ _ h => h) (fun V hV => by go_simp; try with_reducible rfl) ?_
        try simp only [Act.put, List.setIfInBounds_toArray, List.set_cons_zero, List.set_cons_succ, List.getElem_toArray, List.getElem_cons_succ, List.getElem_cons_zero]
        refine tk 21 (by assumption) rfl (by kernel_rfl) (fun _ _ _ h => h) (fun V hV => by go_simp; try with_reducible rfl) ?_
        try simp only [Act.put, List.setIfInBounds_toArray, List.set_cons_zero, List.set_cons_succ, List.getElem_toArray, List.getElem_cons_succ, List.getElem_cons_zero]
        refine wpAnyH_done (by kernel_rfl) ?_ _
        clear hne T1 hnn hsl hs00 HTT HTS HSS HCI HPX2 HPI2
        go_wp2_with fail
        go_loopw [14] (fun u wr => ∃ k : Nat, u = .int .i64 (k : Int) ∧ k ≤ G.nodes.length ∧ Below V3.heap.size V3 wr) (fun u _ => G.nodes.length - (RowKit.intOf u).toNat)
        case atStart => exact ⟨0, rfl, Nat.zero_le _, Below.refl _ _⟩
        case round =>
          obtain ⟨k, rfl, hk2, hbel⟩ := hrel
          have HBI := Lib.hid hbel
          by_cases hl2 : k < G.nodes.length
          · have hl2i : (k : Int) < (G.nodes.length : Int) := by omega
            have hk20 : (0 : Int) ≤ (k : Int) := by omega
            have hkw2 : IntKind.i64.wrap ((k : Int) + 1) = (k : Int) + 1 := by rw [IntKind.wrap_i64]; have := HN.out.2; omega
            have HK2 : Hid (k + 1 ≤ G.nodes.length ∧ G.nodes.length - (k + 1) < G.nodes.length - k ∧ ((k : Int) + 1).toNat = k + 1 ∧ (k : Int) + 1 = ((k + 1 : Nat) : Int)) := Lib.hid ⟨by omega, by omega, by omega, by omega⟩
            have c1 := HCC.out wr (gNx D3.out hbel) k hl2
            have c2 := HDC3.out wr (gNx B3.out hbel) k hl2
            have c3 := HDC3.out wr (gNx B3.out hbel) i HLT.out
            obtain ⟨S, hS, hS2⟩ := tri_facts HDP.out HDI.out (by have := HX.out; omega) k
            rw [HX.out.2.1, ← HX.out.1] at hS2
            clear hbel
            generalize dw (g_ c k) = ck at *
            generalize dw (g_ l k) = dk at *
            generalize dw (g_ l i) = di at *
            have e1 := fun w => run_add_some (P := Try.prog) 26 di ck S hS w
            clear hS
            rcases hS2 with hS2 | ⟨hS2, hS3⟩
            · go_upto_region 16 with (fail)
              go_quiet (fail)
              go_wp2_with fail
              refine ⟨⟨k + 1, congrArg (Value.int .i64) HK2.out.2.2.2, HK2.out.1, Go.Iq.below_drewN HBI.out _⟩, ?_⟩
              show G.nodes.length - ((k : Int) + 1).toNat < G.nodes.length - (k : Int).toNat
              rw [HK2.out.2.2.1]
              exact HK2.out.2.1
            · go_upto_region 16 with (fail)
              go_quiet (fail)
              go_wp2_with fail
              refine ⟨⟨k + 1, congrArg (Value.int .i64) HK2.out.2.2.2, HK2.out.1, Go.Iq.below_drewN HBI.out _⟩, ?_⟩
              show G.nodes.length - ((k : Int) + 1).toNat < G.nodes.length - (k : Int).toNat
              rw [HK2.out.2.2.1]
              exact HK2.out.2.1
          · have hnk : ¬ (k : Int) < (G.nodes.length : Int) := by omega
            have HBW := Lib.hid (gNx B3.out HBI.out)
            clear hbel hl2 hk2
            go_wp2_with fail
            refine ⟨⟨i + 1, congrArg (Value.int .i64) HK1.out.2.2.2, HK1.out.1, HBW.out⟩, ?_⟩
            show G.nodes.length - ((i : Int) + 1).toNat < G.nodes.length - (i : Int).toNat
            rw [HK1.out.2.2.1]
            exact HK1.out.2.1
      · have hnk : ¬ (i : Int) < (G.nodes.length : Int) := by omega
        have HBW := Lib.hid (gNx HB1.out (gNx HB3.out HBE.out))
        clear hbel hlt hk
        go_wp2_with fail
        refine (HAW.out wo).mono ?_
        rintro e w5 ⟨rfl, hb5⟩
        have HB5 := Lib.hid (gNx HBW.out hb5)
        clear hb5
        go_wp2_with fail
        go_ret
        exact ⟨rfl, HB5.out⟩
end Go.Proofs.Ytcmknkdfoebniaa
