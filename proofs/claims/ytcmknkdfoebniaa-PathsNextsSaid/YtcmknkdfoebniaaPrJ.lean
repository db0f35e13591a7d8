/- Paths: the document's Nexts; the law of first hops. -/
import Derived.Test.YtcmknkdfoebniaaPrI
namespace Go.Proofs.Ytcmknkdfoebniaa
open Go.RowKit Go.Lib Go.Fq Go.Pq Go.Iq Go.Nq Go.Ow
set_option linter.unusedVariables false
set_option linter.unusedSimpArgs false
set_option maxRecDepth 100000

theorem ahead_idf {ns : List Nd} (h : NodesP ns) {k : Nat} (hk : k < ns.length) : has ns (idf ns k : Int) = true ∧ Nq.ahead ns (idf ns k : Int) = k := by
  have e := (idf_is h hk).1
  have hh : has ns (idf ns k : Int) = true := by
    unfold has
    rw [List.any_eq_true]
    exact ⟨ns[k], List.getElem_mem hk, by simp [e]⟩
  refine ⟨hh, ?_⟩
  obtain ⟨hk2, hx⟩ := (has_at h _).1 hh
  obtain ⟨-, h4⟩ := ahead_spec h (idf ns k : Int)
  have a1 := h4 k hk
  rw [e] at a1
  rcases Nat.lt_trichotomy (Nq.ahead ns (idf ns k : Int)) k with hl | he | hg
  · have h5 := nodes_rise h k (Nq.ahead ns (idf ns k : Int)) hl hk
    rw [hx, e] at h5
    omega
  · exact he
  · have := a1.1 hg; omega
theorem next_is {G : Gr} (hz : checkG G = 0) (hw : ∀ y ∈ G.links, y.w < 2 ^ 64) {fr : Int} (hfr : has G.nodes fr = true) {lim : Nat} {D : List (Option (Nat × Nat))} (hS : StopsP G (Nq.ahead G.nodes fr) lim D) {k : Nat} (hk : k < G.nodes.length) {c : List (Option Nat)} (hC : DistsP G k lim c) :
    nextZ G fr (idf G.nodes k : Int) c = (fo (dd D k) : Int) := by
  have n3 := (check_zero.1 hz).2.2.1
  unfold nextZ
  by_cases hf : fr = (idf G.nodes k : Int)
  · rw [if_pos hf]
    have hs : Nq.ahead G.nodes fr = k := by rw [hf]; exact (ahead_idf n3 hk).2
    rw [hs] at hS
    obtain ⟨-, h2⟩ := hS
    by_cases hu : upAt G.nodes k = true
    · rw [if_pos hu] at h2
      cases hd : dd D k with
      | none => rfl
      | some p =>
        obtain ⟨n, f⟩ := p
        have := ((h2 k).1 n f hd).2.2 0 0 WayF.nil
        unfold Le at this
        have e : f = 0 := by omega
        subst e
        rfl
    · rw [if_neg hu] at h2
      rw [h2 k]
      rfl
  · rw [if_neg hf]
    have hne : Nq.ahead G.nodes fr ≠ k := fun e => hf (by rw [← e]; exact (id_at n3 hfr).1.symm)
    have ht := tri_sym hz hw hS.dists hC
    rw [dOf_at] at ht
    cases hd : dd D k with
    | none => rw [hd] at ht; rw [ht]; rfl
    | some p =>
      obtain ⟨n, f⟩ := p
      rw [hd] at ht
      rw [ht]
      exact next_fo hz hw hC hS hfr hne hd
theorem row_cells2 {w : World} {base n : Nat} {v : Value} {l : List (Option Nat)} (ho : Own w base 26 1 v n (dRow l)) (hl : l.length = n) (hn : 0 < n) : ∃ dg dc, v = .slice (some ⟨dg, 0, none⟩) n dc ∧ ∀ V, Below w.heap.size w V → ∀ i, i < n → V.cell? ⟨dg, i, none⟩ = some (.float .f64 (dw (g_ l i))) := by
  obtain ⟨dg, dc, rfl, -⟩ := own1_cell ho hn
  refine ⟨dg, dc, rfl, fun V hV i hi => ?_⟩
  obtain ⟨g', c', e1, e2⟩ := own1_cell (ho.below hV) hn
  simp only [Value.slice.injEq, Option.some.injEq, Addr.mk.injEq, and_true, true_and] at e1
  obtain ⟨rfl, rfl⟩ := e1
  exact e2 i hi _ (dRow_at (by rw [hl]; exact hi))
def TnS (V : World) (gb : Nat) (na la : Option Addr) (nc n lc m b o i : Nat) (x : Int) : Prop := V.cell? ⟨gb, 0, none⟩ = some (.slice na n nc) ∧ V.cell? ⟨gb, 1, none⟩ = some (.slice la m lc) ∧ V.cell? ⟨b, o + i * 3, none⟩ = some (.int .i64 x)
theorem nF_succ (D : List (Option (Nat × Nat))) (k : Nat) : (List.range (k + 1)).map (nF D) = (List.range k).map (nF D) ++ [.int .i64 (fo (dd D k) : Int)] := by
  rw [List.range_succ, List.map_append]; rfl
/-- What the document's Nexts tells. -/
def RNextsEnds (w : World) (G : Gr) (E : Int) (D : List (Option (Nat × Nat))) (e : Ending) (w' : World) : Prop :=
  (E ≠ 0 ∧ e = .returned (.tuple #[.slice none 0 0, .int .i64 E]) ∧ Below w.heap.size w w') ∨
  (E = 0 ∧ ∃ v, e = .returned (.tuple #[v, .int .i64 0]) ∧ Own w' w.heap.size 3 1 v G.nodes.length ((List.range G.nodes.length).map (nF D)) ∧ Below w.heap.size w w')
set_option maxHeartbeats 16000000 in
theorem rNexts_any (G : Gr) (na : Option Addr) (nc : Nat) (la : Option Addr) (lc : Nat) (max : Nat) (fr : Int) (D : List (Option (Nat × Nat))) (w : World) (hin : GrIn w G na la) (hm : max < 2 ^ 64) (hD : askE G max [fr] = 0 → StopsP G (Nq.ahead G.nodes fr) (qn max) D) :
    Calls Try.prog 16 #[.agg #[.slice na G.nodes.length nc, .slice la G.links.length lc], .float .f64 max, .int .i64 fr] w fun e w' => RNextsEnds w G (askE G max [fr]) D e w' := by
  obtain ⟨W1, hW1⟩ : ∃ W1, W1 = w.alloc (.cells #[.slice na G.nodes.length nc, .slice la G.links.length lc] 25) := ⟨_, rfl⟩
  have b1 : Below w.heap.size w W1 := by rw [hW1]; exact gAl _ _
  have s1 : w.heap.size < W1.heap.size := by rw [hW1]; simp
  have r1 : W1.heap[w.heap.size]? = some (.cells #[.slice na G.nodes.length nc, .slice la G.links.length lc] 25 (0, 0)) := by rw [hW1]; exact heap_alloc_new w _
  have HKG : Hid (∀ V, Below W1.heap.size W1 V → V.cell? ⟨w.heap.size, 0, none⟩ = some (.slice na G.nodes.length nc) ∧ V.cell? ⟨w.heap.size, 1, none⟩ = some (.slice la G.links.length lc)) := Lib.hid (fun V hV => by
    have := two_cells ((hV.block _ s1).trans r1)
    exact ⟨this.1, this.2.1⟩)
  have HB1 := Lib.hid b1
  have HIN : Hid (∀ V, Below W1.heap.size W1 V → GrIn V G na la) := Lib.hid (fun V hV => (hin.below b1).below hV)
  have HAK := Lib.hid (asked_any G na nc la lc max fr W1 (hin.below b1) hm)
  have HWT := Lib.hid hin.wts
  obtain ⟨E, hEE⟩ : ∃ E, E = askE G max [fr] := ⟨_, rfl⟩
  have HND : Hid (E = 0 → NodesP G.nodes ∧ 0 < G.nodes.length ∧ G.nodes.length ≤ 256 ∧ checkG G = 0 ∧ has G.nodes fr = true) := Lib.hid (fun h => by
    obtain ⟨-, a2, a3⟩ := askE_zero (hEE.symm.trans h)
    have hhas : has G.nodes fr = true := by simpa using a3
    obtain ⟨n1, n2, n3, n4⟩ := check_zero.1 a2
    have := ((has_at n3 fr).1 hhas).1
    exact ⟨n3, by omega, n1, a2, hhas⟩)
  have HDS : Hid (E = 0 → ∀ i, i < G.nodes.length → ∀ V, Below W1.heap.size W1 V → Calls Try.prog 34 #[.agg #[.slice na G.nodes.length nc, .slice la G.links.length lc], .float .f64 max, .int .i64 (idf G.nodes i : Int)] V fun e w' => ∃ l v, e = .returned v ∧ Own w' V.heap.size 26 1 v G.nodes.length (dRow l) ∧ DistsP G i (qn max) l ∧ Below V.heap.size V w' ∧ (∀ u, Sm (g_ l u)) ∧ nextZ G fr (idf G.nodes i : Int) l = (fo (dd D i) : Int)) := Lib.hid (fun h i hi V hV => by
    obtain ⟨a1, a2, a3⟩ := askE_zero (hEE.symm.trans h)
    have hhas : has G.nodes fr = true := by simpa using a3
    have n3 := (check_zero.1 a2).2.2.1
    have hS := hD (hEE.symm.trans h)
    obtain ⟨lim, l1, l2, l3⟩ := limit_q max hm a1
    subst l3
    rw [qn_qw (by omega)] at hS ⊢
    obtain ⟨i1, i2⟩ := ahead_idf n3 hi
    have := rdists_any G na nc la lc lim (idf G.nodes i : Int) V (HIN.out V hV) a2 i1 (by omega) l2
    rw [i2] at this
    refine this.mono ?_
    rintro e w' ⟨l, v, e1, e2, e3, e4⟩
    exact ⟨l, v, e1, e2, e3, e4, fun u => e3.sm l2 u, next_is a2 HWT.out hhas hS hi e3⟩)
  have HNX : Hid (E = 0 → ∀ tz c dg dc V, Below W1.heap.size W1 V → (∀ u, Sm (g_ c u)) → (∀ V', Below V.heap.size V V' → ∀ i, i < G.nodes.length → V'.cell? ⟨dg, i, none⟩ = some (.float .f64 (dw (g_ c i)))) → Calls Try.prog 36 #[.agg #[.slice na G.nodes.length nc, .slice la G.links.length lc], .int .i64 fr, .int .i64 tz, .slice (some ⟨dg, 0, none⟩) G.nodes.length dc] V fun e w' => e = .returned (.int .i64 (nextZ G fr tz c)) ∧ Below V.heap.size V w') := Lib.hid (fun h tz c dg dc V hV h1 h2 => rnext_any G na nc la lc fr tz c dg dc V (HIN.out V hV) (HND.out h).2.2.2.1 (HND.out h).2.2.2.2 h1 h2)
  rw [← hEE] at HAK ⊢
  obtain ⟨g0, g1⟩ := HKG.out W1 (Below.refl _ _)
  clear hin hm b1 s1 r1 hEE hD
  go_enter Try.func16, Try.ntmps16
  go_upto_region 1 with (fail)
  rw [← hW1]
  clear hW1
  go_wp2_with fail
  refine HAK.out.mono ?_
  rintro e w2 ⟨rfl, hb2⟩
  have HB2 := Lib.hid hb2
  clear hb2 g0 g1
  by_cases hE : E = 0
  · subst hE
    obtain ⟨n3, n4, n5, -, -⟩ := HND.out rfl
    have HNP := Lib.hid n3
    have HN : Hid (0 < G.nodes.length ∧ G.nodes.length ≤ 256) := Lib.hid ⟨n4, n5⟩
    have HDS2 := Lib.hid (HDS.out rfl)
    have HNX2 := Lib.hid (HNX.out rfl)
    clear n3 n4 n5 HND HDS HNX HAK
    go_wp2_with fail
    go_loopw [10, 9] (fun i v wr => ∃ k : Nat, i = .int .i64 (k : Int) ∧ k ≤ G.nodes.length ∧ Own wr w2.heap.size 3 1 v k ((List.range k).map (nF D)) ∧ Below w2.heap.size w2 wr) (fun i _ _ => G.nodes.length - (RowKit.intOf i).toNat)
    case atStart => exact ⟨0, rfl, Nat.zero_le _, Or.inl ⟨rfl, rfl, none, rfl⟩, Below.refl _ _⟩
    case round =>
      obtain ⟨k, rfl, hk, ho, hbel⟩ := hrel
      obtain ⟨wo, hwo⟩ : ∃ wo, wo = wr := ⟨_, rfl⟩
      subst hwo
      have HBE := Lib.hid hbel
      have HB3 := Lib.hid (gNx HB2.out hbel)
      obtain ⟨g0, g1⟩ := HKG.out wo HB3.out
      by_cases hlt : k < G.nodes.length
      · have hlti : (k : Int) < (G.nodes.length : Int) := by omega
        have hk0 : (0 : Int) ≤ (k : Int) := by omega
        have hkw : IntKind.i64.wrap ((k : Int) + 1) = (k : Int) + 1 := by rw [IntKind.wrap_i64]; have := HN.out.2; omega
        have HK1 : Hid (k + 1 ≤ G.nodes.length ∧ G.nodes.length - (k + 1) < G.nodes.length - k ∧ ((k : Int) + 1).toNat = k + 1 ∧ (k : Int) + 1 = ((k + 1 : Nat) : Int) ∧ k < 1048576) := Lib.hid ⟨by omega, by omega, by omega, by omega, by have := HN.out.2; omega⟩
        obtain ⟨b, o, hna, hbb, hcn⟩ := (HIN.out W1 (Below.refl _ _)).nodes.at k hlt
        obtain ⟨ni, -⟩ := hcn k hlt
        rw [(idf_is HNP.out hlt).1] at ni
        have HSS : Hid (∀ V, Below W1.heap.size W1 V → TnS V w.heap.size na la nc G.nodes.length lc G.links.length b o k (idf G.nodes k : Int)) := Lib.hid (fun V hV => ⟨(HKG.out V hV).1, (HKG.out V hV).2, (hV.cell (p := ⟨b, o + k * 3, none⟩) hbb).trans ni⟩)
        have HDK := Lib.hid (HDS2.out k hlt)
        have HNK := Lib.hid (HNX2.out (idf G.nodes k : Int))
        have HOW := Lib.hid ho
        obtain ⟨al, cl, rfl⟩ := ho.slice
        clear hcn ni hbb hbel ho HDS2 HNX2
        subst hna
        generalize (idf G.nodes k : Int) = x at *
        go_upto_region 8 with (fail)
        clear g0 g1
        refine wp_region_held_drew (S := fun V => TnS V w.heap.size (some ⟨b, o, none⟩) la nc G.nodes.length lc G.links.length b o k x) (by kernel_rfl) (HSS.out _ (Below.drew HB3.out)) (fun hH => ?_)
        have hs0 := HSS.out _ (Below.drew HB3.out)
        have B0 : Hid (Below wo.heap.size wo wo.drew) := Lib.hid (Below.drew (Below.refl _ _))
        have C0 : Hid (Below W1.heap.size W1 wo.drew) := Lib.hid (Below.drew HB3.out)
        generalize wo.drew = V0 at *
        refine tk 0 (by assumption) rfl (by kernel_rfl) (fun _ _ _ h => h) (fun V hV => by go_simp; try with_reducible rfl) ?_
        try simp only [Act.put, List.setIfInBounds_toArray, List.set_cons_zero, List.set_cons_succ, List.getElem_toArray, List.getElem_cons_succ, List.getElem_cons_zero]
        refine tk 1 (by assumption) rfl (by kernel_rfl) (fun _ _ _ h => h) (fun V hV => by obtain ⟨hx0, hx1, hx2⟩ := hV; go_simp; try with_reducible rfl) ?_
        try simp only [Act.put, List.setIfInBounds_toArray, List.set_cons_zero, List.set_cons_succ, List.getElem_toArray, List.getElem_cons_succ, List.getElem_cons_zero]
        refine tk 2 (by assumption) rfl (by kernel_rfl) (fun _ _ _ h => h) (fun V hV => by go_simp; try with_reducible rfl) ?_
        try simp only [Act.put, List.setIfInBounds_toArray, List.set_cons_zero, List.set_cons_succ, List.getElem_toArray, List.getElem_cons_succ, List.getElem_cons_zero]
        refine tk 3 (by assumption) rfl (by kernel_rfl) (fun _ _ _ h => h) (fun V hV => by go_simp; try with_reducible rfl) ?_
        try simp only [Act.put, List.setIfInBounds_toArray, List.set_cons_zero, List.set_cons_succ, List.getElem_toArray, List.getElem_cons_succ, List.getElem_cons_zero]
        refine tk 4 (by assumption) rfl (by kernel_rfl) (fun _ _ _ h => h) (fun V hV => by obtain ⟨hx0, hx1, hx2⟩ := hV; go_simp; try with_reducible rfl) ?_
        try simp only [Act.put, List.setIfInBounds_toArray, List.set_cons_zero, List.set_cons_succ, List.getElem_toArray, List.getElem_cons_succ, List.getElem_cons_zero]
        refine tk 5 (by assumption) rfl (by kernel_rfl) (fun _ _ _ h => h) (fun V hV => by go_simp; try with_reducible rfl) ?_
        try simp only [Act.put, List.setIfInBounds_toArray, List.set_cons_zero, List.set_cons_succ, List.getElem_toArray, List.getElem_cons_succ, List.getElem_cons_zero]
        refine tk 6 (by assumption) rfl (by kernel_rfl) (fun _ _ _ h => h) (fun V hV => by go_simp; try with_reducible rfl) ?_
        try simp only [Act.put, List.setIfInBounds_toArray, List.set_cons_zero, List.set_cons_succ, List.getElem_toArray, List.getElem_cons_succ, List.getElem_cons_zero]
        refine tk 7 (by assumption) rfl (by kernel_rfl) (fun _ _ _ h => h) (fun V hV => by go_simp; try with_reducible rfl) ?_
        try simp only [Act.put, List.setIfInBounds_toArray, List.set_cons_zero, List.set_cons_succ, List.getElem_toArray, List.getElem_cons_succ, List.getElem_cons_zero]
        refine tk 8 (by assumption) rfl (by kernel_rfl) (fun _ _ _ h => h) (fun V hV => by obtain ⟨hx0, hx1, hx2⟩ := hV; go_simp; try with_reducible rfl) ?_
        try simp only [Act.put, List.setIfInBounds_toArray, List.set_cons_zero, List.set_cons_succ, List.getElem_toArray, List.getElem_cons_succ, List.getElem_cons_zero]
        refine tk 9 (by assumption) rfl (by kernel_rfl) (fun _ _ _ h => h) (fun V hV => by obtain ⟨hx0, hx1, hx2⟩ := hV; go_simp; try with_reducible rfl) ?_
        try simp only [Act.put, List.setIfInBounds_toArray, List.set_cons_zero, List.set_cons_succ, List.getElem_toArray, List.getElem_cons_succ, List.getElem_cons_zero]
        refine tk 10 (by assumption) rfl (by kernel_rfl) (fun _ _ _ h => h) (fun V hV => by go_simp; try with_reducible rfl) ?_
        try simp only [Act.put, List.setIfInBounds_toArray, List.set_cons_zero, List.set_cons_succ, List.getElem_toArray, List.getElem_cons_succ, List.getElem_cons_zero]
        refine tk 11 (by assumption) rfl (by kernel_rfl) (fun _ _ _ h => h) (fun V hV => by go_simp; try with_reducible rfl) ?_
        try simp only [Act.put, List.setIfInBounds_toArray, List.set_cons_zero, List.set_cons_succ, List.getElem_toArray, List.getElem_cons_succ, List.getElem_cons_zero]
        refine tk 12 (by assumption) rfl (by kernel_rfl) (fun _ _ _ h => h) (fun V hV => by obtain ⟨hx0, hx1, hx2⟩ := hV; go_simp; try with_reducible rfl) ?_
        try simp only [Act.put, List.setIfInBounds_toArray, List.set_cons_zero, List.set_cons_succ, List.getElem_toArray, List.getElem_cons_succ, List.getElem_cons_zero]
        refine tk 13 (by assumption) rfl (by kernel_rfl) (fun _ _ _ h => h) (fun V hV => by go_simp; try with_reducible rfl) ?_
        try simp only [Act.put, List.setIfInBounds_toArray, List.set_cons_zero, List.set_cons_succ, List.getElem_toArray, List.getElem_cons_succ, List.getElem_cons_zero]
        refine tk 14 (by assumption) rfl (by kernel_rfl) (fun _ _ _ h => h) (fun V hV => by go_simp; try with_reducible rfl) ?_
        try simp only [Act.put, List.setIfInBounds_toArray, List.set_cons_zero, List.set_cons_succ, List.getElem_toArray, List.getElem_cons_succ, List.getElem_cons_zero]
        refine tk 15 (by assumption) rfl (by kernel_rfl) (fun _ _ _ h => h) (fun V hV => by go_simp; try with_reducible rfl) ?_
        try simp only [Act.put, List.setIfInBounds_toArray, List.set_cons_zero, List.set_cons_succ, List.getElem_toArray, List.getElem_cons_succ, List.getElem_cons_zero]
        refine tk 16 (by assumption) rfl (by kernel_rfl) (fun _ _ _ h => h) (fun V hV => by obtain ⟨hx0, hx1, hx2⟩ := hV; go_simp; try with_reducible rfl) ?_
        try simp only [Act.put, List.setIfInBounds_toArray, List.set_cons_zero, List.set_cons_succ, List.getElem_toArray, List.getElem_cons_succ, List.getElem_cons_zero]
        refine wpAnyH_ready (rs := [17]) (by kernel_rfl) (by simp) ?_
        refine AllReadyH.cons (o := _) rfl (fun K hK => ?_) AllReadyH.nil
        go_simp
        refine (HDK.out V0 C0.out).mono ?_
        rintro e V1 ⟨c, cv, rfl, hoc, hdc, hb1, hsm, hnz⟩
        have B1 := Lib.hid (gNx B0.out hb1)
        have C1 := Lib.hid (gNx C0.out hb1)
        obtain ⟨cg, cc, hve, hcc⟩ := row_cells2 hoc hdc.1 HN.out.1
        have HCX := Lib.hid (HNK.out c cg cc V1 C1.out hsm hcc)
        rw [hnz] at HCX
        subst hve
        clear hoc hdc hb1 hcc hsm hnz
        go_wp2_with fail
        refine hK.out _ _ (HSS.out _ C1.out) (fun hH => ?_)
        clear hK K
        try simp only [Act.put, List.setIfInBounds_toArray, List.set_cons_zero, List.set_cons_succ, List.getElem_toArray, List.getElem_cons_succ, List.getElem_cons_zero]
        refine wpAnyH_ready (rs := [18]) (by kernel_rfl) (by simp) ?_
        refine AllReadyH.cons (o := _) rfl (fun K hK => ?_) AllReadyH.nil
        go_simp
        refine HCX.out.mono ?_
        rintro e V2 ⟨rfl, hb2⟩
        have B2 := Lib.hid (gNx B1.out hb2)
        have C2 := Lib.hid (gNx C1.out hb2)
        clear hb2
        go_wp2_with fail
        refine hK.out _ _ (HSS.out _ C2.out) (fun hH => ?_)
        clear hK K
        try simp only [Act.put, List.setIfInBounds_toArray, List.set_cons_zero, List.set_cons_succ, List.getElem_toArray, List.getElem_cons_succ, List.getElem_cons_zero]
        refine wpAnyH_ready (rs := [19]) (by kernel_rfl) (by simp) ?_
        refine AllReadyH.cons (o := _) rfl (fun K hK => ?_) AllReadyH.nil
        go_simp
        obtain ⟨V3, hV3⟩ : ∃ V3, V3 = V2.alloc (.cells #[.int .i64 (fo (dd D k) : Int)] 3) := ⟨_, rfl⟩
        rw [← hV3]
        have B3 : Hid (Below wo.heap.size wo V3) := Lib.hid (by rw [hV3]; exact gNx B2.out (gAl _ _))
        have C3 : Hid (Below W1.heap.size W1 V3) := Lib.hid (by rw [hV3]; exact gNx C2.out (gAl _ _))
        have HV3 : Hid (V3.heap[V2.heap.size]? = some (.cells #[.int .i64 (fo (dd D k) : Int)] 3 (0, 0))) := Lib.hid (by rw [hV3]; exact heap_alloc_new V2 _)
        clear hV3
        refine hK.out _ _ (HSS.out _ C3.out) (fun hH => ?_)
        clear hK K
        try simp only [Act.put, List.setIfInBounds_toArray, List.set_cons_zero, List.set_cons_succ, List.getElem_toArray, List.getElem_cons_succ, List.getElem_cons_zero]
        refine wpAnyH_ready (rs := [20]) (by kernel_rfl) (by simp) ?_
        refine AllReadyH.cons (o := _) rfl (fun K hK => ?_) AllReadyH.nil
        have hbase : w2.heap.size ≤ V3.heap.size := Nat.le_trans HBE.out.size B3.out.size
        obtain ⟨v2, W2, hrun, hrow, hkq⟩ := own_app (P := Try.prog) (vb := V2.heap.size) (vs := [.int .i64 (fo (dd D k) : Int)]) Try.underlying34 inInfo rfl (HOW.out.below B3.out) hbase HV3.out rfl (by intro v hv; rw [List.mem_singleton] at hv; rw [hv]; rfl) (by have := HK1.out.2.2.2.2; omega) (by have := HK1.out.2.2.2.2; omega)
        obtain ⟨va2, vc2, rfl⟩ := hrow.slice
        have HRW : Hid (Own W2 w2.heap.size 3 1 (.slice va2 (k + 1) vc2) (k + 1) ((List.range (k + 1)).map (nF D))) := Lib.hid (by rw [nF_succ]; exact hrow)
        have HBB : Hid (Below w2.heap.size w2 W2) := Lib.hid ((gNx HBE.out B3.out).trans (Kq.below2 hkq (HOW.out.below B3.out) hbase))
        have HR := Lib.hid hrun
        clear hrun hrow hkq hbase
        refine step_append_r rfl _ _ 34 34 rfl (.slice al k cl) (.slice (some ⟨V2.heap.size, 0, none⟩) 1 1) (by simp [Act.eval, Act.put]) (by simp [Act.eval, Act.put]) (HR.out _) ?_
        refine hK.out _ _ (HSS.out _ (gNx HB2.out HBB.out)) (fun hH => ?_)
        clear hK K HR
        try simp only [Act.put, List.setIfInBounds_toArray, List.set_cons_zero, List.set_cons_succ, List.getElem_toArray, List.getElem_cons_succ, List.getElem_cons_zero]
        refine tk 21 (by assumption) rfl (by kernel_rfl) (fun _ _ _ h => h) (fun V hV => by go_simp; try with_reducible rfl) ?_
        try simp only [Act.put, List.setIfInBounds_toArray, List.set_cons_zero, List.set_cons_succ, List.getElem_toArray, List.getElem_cons_succ, List.getElem_cons_zero]
        refine wpAnyH_done (by kernel_rfl) ?_ _
        go_wp2_with fail
        refine ⟨⟨k + 1, congrArg (Value.int .i64) HK1.out.2.2.2.1, HK1.out.1, HRW.out, HBB.out⟩, ?_⟩
        show G.nodes.length - ((k : Int) + 1).toNat < G.nodes.length - (k : Int).toNat
        rw [HK1.out.2.2.1]
        exact HK1.out.2.1
      · have hnk : ¬ (k : Int) < (G.nodes.length : Int) := by omega
        have hke : k = G.nodes.length := by omega
        rw [hke] at ho
        have HOW := Lib.hid (ho.mono (gNx HB1.out HB2.out).size)
        have HBW := Lib.hid (gNx HB1.out HB3.out)
        clear ho hbel hke hlt hk
        go_wp2_with fail
        refine bodyPost_ret (v := .tuple #[u9, .int .i64 0]) (by simp [results, Try.results16, go_sem]) rfl ?_
        exact Or.inr ⟨rfl, u9, rfl, HOW.out, HBW.out⟩
  · have HNE := Lib.hid hE
    have hz2 : (E != 0) = true := by simpa using hE
    clear hE
    go_wp2_with fail
    refine bodyPost_ret (v := .tuple #[.slice none 0 0, .int .i64 E]) (by simp [results, Try.results16, go_sem]) rfl ?_
    exact Or.inl ⟨HNE.out, rfl, gNx HB1.out HB2.out⟩
theorem ints_none2 (w : World) : Calls Try.prog 17 #[.slice none 0 0, .slice none 0 0] w fun e w' => e = .returned (.bool true) ∧ Below w.heap.size w w' :=
  ints_same w.heap.size w.heap.size _ _ (fun _ => 0) 0 w (Or.inl ⟨rfl, rfl, none, rfl⟩) (Or.inl ⟨rfl, rfl, none, rfl⟩) (by omega)
set_option maxHeartbeats 8000000 in
theorem law_pnexts (G : Gr) (na : Option Addr) (nc : Nat) (la : Option Addr) (lc : Nat) (max : Nat) (fr : Int) (w : World) (hin : GrIn w G na la) (hm : max < 2 ^ 64) (_ : (Lit.int .i64 fr).wf = true) :
    Calls Try.prog 4 #[.agg #[.slice na G.nodes.length nc, .slice la G.links.length lc], .float .f64 max, .int .i64 fr] w fun e w' => e = .returned (.bool true) ∧ Below w.heap.size w w' := by
  obtain ⟨W1, hW1⟩ : ∃ W1, W1 = w.alloc (.cells #[.slice na G.nodes.length nc, .slice la G.links.length lc] 25) := ⟨_, rfl⟩
  have b1 : Below w.heap.size w W1 := by rw [hW1]; exact gAl _ _
  have s1 : w.heap.size < W1.heap.size := by rw [hW1]; simp
  have r1 : W1.heap[w.heap.size]? = some (.cells #[.slice na G.nodes.length nc, .slice la G.links.length lc] 25 (0, 0)) := by rw [hW1]; exact heap_alloc_new w _
  have HKG : Hid (∀ V, Below W1.heap.size W1 V → V.cell? ⟨w.heap.size, 0, none⟩ = some (.slice na G.nodes.length nc) ∧ V.cell? ⟨w.heap.size, 1, none⟩ = some (.slice la G.links.length lc)) := Lib.hid (fun V hV => by
    have := two_cells ((hV.block _ s1).trans r1)
    exact ⟨this.1, this.2.1⟩)
  have HB1 := Lib.hid b1
  have HP := Lib.hid (pNexts_any G na nc la lc max fr W1 (hin.below b1) hm)
  have HR := Lib.hid (fun V (hV : Below W1.heap.size W1 V) D hD => rNexts_any G na nc la lc max fr D V ((hin.below b1).below hV) hm hD)
  have HNL : Hid (askE G max [fr] = 0 → G.nodes.length ≤ 256) := Lib.hid (fun h => (check_zero.1 (askE_zero h).2.1).1)
  have HAW := Lib.hid pAwake_any
  obtain ⟨g0, g1⟩ := HKG.out W1 (Below.refl _ _)
  generalize askE G max [fr] = E at *
  generalize Nq.ahead G.nodes fr = s at *
  generalize qn max = lim at *
  clear hin hm b1 s1 r1
  go_enter Try.func4, Try.ntmps4
  go_upto_region 1 with (fail)
  rw [← hW1]
  clear hW1
  go_wp2_with fail
  refine HP.out.mono ?_
  rintro e w2 (⟨hne, rfl, hb2⟩ | ⟨hE, D, v, rfl, ho, hsp, hb2⟩)
  · have HB2 := Lib.hid hb2
    have HNE := Lib.hid hne
    clear hb2 hne g0 g1
    obtain ⟨g0, g1⟩ := HKG.out w2 HB2.out
    go_wp2_with fail
    refine (HR.out w2 HB2.out [] (fun h => absurd h HNE.out)).mono ?_
    rintro e w3 (⟨-, rfl, hb3⟩ | ⟨hE, -⟩)
    case inr => exact absurd hE HNE.out
    have HB3 := Lib.hid (gNx HB1.out (gNx HB2.out hb3))
    clear hb3 g0 g1
    go_wp2_with fail
    refine (ints_none2 w3).mono ?_
    rintro e w4 ⟨rfl, hb4⟩
    have HB4 := Lib.hid (gNx HB3.out hb4)
    clear hb4
    go_wp2_with fail
    refine (HAW.out w4).mono ?_
    rintro e w5 ⟨rfl, hb5⟩
    have HB5 := Lib.hid (gNx HB4.out hb5)
    clear hb5
    go_wp2_with fail
    go_ret
    exact ⟨rfl, HB5.out⟩
  · subst hE
    have HB2 := Lib.hid hb2
    have HO := Lib.hid ho
    have HSP := Lib.hid hsp
    have HN := Lib.hid (HNL.out rfl)
    clear hb2 ho hsp g0 g1
    obtain ⟨g0, g1⟩ := HKG.out w2 HB2.out
    obtain ⟨av, cv, hva⟩ := HO.out.slice
    subst hva
    go_wp2_with fail
    refine (HR.out w2 HB2.out D (fun _ => HSP.out)).mono ?_
    rintro e w3 (⟨hne, -⟩ | ⟨-, v2, rfl, ho2, hb3⟩)
    case inl => exact absurd rfl hne
    have HFS := Lib.hid (ints_same _ _ _ v2 (fun i => (fo (dd D i) : Int)) G.nodes.length w3 (HO.out.below hb3) ho2 (by have := HN.out; omega))
    have HB3 := Lib.hid (gNx HB1.out (gNx HB2.out hb3))
    obtain ⟨av2, cv2, rfl⟩ := ho2.slice
    clear ho2 hb3 g0 g1
    go_wp2_with fail
    refine HFS.out.mono ?_
    rintro e w4 ⟨rfl, hb4⟩
    have HB4 := Lib.hid (gNx HB3.out hb4)
    clear hb4
    go_wp2_with fail
    refine (HAW.out w4).mono ?_
    rintro e w5 ⟨rfl, hb5⟩
    have HB5 := Lib.hid (gNx HB4.out hb5)
    clear hb5
    go_wp2_with fail
    go_ret
    exact ⟨rfl, HB5.out⟩
end Go.Proofs.Ytcmknkdfoebniaa
