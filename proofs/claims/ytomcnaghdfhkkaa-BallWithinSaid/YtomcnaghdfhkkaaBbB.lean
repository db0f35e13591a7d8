/- Balls: the document's Homes, SameHomes; the law of homes. -/
import Derived.Test.YtomcnaghdfhkkaaBbA
import Derived.Test.YtomcnaghdfhkkaaNgW
namespace Go.Proofs.Ytomcnaghdfhkkaa
open Go.RowKit Go.Lib Go.Fq Go.Pq Go.Iq Go.Nq Go.Ow Go.Bq
set_option linter.unusedVariables false
set_option linter.unusedSimpArgs false
set_option maxRecDepth 100000

noncomputable def hmN (G : Gr) (lim : Nat) (m : Nd) : List Value := [.int .i64 m.id, .int .i64 (homeI G lim m.id).1, .float .f64 (dw (homeI G lim m.id).2)]
noncomputable def hmR (G : Gr) (lim : Nat) (l : List Nd) : List Value := l.flatMap (hmN G lim)
theorem hm_range {H : Gr} (hz : checkG H = 0) (lim : Nat) : ∀ k, k ≤ H.nodes.length → hmRow H lim k = hmR H lim (H.nodes.take k) := by
  intro k
  induction k with
  | zero => intro _; simp [hmRow, hmR]
  | succ k ih =>
    intro hk
    rw [hmRow_go, ih (by omega), List.take_succ_eq_append_getElem (by omega : k < H.nodes.length)]
    unfold hmR
    rw [List.flatMap_append, List.flatMap_singleton]
    congr 1
    unfold hmC hmN
    rw [(idf_is (check_zero.1 hz).2.2.1 (by omega : k < H.nodes.length)).1]
theorem hm_live {G : Gr} (hz : checkG G = 0) (hw : Wts G) (lim : Nat) : hmR G lim (G.nodes.filter (·.up)) = hmRow (liveG G) lim (liveG G).nodes.length := by
  rw [hm_range (live_keeps hz).1 lim _ (Nat.le_refl _), List.take_of_length_le (Nat.le_refl _)]
  show (G.nodes.filter (·.up)).flatMap _ = (G.nodes.filter (·.up)).flatMap _
  refine flat_congr' _ (fun m hm => ?_)
  obtain ⟨h1, h2⟩ := List.mem_filter.1 hm
  unfold hmN
  rw [home_live hz hw lim (mem_up h1 h2)]
theorem row_cells4 {w : World} {base n : Nat} {v : Value} {l : List (Option Nat)} (ho : Own w base 26 1 v n (dRow l)) (hl : l.length = n) (hn : 0 < n) : ∃ dg dc, v = .slice (some ⟨dg, 0, none⟩) n dc ∧ ∀ V, Below w.heap.size w V → ∀ i, i < n → V.cell? ⟨dg, i, none⟩ = some (.float .f64 (dw (g_ l i))) := by
  obtain ⟨dg, dc, rfl, -⟩ := own1_cell ho hn
  refine ⟨dg, dc, rfl, fun V hV i hi => ?_⟩
  obtain ⟨g', c', e1, e2⟩ := own1_cell (ho.below hV) hn
  simp only [Value.slice.injEq, Option.some.injEq, Addr.mk.injEq, and_true, true_and] at e1
  obtain ⟨rfl, rfl⟩ := e1
  exact e2 i hi _ (dRow_at (by rw [hl]; exact hi))
/-- Dists of a router of a graph that may be. -/
theorem rbDists_any (i max : Nat) (G : Gr) (na : Option Addr) (nc : Nat) (la : Option Addr) (lc : Nat) (w : World) (hin : GrIn w G na la) (hz : checkG G = 0) (hl : limitF max = 0) (hm : max < 2 ^ 64) (hi : i < G.nodes.length) :
    Calls Try.prog 22 #[.agg #[.slice na G.nodes.length nc, .slice la G.links.length lc], .float .f64 max, .int .i64 (idf G.nodes i : Int)] w fun e w' => ∃ b c, e = .returned (.tuple #[.slice (some ⟨b, 0, none⟩) G.nodes.length c, .int .i64 0]) ∧ Below w.heap.size w w' ∧ ∀ V, Below w'.heap.size w' V → ∀ j, j < G.nodes.length → V.cell? ⟨b, j, none⟩ = some (.float .f64 (dw (g_ (dst G (qn max) i) j))) := by
  have n3 := (check_zero.1 hz).2.2.1
  obtain ⟨a1, a2⟩ := aheadOf n3 hi
  have hE : askE G max [(idf G.nodes i : Int)] = 0 := askE_ok hl hz (by simp [a1])
  have hp := rDists_any G na nc la lc max (idf G.nodes i : Int) w hin hm
  rw [hE, a2] at hp
  refine hp.mono ?_
  rintro e w' (⟨hne, -⟩ | ⟨-, l, v, rfl, ho, hdp, hb⟩)
  · exact absurd rfl hne
  have hll := dst_is hz hin.wts hdp
  subst hll
  obtain ⟨dg, dc, rfl, hc⟩ := row_cells4 ho (dst_len hz hin.wts _ _) (by omega)
  exact ⟨dg, dc, rfl, hb, hc⟩
def HsS (V : World) (gb : Nat) (na la : Option Addr) (nc n lc m b o k : Nat) (y : Int) : Prop := V.cell? ⟨gb, 0, none⟩ = some (.slice na n nc) ∧ V.cell? ⟨gb, 1, none⟩ = some (.slice la m lc) ∧ V.cell? ⟨b, o + k * 3, none⟩ = some (.int .i64 y)
set_option maxHeartbeats 16000000 in
theorem rbHomes_any (max : Nat) (G : Gr) (na : Option Addr) (nc : Nat) (la : Option Addr) (lc : Nat) (w : World) (hin : GrIn w G na la) (hm : max < 2 ^ 64) :
    Calls Try.prog 19 #[.agg #[.slice na G.nodes.length nc, .slice la G.links.length lc], .float .f64 max] w fun e w' => HomesEnds w G max e w' := by
  obtain ⟨W1, hW1⟩ : ∃ W1, W1 = w.alloc (.cells #[.slice na G.nodes.length nc, .slice la G.links.length lc] 25) := ⟨_, rfl⟩
  have b1 : Below w.heap.size w W1 := by rw [hW1]; exact gAl _ _
  have s1 : w.heap.size < W1.heap.size := by rw [hW1]; simp
  have r1 : W1.heap[w.heap.size]? = some (.cells #[.slice na G.nodes.length nc, .slice la G.links.length lc] 25 (0, 0)) := by rw [hW1]; exact heap_alloc_new w _
  obtain ⟨gb, hgb⟩ : ∃ gb, gb = w.heap.size := ⟨_, rfl⟩
  rw [← hgb] at r1 s1
  have HKG : Hid (∀ V, Below W1.heap.size W1 V → V.cell? ⟨gb, 0, none⟩ = some (.slice na G.nodes.length nc) ∧ V.cell? ⟨gb, 1, none⟩ = some (.slice la G.links.length lc)) := Lib.hid (fun V hV => by
    have := two_cells ((hV.block _ s1).trans r1)
    exact ⟨this.1, this.2.1⟩)
  have HB1 := Lib.hid b1
  have HIN : Hid (∀ V, Below W1.heap.size W1 V → GrIn V G na la) := Lib.hid (fun V hV => (hin.below b1).below hV)
  have HAK := Lib.hid (rbAsked_any G na nc la lc max W1 (hin.below b1) hm)
  have HMX := Lib.hid hm
  have HWT : Hid (Wts G) := Lib.hid hin.wts
  obtain ⟨g0, g1⟩ := HKG.out W1 (Below.refl _ _)
  have HWS : Hid (W1 = w.alloc (.cells #[.slice na G.nodes.length nc, .slice la G.links.length lc] 25) ∧ w.heap.size = gb) := Lib.hid ⟨hW1, hgb.symm⟩
  clear hin b1 s1 r1 hm hW1 hgb
  by_cases hE : ballE G max = 0
  case neg =>
    have HNE := Lib.hid hE
    obtain ⟨E, hE2⟩ : ∃ E, E = ballE G max := ⟨_, rfl⟩
    have HEE := Lib.hid hE2
    have hz : (E != 0) = true := by rw [hE2]; simpa using hE
    rw [← hE2] at HAK
    clear hE hE2
    go_enter Try.func19, Try.ntmps19
    go_upto_region 1 with (fail)
    rw [← HWS.out.1, HWS.out.2]
    go_wp2_with fail
    refine HAK.out.mono ?_
    rintro e w2 ⟨rfl, hb2⟩
    have HB2 := Lib.hid (gNx HB1.out hb2)
    clear hb2 g0 g1
    go_wp2_with fail
    refine bodyPost_ret (v := .tuple #[.slice none 0 0, .int .i64 E]) (by simp [results, Try.results19, go_sem]) rfl ?_
    exact ⟨HB2.out, Or.inl ⟨HNE.out, by rw [HEE.out]⟩⟩
  case pos =>
    obtain ⟨hz, hl⟩ := ballE_zero.1 hE
    have HZ := Lib.hid hz
    have HL := Lib.hid hl
    have HE := Lib.hid hE
    have HQN : Hid (qn max ≤ 4294967296) := Lib.hid (by
      obtain ⟨lim, l1, l2, l3⟩ := limit_q max HMX.out hl
      rw [l3, qn_qw (by omega)]; exact l2)
    have HNL : Hid (G.nodes.length ≤ 256) := Lib.hid (check_zero.1 hz).1
    have HID : Hid (∀ k (hk : k < G.nodes.length), G.nodes[k].id = (idf G.nodes k : Int) ∧ Nq.ahead G.nodes (idf G.nodes k : Int) = k) := Lib.hid (fun k hk => ⟨(idf_is (check_zero.1 hz).2.2.1 hk).1, (aheadOf (check_zero.1 hz).2.2.1 hk).2⟩)
    rw [hE] at HAK
    clear hz hl hE
    go_enter Try.func19, Try.ntmps19
    go_upto_region 1 with (fail)
    rw [← HWS.out.1, HWS.out.2]
    go_wp2_with fail
    refine HAK.out.mono ?_
    rintro e w2 ⟨rfl, hb2⟩
    have HB2 := Lib.hid hb2
    clear hb2 g0 g1
    go_wp2_with fail
    go_loopw [8, 7] (fun i v wr => ∃ k : Nat, i = .int .i64 (k : Int) ∧ k ≤ G.nodes.length ∧ Own wr W1.heap.size 54 3 v ((G.nodes.take k).filter (fun n : Nd => n.up)).length (hmR G (qn max) ((G.nodes.take k).filter (fun n : Nd => n.up))) ∧ Below W1.heap.size W1 wr) (fun i _ _ => G.nodes.length - (RowKit.intOf i).toNat)
    case atStart => exact ⟨0, rfl, Nat.zero_le _, Or.inl ⟨rfl, rfl, _, rfl⟩, gNx HB2.out (gAl _ _)⟩
    case round =>
      obtain ⟨k, rfl, hk, ho, hbx⟩ := hrel
      obtain ⟨wo, hwo⟩ : ∃ wo, wo = wr := ⟨_, rfl⟩
      subst hwo
      have HOW := Lib.hid ho
      have HXW := Lib.hid hbx
      obtain ⟨al, cl, rfl⟩ := ho.slice
      obtain ⟨g0, g1⟩ := HKG.out wo hbx
      by_cases hlt : k < G.nodes.length
      · have hlti : (k : Int) < (G.nodes.length : Int) := by omega
        have hk0 : (0 : Int) ≤ (k : Int) := by omega
        have hkw : IntKind.i64.wrap ((k : Int) + 1) = (k : Int) + 1 := by rw [IntKind.wrap_i64]; have := HNL.out; omega
        have HK1 : Hid (k + 1 ≤ G.nodes.length ∧ G.nodes.length - (k + 1) < G.nodes.length - k ∧ ((k : Int) + 1).toNat = k + 1 ∧ (k : Int) + 1 = ((k + 1 : Nat) : Int)) := Lib.hid ⟨by omega, by omega, by omega, by omega⟩
        obtain ⟨b, o, hna, hbb, hnc⟩ := (HIN.out W1 (Below.refl _ _)).nodes.at k hlt
        obtain ⟨n0, n1, -⟩ := hnc k hlt
        have n1' : wo.cell? ⟨b, o + k * 3 + 1, none⟩ = some (.bool G.nodes[k].up) := (hbx.cell (p := ⟨b, o + k * 3 + 1, none⟩) hbb).trans n1
        rw [(HID.out k hlt).1] at n0
        have HFI := Lib.hid (filter_go (fun n : Nd => n.up) G.nodes k hlt)
        have HFL : Hid (((G.nodes.take k).filter (fun n : Nd => n.up)).length ≤ 256) := Lib.hid (by have := filter_le (fun n : Nd => n.up) G.nodes k; have := HNL.out; omega)
        have HSS : Hid (∀ V, Below W1.heap.size W1 V → HsS V gb na la nc G.nodes.length lc G.links.length b o k (idf G.nodes k : Int)) := Lib.hid (fun V hV => ⟨(HKG.out V hV).1, (HKG.out V hV).2, (hV.cell (p := ⟨b, o + k * 3, none⟩) hbb).trans n0⟩)
        have HDS := Lib.hid (fun V (hV : Below W1.heap.size W1 V) => rbDists_any k max G na nc la lc V (HIN.out V hV) HZ.out HL.out HMX.out hlt)
        have HHO := Lib.hid (fun dg dc V (hV : Below W1.heap.size W1 V) hd => rbHome_any (idf G.nodes k : Int) max dg dc G na nc la lc V (HIN.out V hV) HZ.out HQN.out hd)
        rw [(HID.out k hlt).2] at HHO
        have HHN : Hid (hmN G (qn max) G.nodes[k] = [.int .i64 (idf G.nodes k : Int), .int .i64 (homeI G (qn max) (idf G.nodes k : Int)).1, .float .f64 (dw (homeI G (qn max) (idf G.nodes k : Int)).2)]) := Lib.hid (by unfold hmN; rw [(HID.out k hlt).1])
        subst hna
        clear ho hbx hnc n0 n1 hbb hk
        generalize (G.nodes.take k).filter (fun n : Nd => n.up) = FL at *
        generalize G.nodes[k] = nd at *
        obtain ⟨ndi, ndu, ndm⟩ := nd
        simp only at n1' HFI
        clear hlt
        obtain ⟨y, hy⟩ : ∃ y, y = (idf G.nodes k : Int) := ⟨_, rfl⟩
        rw [← hy] at HSS HDS HHO HHN
        clear hy
        cases ndu with
        | false =>
          have HX := Lib.hid (HFI.out.trans (if_neg Bool.false_ne_true))
          clear HFI
          go_wp2_with fail
          refine ⟨⟨k + 1, congrArg (Value.int .i64) HK1.out.2.2.2, HK1.out.1, by rw [HX.out]; exact HOW.out, HXW.out⟩, ?_⟩
          show G.nodes.length - ((k : Int) + 1).toNat < G.nodes.length - (k : Int).toNat
          rw [HK1.out.2.2.1]
          exact HK1.out.2.1
        | true =>
          have HX := Lib.hid (HFI.out.trans (if_pos rfl))
          clear HFI
          go_upto_region 9 with (fail)
          clear g0 g1 n1'
          refine wp_region_held_drew (S := fun V => HsS V gb (some ⟨b, o, none⟩) la nc G.nodes.length lc G.links.length b o k y) (by kernel_rfl) (HSS.out _ (Below.drew HXW.out)) (fun hH => ?_)
          have hs0 := HSS.out _ (Below.drew HXW.out)
          have C0 : Hid (Below W1.heap.size W1 wo.drew) := Lib.hid (Below.drew HXW.out)
          have D0 : Hid (Below wo.heap.size wo wo.drew) := Lib.hid (Below.drew (Below.refl _ _))
          generalize wo.drew = V0 at *
          refine tk 0 (by assumption) rfl (by kernel_rfl) (fun _ _ _ h => h) (fun V hV => by obtain ⟨hx0, hx1, hx2⟩ := hV; go_simp; try with_reducible rfl) ?_
          try simp only [Act.put, List.setIfInBounds_toArray, List.set_cons_zero, List.set_cons_succ, List.getElem_toArray, List.getElem_cons_succ, List.getElem_cons_zero]
          refine tk 1 (by assumption) rfl (by kernel_rfl) (fun _ _ _ h => h) (fun V hV => by go_simp; try with_reducible rfl) ?_
          try simp only [Act.put, List.setIfInBounds_toArray, List.set_cons_zero, List.set_cons_succ, List.getElem_toArray, List.getElem_cons_succ, List.getElem_cons_zero]
          refine tk 2 (by assumption) rfl (by kernel_rfl) (fun _ _ _ h => h) (fun V hV => by go_simp; try with_reducible rfl) ?_
          try simp only [Act.put, List.setIfInBounds_toArray, List.set_cons_zero, List.set_cons_succ, List.getElem_toArray, List.getElem_cons_succ, List.getElem_cons_zero]
          refine tk 3 (by assumption) rfl (by kernel_rfl) (fun _ _ _ h => h) (fun V hV => by obtain ⟨hx0, hx1, hx2⟩ := hV; go_simp; try with_reducible rfl) ?_
          try simp only [Act.put, List.setIfInBounds_toArray, List.set_cons_zero, List.set_cons_succ, List.getElem_toArray, List.getElem_cons_succ, List.getElem_cons_zero]
          refine tk 4 (by assumption) rfl (by kernel_rfl) (fun _ _ _ h => h) (fun V hV => by go_simp; try with_reducible rfl) ?_
          try simp only [Act.put, List.setIfInBounds_toArray, List.set_cons_zero, List.set_cons_succ, List.getElem_toArray, List.getElem_cons_succ, List.getElem_cons_zero]
          refine tk 5 (by assumption) rfl (by kernel_rfl) (fun _ _ _ h => h) (fun V hV => by go_simp; try with_reducible rfl) ?_
          try simp only [Act.put, List.setIfInBounds_toArray, List.set_cons_zero, List.set_cons_succ, List.getElem_toArray, List.getElem_cons_succ, List.getElem_cons_zero]
          refine tk 6 (by assumption) rfl (by kernel_rfl) (fun _ _ _ h => h) (fun V hV => by go_simp; try with_reducible rfl) ?_
          try simp only [Act.put, List.setIfInBounds_toArray, List.set_cons_zero, List.set_cons_succ, List.getElem_toArray, List.getElem_cons_succ, List.getElem_cons_zero]
          refine tk 7 (by assumption) rfl (by kernel_rfl) (fun _ _ _ h => h) (fun V hV => by obtain ⟨hx0, hx1, hx2⟩ := hV; go_simp; try with_reducible rfl) ?_
          try simp only [Act.put, List.setIfInBounds_toArray, List.set_cons_zero, List.set_cons_succ, List.getElem_toArray, List.getElem_cons_succ, List.getElem_cons_zero]
          refine wpAnyH_ready (rs := [8]) (by kernel_rfl) (by simp) ?_
          refine AllReadyH.cons (o := _) rfl (fun K hK => ?_) AllReadyH.nil
          go_simp
          refine (HDS.out V0 C0.out).mono ?_
          rintro e V1 ⟨dg, dc, rfl, hb1, hdc⟩
          have C1 : Hid (Below W1.heap.size W1 V1) := Lib.hid (gNx C0.out hb1)
          have D1 : Hid (Below wo.heap.size wo V1) := Lib.hid (gNx D0.out hb1)
          have HDC := Lib.hid hdc
          clear hb1 hdc
          go_wp2_with fail
          refine hK.out _ _ (HSS.out _ C1.out) (fun hH => ?_)
          clear hK K
          try simp only [Act.put, List.setIfInBounds_toArray, List.set_cons_zero, List.set_cons_succ, List.getElem_toArray, List.getElem_cons_succ, List.getElem_cons_zero]
          refine tk 9 (by assumption) rfl (by kernel_rfl) (fun _ _ _ h => h) (fun V hV => by go_simp; try with_reducible rfl) ?_
          try simp only [Act.put, List.setIfInBounds_toArray, List.set_cons_zero, List.set_cons_succ, List.getElem_toArray, List.getElem_cons_succ, List.getElem_cons_zero]
          refine tk 10 (by assumption) rfl (by kernel_rfl) (fun _ _ _ h => h) (fun V hV => by go_simp; try with_reducible rfl) ?_
          try simp only [Act.put, List.setIfInBounds_toArray, List.set_cons_zero, List.set_cons_succ, List.getElem_toArray, List.getElem_cons_succ, List.getElem_cons_zero]
          refine tk 11 (by assumption) rfl (by kernel_rfl) (fun _ _ _ h => h) (fun V hV => by go_simp; try with_reducible rfl) ?_
          try simp only [Act.put, List.setIfInBounds_toArray, List.set_cons_zero, List.set_cons_succ, List.getElem_toArray, List.getElem_cons_succ, List.getElem_cons_zero]
          refine tk 12 (by assumption) rfl (by kernel_rfl) (fun _ _ _ h => h) (fun V hV => by go_simp; try with_reducible rfl) ?_
          try simp only [Act.put, List.setIfInBounds_toArray, List.set_cons_zero, List.set_cons_succ, List.getElem_toArray, List.getElem_cons_succ, List.getElem_cons_zero]
          refine tk 13 (by assumption) rfl (by kernel_rfl) (fun _ _ _ h => h) (fun V hV => by go_simp; try with_reducible rfl) ?_
          try simp only [Act.put, List.setIfInBounds_toArray, List.set_cons_zero, List.set_cons_succ, List.getElem_toArray, List.getElem_cons_succ, List.getElem_cons_zero]
          refine wpAnyH_done (by kernel_rfl) ?_ _
          clear hs0
          go_upto_region 10 with (fail)
          refine wp_region_held_drew (S := fun V => HsS V gb (some ⟨b, o, none⟩) la nc G.nodes.length lc G.links.length b o k y) (by kernel_rfl) (HSS.out _ (Below.drew C1.out)) (fun hH => ?_)
          have hs0 := HSS.out _ (Below.drew C1.out)
          have C2 : Hid (Below W1.heap.size W1 V1.drew) := Lib.hid (Below.drew C1.out)
          have D2 : Hid (Below wo.heap.size wo V1.drew) := Lib.hid (Below.drew D1.out)
          have E2 : Hid (Below V1.heap.size V1 V1.drew) := Lib.hid (Below.drew (Below.refl _ _))
          generalize V1.drew = V2 at *
          refine tk 0 (by assumption) rfl (by kernel_rfl) (fun _ _ _ h => h) (fun V hV => by go_simp; try with_reducible rfl) ?_
          try simp only [Act.put, List.setIfInBounds_toArray, List.set_cons_zero, List.set_cons_succ, List.getElem_toArray, List.getElem_cons_succ, List.getElem_cons_zero]
          refine tk 1 (by assumption) rfl (by kernel_rfl) (fun _ _ _ h => h) (fun V hV => by obtain ⟨hx0, hx1, hx2⟩ := hV; go_simp; try with_reducible rfl) ?_
          try simp only [Act.put, List.setIfInBounds_toArray, List.set_cons_zero, List.set_cons_succ, List.getElem_toArray, List.getElem_cons_succ, List.getElem_cons_zero]
          refine tk 2 (by assumption) rfl (by kernel_rfl) (fun _ _ _ h => h) (fun V hV => by go_simp; try with_reducible rfl) ?_
          try simp only [Act.put, List.setIfInBounds_toArray, List.set_cons_zero, List.set_cons_succ, List.getElem_toArray, List.getElem_cons_succ, List.getElem_cons_zero]
          refine tk 3 (by assumption) rfl (by kernel_rfl) (fun _ _ _ h => h) (fun V hV => by obtain ⟨hx0, hx1, hx2⟩ := hV; go_simp; try with_reducible rfl) ?_
          try simp only [Act.put, List.setIfInBounds_toArray, List.set_cons_zero, List.set_cons_succ, List.getElem_toArray, List.getElem_cons_succ, List.getElem_cons_zero]
          refine tk 4 (by assumption) rfl (by kernel_rfl) (fun _ _ _ h => h) (fun V hV => by go_simp; try with_reducible rfl) ?_
          try simp only [Act.put, List.setIfInBounds_toArray, List.set_cons_zero, List.set_cons_succ, List.getElem_toArray, List.getElem_cons_succ, List.getElem_cons_zero]
          refine tk 5 (by assumption) rfl (by kernel_rfl) (fun _ _ _ h => h) (fun V hV => by go_simp; try with_reducible rfl) ?_
          try simp only [Act.put, List.setIfInBounds_toArray, List.set_cons_zero, List.set_cons_succ, List.getElem_toArray, List.getElem_cons_succ, List.getElem_cons_zero]
          refine tk 6 (by assumption) rfl (by kernel_rfl) (fun _ _ _ h => h) (fun V hV => by go_simp; try with_reducible rfl) ?_
          try simp only [Act.put, List.setIfInBounds_toArray, List.set_cons_zero, List.set_cons_succ, List.getElem_toArray, List.getElem_cons_succ, List.getElem_cons_zero]
          refine tk 7 (by assumption) rfl (by kernel_rfl) (fun _ _ _ h => h) (fun V hV => by obtain ⟨hx0, hx1, hx2⟩ := hV; go_simp; try with_reducible rfl) ?_
          try simp only [Act.put, List.setIfInBounds_toArray, List.set_cons_zero, List.set_cons_succ, List.getElem_toArray, List.getElem_cons_succ, List.getElem_cons_zero]
          refine tk 8 (by assumption) rfl (by kernel_rfl) (fun _ _ _ h => h) (fun V hV => by go_simp; try with_reducible rfl) ?_
          try simp only [Act.put, List.setIfInBounds_toArray, List.set_cons_zero, List.set_cons_succ, List.getElem_toArray, List.getElem_cons_succ, List.getElem_cons_zero]
          refine wpAnyH_ready (rs := [9]) (by kernel_rfl) (by simp) ?_
          refine AllReadyH.cons (o := _) rfl (fun K hK => ?_) AllReadyH.nil
          go_simp
          refine (HHO.out dg dc V2 C2.out (fun V hV => HDC.out V (gNx E2.out hV))).mono ?_
          rintro e V3 ⟨rfl, hb3⟩
          have C3 : Hid (Below W1.heap.size W1 V3) := Lib.hid (gNx C2.out hb3)
          have D3 : Hid (Below wo.heap.size wo V3) := Lib.hid (gNx D2.out hb3)
          clear hb3
          obtain ⟨rh, hrh⟩ : ∃ rh, rh = (homeI G (qn max) y).1 := ⟨_, rfl⟩
          obtain ⟨rr, hrr⟩ : ∃ rr, rr = dw (homeI G (qn max) y).2 := ⟨_, rfl⟩
          rw [← hrh, ← hrr] at HHN ⊢
          clear hrh hrr
          go_wp2_with fail
          refine hK.out _ _ (HSS.out _ C3.out) (fun hH => ?_)
          clear hK K
          try simp only [Act.put, List.setIfInBounds_toArray, List.set_cons_zero, List.set_cons_succ, List.getElem_toArray, List.getElem_cons_succ, List.getElem_cons_zero]
          refine wpAnyH_ready (rs := [10]) (by kernel_rfl) (by simp) ?_
          refine AllReadyH.cons (o := _) rfl (fun K hK => ?_) AllReadyH.nil
          go_simp
          obtain ⟨V4, hV4⟩ : ∃ V4, V4 = V3.alloc (.cells #[.int .i64 y, .int .i64 rh, .float .f64 rr] 54) := ⟨_, rfl⟩
          rw [← hV4]
          have C4 : Hid (Below W1.heap.size W1 V4) := Lib.hid (by rw [hV4]; exact gNx C3.out (gAl _ _))
          have D4 : Hid (Below wo.heap.size wo V4) := Lib.hid (by rw [hV4]; exact gNx D3.out (gAl _ _))
          have HV4 : Hid (V4.heap[V3.heap.size]? = some (.cells #[.int .i64 y, .int .i64 rh, .float .f64 rr] 54 (0, 0))) := Lib.hid (by rw [hV4]; exact heap_alloc_new V3 _)
          clear hV4
          refine hK.out _ _ (HSS.out _ C4.out) (fun hH => ?_)
          clear hK K
          try simp only [Act.put, List.setIfInBounds_toArray, List.set_cons_zero, List.set_cons_succ, List.getElem_toArray, List.getElem_cons_succ, List.getElem_cons_zero]
          refine wpAnyH_ready (rs := [11]) (by kernel_rfl) (by simp) ?_
          refine AllReadyH.cons (o := _) rfl (fun K hK => ?_) AllReadyH.nil
          obtain ⟨v2, W5, hrun, hrow, hkq⟩ := own_app (P := Try.prog) (vb := V3.heap.size) (vs := [.int .i64 y, .int .i64 rh, .float .f64 rr]) Try.underlying45 hmInfo rfl (HOW.out.below D4.out) C4.out.size HV4.out rfl (by intro v hv; simp only [List.mem_cons, List.not_mem_nil, or_false] at hv; rcases hv with rfl | rfl | rfl <;> rfl) (by have := HFL.out; omega) (by have := HFL.out; omega)
          obtain ⟨va2, vc2, rfl⟩ := hrow.slice
          have HRW : Hid (Own W5 W1.heap.size 54 3 (.slice va2 (FL.length + 1) vc2) (FL ++ [(⟨ndi, true, ndm⟩ : Nd)]).length (hmR G (qn max) (FL ++ [(⟨ndi, true, ndm⟩ : Nd)]))) := Lib.hid (by
            have e1 : hmR G (qn max) (FL ++ [(⟨ndi, true, ndm⟩ : Nd)]) = hmR G (qn max) FL ++ [.int .i64 y, .int .i64 rh, .float .f64 rr] := by rw [← HHN.out]; unfold hmR; rw [List.flatMap_append, List.flatMap_singleton]
            rw [e1, List.length_append]; exact hrow)
          have HBB : Hid (Below W1.heap.size W1 W5) := Lib.hid (C4.out.trans (Kq.below2 hkq (HOW.out.below D4.out) C4.out.size))
          have HR2 := Lib.hid hrun
          clear hrun hrow hkq
          refine step_append_r rfl _ _ 45 45 rfl (.slice al FL.length cl) (.slice (some ⟨V3.heap.size, 0, none⟩) 1 1) (by simp [Act.eval, Act.put]) (by simp [Act.eval, Act.put]) (HR2.out _) ?_
          refine hK.out _ _ (HSS.out _ HBB.out) (fun hH => ?_)
          clear hK K HR2
          try simp only [Act.put, List.setIfInBounds_toArray, List.set_cons_zero, List.set_cons_succ, List.getElem_toArray, List.getElem_cons_succ, List.getElem_cons_zero]
          refine tk 12 (by assumption) rfl (by kernel_rfl) (fun _ _ _ h => h) (fun V hV => by go_simp; try with_reducible rfl) ?_
          try simp only [Act.put, List.setIfInBounds_toArray, List.set_cons_zero, List.set_cons_succ, List.getElem_toArray, List.getElem_cons_succ, List.getElem_cons_zero]
          refine wpAnyH_done (by kernel_rfl) ?_ _
          clear hs0
          go_wp2_with fail
          refine ⟨⟨k + 1, congrArg (Value.int .i64) HK1.out.2.2.2, HK1.out.1, by rw [HX.out]; exact HRW.out, HBB.out⟩, ?_⟩
          show G.nodes.length - ((k : Int) + 1).toNat < G.nodes.length - (k : Int).toNat
          rw [HK1.out.2.2.1]
          exact HK1.out.2.1
      · have hnk : ¬ (k : Int) < (G.nodes.length : Int) := by omega
        have htk : G.nodes.take k = G.nodes := List.take_of_length_le (by omega)
        rw [htk] at HOW ⊢
        have HO : Hid (Own wo w.heap.size 54 3 (.slice al (G.nodes.filter (fun n : Nd => n.up)).length cl) (liveG G).nodes.length (hmRow (liveG G) (qn max) (liveG G).nodes.length)) := Lib.hid (by
          rw [← hm_live HZ.out HWT.out (qn max)]
          exact HOW.out.mono HB1.out.size)
        have HBF := Lib.hid (gNx HB1.out HXW.out)
        clear hlt htk ho hbx hk HOW
        generalize (G.nodes.filter (fun n : Nd => n.up)).length = fl at *
        go_wp2_with fail
        refine bodyPost_ret (v := .tuple #[.slice al fl cl, .int .i64 0]) (by simp [results, Try.results19, go_sem]) rfl ?_
        exact ⟨HBF.out, Or.inr ⟨HE.out, _, rfl, HO.out⟩⟩
theorem same_self (a : Nat) (w : World) : Calls Try.prog 44 #[.float .f64 a, .float .f64 a] w fun e w' => e = .returned (.bool true) ∧ w' = w :=
  (same_any a a w).mono fun e w' h => ⟨by rw [h.1]; simp, h.2.symm⟩
set_option maxHeartbeats 8000000 in
theorem sameHomes_any (H : Gr) (lim g1 g2 c1 c2 : Nat) (w : World) (h1 : HmIn w H lim g1) (h2 : HmIn w H lim g2) (hn : H.nodes.length ≤ 256) :
    Calls Try.prog 20 #[.slice (some ⟨g1, 0, none⟩) H.nodes.length c1, .slice (some ⟨g2, 0, none⟩) H.nodes.length c2] w fun e w' => e = .returned (.bool true) ∧ Below w.heap.size w w' := by
  have H1 := Lib.hid (fun V (hV : Below w.heap.size w V) => h1.kept (hV.block g1 (by obtain ⟨cur, h, -⟩ := h1; exact (Array.getElem?_eq_some_iff.1 h).1)))
  have H2 := Lib.hid (fun V (hV : Below w.heap.size w V) => h2.kept (hV.block g2 (by obtain ⟨cur, h, -⟩ := h2; exact (Array.getElem?_eq_some_iff.1 h).1)))
  have HN := Lib.hid hn
  clear h1 h2 hn
  go_enter Try.func20, Try.ntmps20
  go_wp2_with fail
  go_loopw [5] (fun v wr => ∃ k : Nat, v = .int .i64 (k : Int) ∧ k ≤ H.nodes.length ∧ Below w.heap.size w wr) (fun v _ => H.nodes.length - (RowKit.intOf v).toNat)
  case atStart => exact ⟨0, rfl, Nat.zero_le _, Below.refl _ _⟩
  case round =>
    obtain ⟨k, rfl, hk, hbel⟩ := hrel
    have HBE := Lib.hid hbel
    by_cases hlt : k < H.nodes.length
    · have hlti : (k : Int) < (H.nodes.length : Int) := by omega
      have hk0 : (0 : Int) ≤ (k : Int) := by omega
      have hkw : IntKind.i64.wrap ((k : Int) + 1) = (k : Int) + 1 := by rw [IntKind.wrap_i64]; have := HN.out; omega
      have HK1 : Hid (k + 1 ≤ H.nodes.length ∧ H.nodes.length - (k + 1) < H.nodes.length - k ∧ ((k : Int) + 1).toNat = k + 1 ∧ (k : Int) + 1 = ((k + 1 : Nat) : Int)) := Lib.hid ⟨by omega, by omega, by omega, by omega⟩
      obtain ⟨cu1, -, hc1⟩ := H1.out wr hbel
      obtain ⟨cu2, -, hc2⟩ := H2.out wr hbel
      obtain ⟨a0, a1, a2⟩ := hc1 k hlt
      obtain ⟨b0, b1, b2⟩ := hc2 k hlt
      clear hc1 hc2 hbel hlt hk
      generalize (idf H.nodes k : Int) = x at *
      generalize (homeI H lim x).1 = y at *
      generalize dw (homeI H lim x).2 = d at *
      have hx : (x != x) = false := by simp
      have hy : (y != y) = false := by simp
      go_upto_region 6 with (fail)
      go_quiet ((go_at_call 44; exact Calls.quiet_of_same (same_self _ _)))
      go_wp2_with fail
      refine ⟨⟨k + 1, congrArg (Value.int .i64) HK1.out.2.2.2, HK1.out.1, Go.Iq.below_drewN HBE.out _⟩, ?_⟩
      show H.nodes.length - ((k : Int) + 1).toNat < H.nodes.length - (k : Int).toNat
      rw [HK1.out.2.2.1]
      exact HK1.out.2.1
    · have hnk : ¬ (k : Int) < (H.nodes.length : Int) := by omega
      clear hlt hbel hk
      go_wp2_with fail
      go_ret
      exact ⟨rfl, HBE.out⟩
set_option maxHeartbeats 4000000 in
theorem sameHomes_nil (a1 a2 : Option Addr) (c1 c2 : Nat) (w : World) :
    Calls Try.prog 20 #[.slice a1 0 c1, .slice a2 0 c2] w fun e w' => e = .returned (.bool true) ∧ Below w.heap.size w w' := by
  go_enter Try.func20, Try.ntmps20
  go_wp2_with fail
  go_loopw [5] (fun v wr => v = .int .i64 0 ∧ Below w.heap.size w wr) (fun v _ => 0)
  case atStart => exact ⟨rfl, Below.refl _ _⟩
  case round =>
    obtain ⟨rfl, hbel⟩ := hrel
    go_wp2_with fail
    go_ret
    exact ⟨rfl, hbel⟩
theorem sameHomes_own (H : Gr) (lim b1 b2 : Nat) (v1 v2 : Value) (w : World) (h1 : Own w b1 54 3 v1 H.nodes.length (hmRow H lim H.nodes.length)) (h2 : Own w b2 54 3 v2 H.nodes.length (hmRow H lim H.nodes.length)) (hn : H.nodes.length ≤ 256) :
    Calls Try.prog 20 #[v1, v2] w fun e w' => e = .returned (.bool true) ∧ Below w.heap.size w w' := by
  by_cases h0 : 0 < H.nodes.length
  · obtain ⟨g1, c1, rfl, -, m1⟩ := hm_in h1 h0
    obtain ⟨g2, c2, rfl, -, m2⟩ := hm_in h2 h0
    exact sameHomes_any H lim g1 g2 c1 c2 w m1 m2 hn
  · obtain ⟨a1, c1, rfl⟩ := h1.slice
    obtain ⟨a2, c2, rfl⟩ := h2.slice
    have e0 : H.nodes.length = 0 := by omega
    rw [e0]
    exact sameHomes_nil a1 a2 c1 c2 w
set_option maxHeartbeats 16000000 in
theorem law_bhomes (G : Gr) (na : Option Addr) (nc : Nat) (la : Option Addr) (lc : Nat) (max : Nat) (w : World) (hin : GrIn w G na la) (hm : max < 2 ^ 64) :
    Calls Try.prog 5 #[.agg #[.slice na G.nodes.length nc, .slice la G.links.length lc], .float .f64 max] w fun e w' => e = .returned (.bool true) ∧ Below w.heap.size w w' := by
  obtain ⟨W1, hW1⟩ : ∃ W1, W1 = w.alloc (.cells #[.slice na G.nodes.length nc, .slice la G.links.length lc] 25) := ⟨_, rfl⟩
  have b1 : Below w.heap.size w W1 := by rw [hW1]; exact gAl _ _
  have s1 : w.heap.size < W1.heap.size := by rw [hW1]; simp
  have r1 : W1.heap[w.heap.size]? = some (.cells #[.slice na G.nodes.length nc, .slice la G.links.length lc] 25 (0, 0)) := by rw [hW1]; exact heap_alloc_new w _
  obtain ⟨gb, hgb⟩ : ∃ gb, gb = w.heap.size := ⟨_, rfl⟩
  rw [← hgb] at r1 s1
  have HKG : Hid (∀ V, Below W1.heap.size W1 V → V.cell? ⟨gb, 0, none⟩ = some (.slice na G.nodes.length nc) ∧ V.cell? ⟨gb, 1, none⟩ = some (.slice la G.links.length lc)) := Lib.hid (fun V hV => by
    have := two_cells ((hV.block _ s1).trans r1)
    exact ⟨this.1, this.2.1⟩)
  have HB1 := Lib.hid b1
  have HIN : Hid (∀ V, Below W1.heap.size W1 V → GrIn V G na la) := Lib.hid (fun V hV => (hin.below b1).below hV)
  have HMX := Lib.hid hm
  have HAW := Lib.hid bAwake_any
  have HCP := Lib.hid (rCopy_any G na la nc lc W1 (hin.below b1).nodes (hin.below b1).links hin.wts (by have := hin.n1; omega) (by have := hin.l1; omega))
  have HSZ : Hid (G.nodes.length * 16 ≤ 140737488351232 ∧ G.links.length * 32 ≤ 140737488351232) := Lib.hid ⟨hin.n1, hin.l1⟩
  obtain ⟨g0, g1⟩ := HKG.out W1 (Below.refl _ _)
  have HWS : Hid (W1 = w.alloc (.cells #[.slice na G.nodes.length nc, .slice la G.links.length lc] 25) ∧ w.heap.size = gb) := Lib.hid ⟨hW1, hgb.symm⟩
  clear hin b1 s1 r1 hm hW1 hgb
  go_enter Try.func5, Try.ntmps5
  go_upto_region 1 with (fail)
  rw [← HWS.out.1, HWS.out.2]
  go_wp2_with fail
  refine HCP.out.mono ?_
  rintro e w2 ⟨vn, vl, rfl, hgv, hb2⟩
  obtain ⟨na2, nc2, rfl, hNI, -⟩ := ownN_in hgv.nodes
  obtain ⟨la2, lc2, rfl, hLI, -⟩ := ownL_in hgv.links
  have HB2 := Lib.hid hb2
  have HC := Lib.hid (pHomes_any G na2 nc2 la2 lc2 max w2 ⟨hNI, hLI, hgv.wts, HSZ.out.1, HSZ.out.2⟩ HMX.out)
  clear hgv hNI hLI hb2 g0 g1
  go_wp2_with fail
  refine HC.out.mono ?_
  rintro e w3 ⟨hb3, hcase⟩
  have HB3 := Lib.hid (gNx HB2.out hb3)
  have HR := Lib.hid (rbHomes_any max G na nc la lc w3 (HIN.out w3 HB3.out) HMX.out)
  obtain ⟨g0, g1⟩ := HKG.out w3 HB3.out
  clear hb3
  rcases hcase with ⟨hne, rfl⟩ | ⟨hE, v1, rfl, ho1⟩
  · have HNE := Lib.hid hne
    obtain ⟨E, hE⟩ : ∃ E, E = ballE G max := ⟨_, rfl⟩
    have HEE := Lib.hid hE
    rw [← hE]
    have hee : (E == E) = true := by simp
    clear hne hE
    go_wp2_with fail
    refine HR.out.mono ?_
    rintro e w4 ⟨hb4, ⟨-, rfl⟩ | ⟨hE2, -⟩⟩
    case inr => exact absurd hE2 HNE.out
    rw [← HEE.out]
    have HB4 := Lib.hid (gNx HB3.out hb4)
    clear hb4 g0 g1
    go_wp2_with fail
    refine (sameHomes_nil none none 0 0 w4).mono ?_
    rintro e w5 ⟨rfl, hb5⟩
    have HB5 := Lib.hid (gNx HB4.out hb5)
    clear hb5
    go_wp2_with fail
    refine (HAW.out w5).mono ?_
    rintro e w6 ⟨rfl, hb6⟩
    have HB6 := Lib.hid (gNx HB1.out (gNx HB5.out hb6))
    clear hb6
    go_wp2_with fail
    go_ret
    exact ⟨rfl, HB6.out⟩
  · have HE := Lib.hid hE
    have HO1 := Lib.hid ho1
    obtain ⟨a1, c1, rfl⟩ := ho1.slice
    have HN : Hid ((liveG G).nodes.length ≤ 256) := Lib.hid (check_zero.1 (live_keeps (ballE_zero.1 hE).1).1).1
    clear hE ho1
    go_wp2_with fail
    refine HR.out.mono ?_
    rintro e w4 ⟨hb4, ⟨hne, -⟩ | ⟨-, v2, rfl, ho2⟩⟩
    case inl => exact absurd HE.out hne
    obtain ⟨a2, c2, rfl⟩ := ho2.slice
    have HS := Lib.hid (sameHomes_own (liveG G) (qn max) _ _ _ _ w4 (HO1.out.below hb4) ho2 HN.out)
    have HB4 := Lib.hid (gNx HB3.out hb4)
    clear hb4 g0 g1 ho2
    generalize (liveG G).nodes.length = nl at *
    go_wp2_with fail
    refine HS.out.mono ?_
    rintro e w5 ⟨rfl, hb5⟩
    have HB5 := Lib.hid (gNx HB4.out hb5)
    clear hb5
    go_wp2_with fail
    refine (HAW.out w5).mono ?_
    rintro e w6 ⟨rfl, hb6⟩
    have HB6 := Lib.hid (gNx HB1.out (gNx HB5.out hb6))
    clear hb6
    go_wp2_with fail
    go_ret
    exact ⟨rfl, HB6.out⟩
end Go.Proofs.Ytomcnaghdfhkkaa
