/- Balls: a sight's home and homes. -/
import Derived.Test.YtjlfpjjfldbknaaGreatBaB
namespace Go.Proofs.YtjlfpjjfldbknaaGreat
open Go.RowKit Go.Lib Go.Fq Go.Pq Go.Iq Go.Nq Go.Ow Go.Bq
set_option linter.unusedVariables false
set_option linter.unusedSimpArgs false
set_option maxRecDepth 100000

/-- A home in memory. -/
def HomeV (w : World) (hb : Nat) (x : Int) (r : Int × Option Nat) : Prop := w.heap[hb]? = some (.cells #[.int .i64 x, .int .i64 r.1, .float .f64 (dw r.2)] 50 (0, 0))
theorem HomeV.cells {w : World} {hb : Nat} {x : Int} {r : Int × Option Nat} (h : HomeV w hb x r) : w.cell? ⟨hb, 0, none⟩ = some (.int .i64 x) ∧ w.cell? ⟨hb, 1, none⟩ = some (.int .i64 r.1) ∧ w.cell? ⟨hb, 2, none⟩ = some (.float .f64 (dw r.2)) ∧ w.frozen? ⟨hb, 0, none⟩ = false ∧ w.frozen? ⟨hb, 1, none⟩ = false ∧ w.frozen? ⟨hb, 2, none⟩ = false :=
  ⟨by rw [cell_of_row w _ 0 _ _ (0, 0) h]; rfl, by rw [cell_of_row w _ 1 _ _ (0, 0) h]; rfl, by rw [cell_of_row w _ 2 _ _ (0, 0) h]; rfl, frozen_of_row w hb 0 _ _ h, frozen_of_row w hb 1 _ _ h, frozen_of_row w hb 2 _ _ h⟩
set_option maxHeartbeats 16000000 in
theorem bHome_any (at_ : Nat) (w : World) (sb db B0 : Nat) (H : Gr) (max : Nat) (na : Option Addr) (nc : Nat) (la : Option Addr) (lc : Nat) (hv : Value) (h : Sg w sb db B0 H max na nc la lc hv) (hat : at_ < H.nodes.length) :
    Calls Tryz.prog 37 #[.pointer (some ⟨sb, 0, none⟩), .int .i64 (at_ : Int)] w fun e w' => e = .returned (.agg #[.int .i64 (idf H.nodes at_ : Int), .int .i64 (homeI H (qn max) (idf H.nodes at_ : Int)).1, .float .f64 (dw (homeI H (qn max) (idf H.nodes at_ : Int)).2)]) ∧ Sg w' sb db B0 H max na nc la lc hv ∧ BelowX w.heap.size db w w' := by
  have hst := g_storeL
  obtain ⟨W1, hW1⟩ : ∃ W1, W1 = w.alloc (.cells #[.int .i64 0, .int .i64 0, .float .f64 0] 50) := ⟨_, rfl⟩
  have b1 : Below w.heap.size w W1 := by rw [hW1]; exact gAl _ _
  have r1 : W1.heap[w.heap.size]? = some (.cells #[.int .i64 0, .int .i64 0, .float .f64 0] 50 (0, 0)) := by rw [hW1]; exact heap_alloc_new w _
  have s1 : w.heap.size < W1.heap.size := by rw [hW1]; simp
  obtain ⟨rc, hrc⟩ : ∃ rc, rc = w.heap.size := ⟨_, rfl⟩
  rw [← hrc] at r1 s1
  have HSG1 := Lib.hid (h.below b1)
  have HB1 := Lib.hid b1
  have HRC : Hid (∀ V, Below W1.heap.size W1 V → V.heap[rc]? = some (.cells #[.int .i64 0, .int .i64 0, .float .f64 0] 50 (0, 0))) := Lib.hid (fun V hV => (hV.block rc s1).trans r1)
  have HRN : Hid (rc < W1.heap.size ∧ rc ≠ db ∧ db < rc ∧ w.heap.size ≤ rc ∧ B0 ≤ rc) := Lib.hid (by have h1 := h.dbs; have h2 := h.low; exact ⟨s1, by omega, by omega, by omega, by omega⟩)
  have HBG := Lib.hid h.bg
  have HNL : Hid (H.nodes.length ≤ 256) := Lib.hid (check_zero.1 h.bg.hz).1
  have HAT := Lib.hid hat
  have HID : Hid (∀ k (hk : k < H.nodes.length), H.nodes[k].id = (idf H.nodes k : Int)) := Lib.hid (fun k hk => h.bg.id hk)
  have HUP : Hid (∀ k (hk : k < H.nodes.length), H.nodes[k].up = true) := Lib.hid (fun k hk => h.bg.up hk)
  obtain ⟨b, o, hna, hbb, hcn⟩ := h.nodes.at at_ hat
  obtain ⟨ni, -⟩ := hcn at_ hat
  rw [h.bg.id hat] at ni
  obtain ⟨x, hx⟩ : ∃ x, x = (idf H.nodes at_ : Int) := ⟨_, rfl⟩
  rw [← hx] at ni ⊢
  have HXE := Lib.hid hx
  have HSS : Hid (∀ V, Below W1.heap.size W1 V → V.cell? ⟨sb, 0, none⟩ = some (.slice na H.nodes.length nc) ∧ V.cell? ⟨b, o + at_ * 3, none⟩ = some (.int .i64 x)) := Lib.hid (fun V hV => by
    obtain ⟨d0, -⟩ := ((h.below b1).below hV).five
    exact ⟨d0, ((gNx b1 hV).cell (p := ⟨b, o + at_ * 3, none⟩) (by have := h.low; have := h.sbs; show b < w.heap.size; omega)).trans ni⟩)
  have hati : (at_ : Int) < (H.nodes.length : Int) := by omega
  have hat0 : (0 : Int) ≤ (at_ : Int) := by omega
  subst hna
  clear h b1 r1 s1 hcn hbb ni hx
  go_enter Tryz.func37, Tryz.ntmps37
  go_upto_region 1 with (fail)
  rw [← hW1, ← hrc]
  clear hW1 hrc
  refine wp_region_held_drew (S := fun V => V.cell? ⟨sb, 0, none⟩ = some (.slice (some ⟨b, o, none⟩) H.nodes.length nc) ∧ V.cell? ⟨b, o + at_ * 3, none⟩ = some (.int .i64 x)) (by kernel_rfl) (HSS.out _ (Below.drew (Below.refl _ _))) (fun hH => ?_)
  have hs0 := HSS.out _ (Below.drew (Below.refl _ _))
  have B0' : Hid (Below W1.heap.size W1 W1.drew) := Lib.hid (Below.drew (Below.refl _ _))
  generalize W1.drew = V0 at *
  refine tk 0 (by assumption) rfl (by kernel_rfl) (fun _ _ _ h => h) (fun V hV => by go_simp; try with_reducible rfl) ?_
  try simp only [Act.put, sqA, sqB, sqC, sqD, sqE, sqF]
  refine tk 1 (by assumption) rfl (by kernel_rfl) (fun _ _ _ h => h) (fun V hV => by go_simp; try with_reducible rfl) ?_
  try simp only [Act.put, sqA, sqB, sqC, sqD, sqE, sqF]
  refine tk 2 (by assumption) rfl (by kernel_rfl) (fun _ _ _ h => h) (fun V hV => by go_simp; try with_reducible rfl) ?_
  try simp only [Act.put, sqA, sqB, sqC, sqD, sqE, sqF]
  refine tk 3 (by assumption) rfl (by kernel_rfl) (fun _ _ _ h => h) (fun V hV => by go_simp; try with_reducible rfl) ?_
  try simp only [Act.put, sqA, sqB, sqC, sqD, sqE, sqF]
  refine tk 4 (by assumption) rfl (by kernel_rfl) (fun _ _ _ h => h) (fun V hV => by obtain ⟨hx0, hx1⟩ := hV; go_simp; try with_reducible rfl) ?_
  try simp only [Act.put, sqA, sqB, sqC, sqD, sqE, sqF]
  refine tk 5 (by assumption) rfl (by kernel_rfl) (fun _ _ _ h => h) (fun V hV => by go_simp; try with_reducible rfl) ?_
  try simp only [Act.put, sqA, sqB, sqC, sqD, sqE, sqF]
  refine tk 6 (by assumption) rfl (by kernel_rfl) (fun _ _ _ h => h) (fun V hV => by go_simp; try with_reducible rfl) ?_
  try simp only [Act.put, sqA, sqB, sqC, sqD, sqE, sqF]
  refine tk 7 (by assumption) rfl (by kernel_rfl) (fun _ _ _ h => h) (fun V hV => by go_simp; try with_reducible rfl) ?_
  try simp only [Act.put, sqA, sqB, sqC, sqD, sqE, sqF]
  refine tk 8 (by assumption) rfl (by kernel_rfl) (fun _ _ _ h => h) (fun V hV => by obtain ⟨hx0, hx1⟩ := hV; go_simp; try with_reducible rfl) ?_
  try simp only [Act.put, sqA, sqB, sqC, sqD, sqE, sqF]
  refine wpAnyH_ready (rs := [9, 11]) (by kernel_rfl) (by simp) ?_
  refine AllReadyH.cons (o := _) rfl (fun K hK => ?_) (AllReadyH.cons (o := _) rfl (fun K hK => ?_) (AllReadyH.nil))
  · go_simp
    refine (inf1_any _).mono ?_
    rintro e w' ⟨rfl, rfl⟩
    go_wp2_with fail
    refine hK.out _ _ (HSS.out _ B0'.out) (fun hH => ?_)
    clear hK K
    try simp only [Act.put, sqA, sqB, sqC, sqD, sqE, sqF]
    refine tk 10 (by assumption) rfl (by kernel_rfl) (fun _ _ _ h => h) (fun V hV => by go_simp; try with_reducible rfl) ?_
    try simp only [Act.put, sqA, sqB, sqC, sqD, sqE, sqF]
    refine wpAnyH_ready (rs := [11]) (by kernel_rfl) (by simp) ?_
    refine AllReadyH.cons (o := _) rfl (fun K hK => ?_) AllReadyH.nil
    go_simp
    refine hK.out _ _ (HSS.out _ (gNx B0'.out (gAl _ _))) (fun hH => ?_)
    clear hK K
    try simp only [Act.put, sqA, sqB, sqC, sqD, sqE, sqF]
    refine wpAnyH_ready (rs := [12]) (by kernel_rfl) (by simp) ?_
    refine AllReadyH.cons (o := _) rfl (fun K hK => ?_) AllReadyH.nil
    go_simp
    refine hK.out _ _ (HSS.out _ (gNx B0'.out (gAl _ _))) (fun hH => ?_)
    clear hK K
    try simp only [Act.put, sqA, sqB, sqC, sqD, sqE, sqF]
    refine wpAnyH_done (by kernel_rfl) ?_ _
    obtain ⟨W3, hW3⟩ : ∃ W3, W3 = V0.alloc (.cells #[.int .i64 x, .int .i64 0, .float .f64 INF] 50) := ⟨_, rfl⟩
    rw [← hW3]
    have HB3 : Hid (Below W1.heap.size W1 W3) := Lib.hid (by rw [hW3]; exact gNx B0'.out (gAl _ _))
    have HH3 : Hid (HomeV W3 V0.heap.size x (0, none)) := Lib.hid (by rw [hW3]; exact heap_alloc_new V0 _)
    obtain ⟨hb, hhb⟩ : ∃ hb, hb = V0.heap.size := ⟨_, rfl⟩
    rw [← hhb] at HH3 ⊢
    have HHB : Hid (W1.heap.size ≤ hb ∧ hb < W3.heap.size) := Lib.hid (by rw [hhb, hW3]; simp; exact B0'.out.size)
    have HR3 := Lib.hid (HRC.out W3 HB3.out)
    have HS3 := Lib.hid (HSG1.out.below HB3.out)
    obtain ⟨c0, c1, c2, c3, c4⟩ := HS3.out.five
    clear hW3 hhb hs0
    go_wp2_with fail
    clear c0 c1 c2 c3 c4
    go_loopw [26] (fun i wr => ∃ k : Nat, i = .int .i64 (k : Int) ∧ k ≤ H.nodes.length ∧ Sg wr sb db B0 H max (some ⟨b, o, none⟩) nc la lc hv ∧ HomeV wr hb x (homeK H (qn max) x k) ∧ wr.heap[rc]? = some (.cells #[.int .i64 0, .int .i64 0, .float .f64 0] 50 (0, 0)) ∧ BelowX w.heap.size db w wr) (fun i _ => H.nodes.length - (RowKit.intOf i).toNat)
    case atStart => exact ⟨0, rfl, Nat.zero_le _, HS3.out, HH3.out, HR3.out, BelowX.of_below (gNx HB1.out HB3.out)⟩
    case round =>
      obtain ⟨k, rfl, hk, hsg, hhv, hrc, hbx⟩ := hrel
      obtain ⟨wo, hwo⟩ : ∃ wo, wo = wr := ⟨_, rfl⟩
      subst hwo
      have HSW := Lib.hid hsg
      have HXW := Lib.hid hbx
      have HHV := Lib.hid hhv
      have HRV := Lib.hid hrc
      by_cases hlt : k < H.nodes.length
      · have hlti : (k : Int) < (H.nodes.length : Int) := by omega
        have hk0 : (0 : Int) ≤ (k : Int) := by omega
        have hkw : IntKind.i64.wrap ((k : Int) + 1) = (k : Int) + 1 := by rw [IntKind.wrap_i64]; have := HNL.out; omega
        have HK1 : Hid (k + 1 ≤ H.nodes.length ∧ H.nodes.length - (k + 1) < H.nodes.length - k ∧ ((k : Int) + 1).toNat = k + 1 ∧ (k : Int) + 1 = ((k + 1 : Nat) : Int)) := Lib.hid ⟨by omega, by omega, by omega, by omega⟩
        obtain ⟨nb, no, hna, -, hnc⟩ := hsg.nodes.at k hlt
        obtain ⟨n0, n1, n2⟩ := hnc k hlt
        have HKS : Hid (homeK H (qn max) x (k + 1) = if H.nodes[k].mark = true ∧ ltO (g_ (dst H (qn max) at_) k) (homeK H (qn max) x k).2 = true then ((idf H.nodes k : Int), g_ (dst H (qn max) at_) k) else homeK H (qn max) x k) := Lib.hid (by
          rw [homeK_go H (qn max) x hlt]
          unfold homeS
          rw [HUP.out k hlt, HID.out k hlt, HXE.out, dI_at HBG.out.hz (qn max) hlt HAT.out]
          simp)
        have HDI := Lib.hid (fun V (hV : Sg V sb db B0 H max (some ⟨b, o, none⟩) nc la lc hv) => bDist_any k at_ V sb db B0 H max (some ⟨b, o, none⟩) nc la lc hv hV hlt HAT.out)
        rw [HID.out k hlt] at n0
        have HSM2 : Hid (Sm (homeK H (qn max) x k).2) := Lib.hid (by
          rcases home_fact (g := H) (qn max) x k hk with ⟨-, e⟩ | ⟨m, -, -, -, -, e, -⟩
          · rw [e]; trivial
          · rw [e]; exact dI_sm HBG.out.hz HBG.out.hw HBG.out.small.2.1 _ _)
        have HSM3 := Lib.hid (dst_sm HBG.out.hz HBG.out.hw HBG.out.small.2.1 at_ k)
        simp only [Option.some.injEq, Addr.mk.injEq, and_true] at hna
        obtain ⟨rfl, rfl⟩ := hna
        clear hsg hbx hhv hrc hnc
        generalize H.nodes[k] = nd at *
        clear hlt hk
        generalize homeK H (qn max) x k = r at *
        generalize g_ (dst H (qn max) at_) k = D at *
        obtain ⟨ndi, ndu, ndm⟩ := nd
        obtain ⟨rh, rr⟩ := r
        simp only at n0 n1 n2 HKS HSM2
        obtain ⟨kx, hkx⟩ : ∃ kx, kx = (idf H.nodes k : Int) := ⟨_, rfl⟩
        rw [← hkx] at n0 HKS
        clear hkx
        obtain ⟨W6, hW6⟩ : ∃ W6, W6 = wo.alloc (.cells #[.int .i64 kx, .bool ndu, .bool ndm] 60) := ⟨_, rfl⟩
        have b6 : Below wo.heap.size wo W6 := by rw [hW6]; exact gAl _ _
        have r6 : W6.heap[wo.heap.size]? = some (.cells #[.int .i64 kx, .bool ndu, .bool ndm] 60 (0, 0)) := by rw [hW6]; exact heap_alloc_new wo _
        have s6 : wo.heap.size < W6.heap.size := by rw [hW6]; simp
        obtain ⟨ll, hll⟩ : ∃ ll, ll = wo.heap.size := ⟨_, rfl⟩
        rw [← hll] at r6 s6
        have HLS : Hid (∀ V : World, V.heap[ll]? = W6.heap[ll]? → V.cell? ⟨ll, 0, none⟩ = some (.int .i64 kx) ∧ V.cell? ⟨ll, 2, none⟩ = some (.bool ndm)) := Lib.hid (fun V hV => by
          have h := hV.trans r6
          exact ⟨by rw [cell_of_row V _ 0 _ _ (0, 0) h]; rfl, by rw [cell_of_row V _ 2 _ _ (0, 0) h]; rfl⟩)
        have HL6 : Hid (ll < W6.heap.size ∧ ll ≠ db) := Lib.hid ⟨s6, by have := HSW.out.dbs; omega⟩
        have HS6 := Lib.hid (HSW.out.below b6)
        have HX6 := Lib.hid (bx_below HXW.out b6)
        have hbs : hb < wo.heap.size := (Array.getElem?_eq_some_iff.1 HHV.out).1
        have rcs : rc < wo.heap.size := (Array.getElem?_eq_some_iff.1 HRV.out).1
        have HH6 : Hid (HomeV W6 hb x (rh, rr)) := Lib.hid ((b6.block hb hbs).trans HHV.out)
        have HR6 : Hid (W6.heap[rc]? = some (.cells #[.int .i64 0, .int .i64 0, .float .f64 0] 50 (0, 0))) := Lib.hid ((b6.block rc rcs).trans HRV.out)
        have HNE : Hid (hb < W6.heap.size ∧ rc < W6.heap.size ∧ hb ≠ db ∧ rc ≠ db ∧ hb ≠ rc ∧ w.heap.size ≤ hb ∧ B0 ≤ hb) := Lib.hid (by have := b6.size; have h1 := HRN.out; have h2 := HHB.out; exact ⟨by omega, by omega, by omega, by omega, by omega, by omega, by omega⟩)
        go_upto_region 5 with (fail)
        rw [← hW6, ← hll]
        obtain ⟨x0, x2⟩ := HLS.out W6 rfl
        clear hW6 hll b6 r6 s6 n0 n1 n2 hbs rcs
        cases ndm with
        | false =>
          go_wp2_with fail
          refine ⟨⟨k + 1, congrArg (Value.int .i64) HK1.out.2.2.2, HK1.out.1, HS6.out, by rw [HKS.out]; exact HH6.out, HR6.out, HX6.out⟩, ?_⟩
          show H.nodes.length - ((k : Int) + 1).toNat < H.nodes.length - (k : Int).toNat
          rw [HK1.out.2.2.1]
          exact HK1.out.2.1
        | true =>
          have HLT := Lib.hid (dw_lt HSM3.out HSM2.out)
          obtain ⟨bv, hbv⟩ : ∃ bv, bv = ltO D rr := ⟨_, rfl⟩
          rw [← hbv] at HLT HKS
          have hlt := HLT.out
          obtain ⟨d1, hd1⟩ : ∃ d1, d1 = dw D := ⟨_, rfl⟩
          obtain ⟨d2, hd2⟩ : ∃ d2, d2 = dw rr := ⟨_, rfl⟩
          have HD1 := Lib.hid hd1
          have HD2 := Lib.hid hd2
          rw [← hd1] at hlt HDI
          rw [← hd2] at hlt
          clear hbv hd1 hd2
          go_wp2_with fail
          refine (HDI.out W6 HS6.out).mono ?_
          rintro e W7 ⟨rfl, hs7, hx7⟩
          have HS7 := Lib.hid hs7
          have HX7 := Lib.hid (bx_next HX6.out hx7)
          have hh7 : HomeV W7 hb x (rh, rr) := (hx7.block hb HNE.out.1 HNE.out.2.2.1).trans HH6.out
          have HH7 := Lib.hid hh7
          have HR7 : Hid (W7.heap[rc]? = some (.cells #[.int .i64 0, .int .i64 0, .float .f64 0] 50 (0, 0))) := Lib.hid ((hx7.block rc HNE.out.2.1 HNE.out.2.2.2.1).trans HR6.out)
          obtain ⟨y0, y2⟩ := HLS.out W7 (hx7.block ll HL6.out.1 HL6.out.2)
          obtain ⟨z0, z1, z2, f0, f1, f2⟩ := HomeV.cells hh7
          simp only at z1 z2
          rw [← HD2.out] at z2
          clear hs7 hx7 hh7 x0 x2
          cases bv with
          | false =>
            go_wp2_with fail
            refine ⟨⟨k + 1, congrArg (Value.int .i64) HK1.out.2.2.2, HK1.out.1, HS7.out, by rw [HKS.out]; exact HH7.out, HR7.out, HX7.out⟩, ?_⟩
            show H.nodes.length - ((k : Int) + 1).toNat < H.nodes.length - (k : Int).toNat
            rw [HK1.out.2.2.1]
            exact HK1.out.2.1
          | true =>
            go_wp2_with fail
            have hq1 := heap_setCell_same W7 hb 1 _ _ (.int .i64 kx) HH7.out
            have hq2 := heap_setCell_same _ hb 2 _ _ (.float .f64 d1) hq1
            refine ⟨⟨k + 1, congrArg (Value.int .i64) HK1.out.2.2.2, HK1.out.1, ?_, ?_, ?_, ?_⟩, ?_⟩
            · exact (HS7.out.set HH7.out (by unfold SgT; decide) HNE.out.2.2.2.2.2.2 _).set hq1 (by unfold SgT; decide) HNE.out.2.2.2.2.2.2 _
            · rw [HKS.out, if_pos (by simp)]
              unfold HomeV
              rw [hq2, HD1.out]; rfl
            · rw [Below.heap_setCell _ _ _ _ (fun e => HNE.out.2.2.2.2.1 e.symm), Below.heap_setCell _ _ _ _ (fun e => HNE.out.2.2.2.2.1 e.symm)]
              exact HR7.out
            · exact (HX7.out.setCell HNE.out.2.2.2.2.2.1 _).setCell HNE.out.2.2.2.2.2.1 _
            · show H.nodes.length - ((k : Int) + 1).toNat < H.nodes.length - (k : Int).toNat
              rw [HK1.out.2.2.1]
              exact HK1.out.2.1
      · have hnk : ¬ (k : Int) < (H.nodes.length : Int) := by omega
        have hall := homeK_all H (qn max) x (k := k) (by omega)
        rw [hall] at hhv
        have HHV := Lib.hid hhv
        obtain ⟨z0, z1, z2, f0, f1, f2⟩ := HomeV.cells hhv
        have g0 : wo.cell? ⟨rc, 0, none⟩ = some (.int .i64 0) := by rw [cell_of_row wo _ 0 _ _ (0, 0) hrc]; rfl
        have g1 : wo.cell? ⟨rc, 1, none⟩ = some (.int .i64 0) := by rw [cell_of_row wo _ 1 _ _ (0, 0) hrc]; rfl
        have g2 : wo.cell? ⟨rc, 2, none⟩ = some (.float .f64 0) := by rw [cell_of_row wo _ 2 _ _ (0, 0) hrc]; rfl
        have q0 := frozen_of_row wo rc 0 _ _ hrc
        have q1 := frozen_of_row wo rc 1 _ _ hrc
        have q2 := frozen_of_row wo rc 2 _ _ hrc
        clear hlt hsg hbx hhv hrc hall
        obtain ⟨r, hr⟩ : ∃ r, r = homeI H (qn max) x := ⟨_, rfl⟩
        have HRE := Lib.hid hr
        rw [← hr] at z1 z2 HHV
        clear hr
        obtain ⟨rh, rr⟩ := r
        simp only at z1 z2
        obtain ⟨dr, hdr⟩ : ∃ dr, dr = dw rr := ⟨_, rfl⟩
        have HDR := Lib.hid hdr
        rw [← hdr] at z2
        clear hdr
        go_wp2_with fail
        have hq1 := heap_setCell_same wo rc 0 _ _ (.int .i64 x) HRV.out
        have hq2 := heap_setCell_same _ rc 1 _ _ (.int .i64 rh) hq1
        have hq3 := heap_setCell_same _ rc 2 _ _ (.float .f64 dr) hq2
        have hrb := HRN.out
        refine bodyPost_ret (results_cell Tryz.results37 _ _ rc 0 [.int .i64 x, .int .i64 rh, .float .f64 dr] _ rfl ?_ Tryz.underlying50 (by rfl) (by kernel_rfl)) rfl ?_
        · intro j v hj
          match j with
          | 0 => simp at hj; subst hj; rw [cell_of_row _ _ _ _ _ (0, 0) hq3]; rfl
          | 1 => simp at hj; subst hj; rw [cell_of_row _ _ _ _ _ (0, 0) hq3]; rfl
          | 2 => simp at hj; subst hj; rw [cell_of_row _ _ _ _ _ (0, 0) hq3]; rfl
          | j + 3 => simp at hj
        · refine ⟨?_, ((HSW.out.set HRV.out (by unfold SgT; decide) hrb.2.2.2.2 _).set hq1 (by unfold SgT; decide) hrb.2.2.2.2 _).set hq2 (by unfold SgT; decide) hrb.2.2.2.2 _, ((HXW.out.setCell hrb.2.2.2.1 _).setCell hrb.2.2.2.1 _).setCell hrb.2.2.2.1 _⟩
          rw [← HRE.out, HDR.out]
  · go_simp
    refine hK.out _ _ (HSS.out _ (gNx B0'.out (gAl _ _))) (fun hH => ?_)
    clear hK K
    try simp only [Act.put, sqA, sqB, sqC, sqD, sqE, sqF]
    refine wpAnyH_ready (rs := [9]) (by kernel_rfl) (by simp) ?_
    refine AllReadyH.cons (o := _) rfl (fun K hK => ?_) AllReadyH.nil
    go_simp
    refine (inf1_any _).mono ?_
    rintro e w' ⟨rfl, rfl⟩
    go_wp2_with fail
    refine hK.out _ _ (HSS.out _ (gNx B0'.out (gAl _ _))) (fun hH => ?_)
    clear hK K
    try simp only [Act.put, sqA, sqB, sqC, sqD, sqE, sqF]
    refine tk 10 (by assumption) rfl (by kernel_rfl) (fun _ _ _ h => h) (fun V hV => by go_simp; try with_reducible rfl) ?_
    try simp only [Act.put, sqA, sqB, sqC, sqD, sqE, sqF]
    refine wpAnyH_ready (rs := [12]) (by kernel_rfl) (by simp) ?_
    refine AllReadyH.cons (o := _) rfl (fun K hK => ?_) AllReadyH.nil
    go_simp
    refine hK.out _ _ (HSS.out _ (gNx B0'.out (gAl _ _))) (fun hH => ?_)
    clear hK K
    try simp only [Act.put, sqA, sqB, sqC, sqD, sqE, sqF]
    refine wpAnyH_done (by kernel_rfl) ?_ _
    obtain ⟨W3, hW3⟩ : ∃ W3, W3 = V0.alloc (.cells #[.int .i64 x, .int .i64 0, .float .f64 INF] 50) := ⟨_, rfl⟩
    rw [← hW3]
    have HB3 : Hid (Below W1.heap.size W1 W3) := Lib.hid (by rw [hW3]; exact gNx B0'.out (gAl _ _))
    have HH3 : Hid (HomeV W3 V0.heap.size x (0, none)) := Lib.hid (by rw [hW3]; exact heap_alloc_new V0 _)
    obtain ⟨hb, hhb⟩ : ∃ hb, hb = V0.heap.size := ⟨_, rfl⟩
    rw [← hhb] at HH3 ⊢
    have HHB : Hid (W1.heap.size ≤ hb ∧ hb < W3.heap.size) := Lib.hid (by rw [hhb, hW3]; simp; exact B0'.out.size)
    have HR3 := Lib.hid (HRC.out W3 HB3.out)
    have HS3 := Lib.hid (HSG1.out.below HB3.out)
    obtain ⟨c0, c1, c2, c3, c4⟩ := HS3.out.five
    clear hW3 hhb hs0
    go_wp2_with fail
    clear c0 c1 c2 c3 c4
    go_loopw [26] (fun i wr => ∃ k : Nat, i = .int .i64 (k : Int) ∧ k ≤ H.nodes.length ∧ Sg wr sb db B0 H max (some ⟨b, o, none⟩) nc la lc hv ∧ HomeV wr hb x (homeK H (qn max) x k) ∧ wr.heap[rc]? = some (.cells #[.int .i64 0, .int .i64 0, .float .f64 0] 50 (0, 0)) ∧ BelowX w.heap.size db w wr) (fun i _ => H.nodes.length - (RowKit.intOf i).toNat)
    case atStart => exact ⟨0, rfl, Nat.zero_le _, HS3.out, HH3.out, HR3.out, BelowX.of_below (gNx HB1.out HB3.out)⟩
    case round =>
      obtain ⟨k, rfl, hk, hsg, hhv, hrc, hbx⟩ := hrel
      obtain ⟨wo, hwo⟩ : ∃ wo, wo = wr := ⟨_, rfl⟩
      subst hwo
      have HSW := Lib.hid hsg
      have HXW := Lib.hid hbx
      have HHV := Lib.hid hhv
      have HRV := Lib.hid hrc
      by_cases hlt : k < H.nodes.length
      · have hlti : (k : Int) < (H.nodes.length : Int) := by omega
        have hk0 : (0 : Int) ≤ (k : Int) := by omega
        have hkw : IntKind.i64.wrap ((k : Int) + 1) = (k : Int) + 1 := by rw [IntKind.wrap_i64]; have := HNL.out; omega
        have HK1 : Hid (k + 1 ≤ H.nodes.length ∧ H.nodes.length - (k + 1) < H.nodes.length - k ∧ ((k : Int) + 1).toNat = k + 1 ∧ (k : Int) + 1 = ((k + 1 : Nat) : Int)) := Lib.hid ⟨by omega, by omega, by omega, by omega⟩
        obtain ⟨nb, no, hna, -, hnc⟩ := hsg.nodes.at k hlt
        obtain ⟨n0, n1, n2⟩ := hnc k hlt
        have HKS : Hid (homeK H (qn max) x (k + 1) = if H.nodes[k].mark = true ∧ ltO (g_ (dst H (qn max) at_) k) (homeK H (qn max) x k).2 = true then ((idf H.nodes k : Int), g_ (dst H (qn max) at_) k) else homeK H (qn max) x k) := Lib.hid (by
          rw [homeK_go H (qn max) x hlt]
          unfold homeS
          rw [HUP.out k hlt, HID.out k hlt, HXE.out, dI_at HBG.out.hz (qn max) hlt HAT.out]
          simp)
        have HDI := Lib.hid (fun V (hV : Sg V sb db B0 H max (some ⟨b, o, none⟩) nc la lc hv) => bDist_any k at_ V sb db B0 H max (some ⟨b, o, none⟩) nc la lc hv hV hlt HAT.out)
        rw [HID.out k hlt] at n0
        have HSM2 : Hid (Sm (homeK H (qn max) x k).2) := Lib.hid (by
          rcases home_fact (g := H) (qn max) x k hk with ⟨-, e⟩ | ⟨m, -, -, -, -, e, -⟩
          · rw [e]; trivial
          · rw [e]; exact dI_sm HBG.out.hz HBG.out.hw HBG.out.small.2.1 _ _)
        have HSM3 := Lib.hid (dst_sm HBG.out.hz HBG.out.hw HBG.out.small.2.1 at_ k)
        simp only [Option.some.injEq, Addr.mk.injEq, and_true] at hna
        obtain ⟨rfl, rfl⟩ := hna
        clear hsg hbx hhv hrc hnc
        generalize H.nodes[k] = nd at *
        clear hlt hk
        generalize homeK H (qn max) x k = r at *
        generalize g_ (dst H (qn max) at_) k = D at *
        obtain ⟨ndi, ndu, ndm⟩ := nd
        obtain ⟨rh, rr⟩ := r
        simp only at n0 n1 n2 HKS HSM2
        obtain ⟨kx, hkx⟩ : ∃ kx, kx = (idf H.nodes k : Int) := ⟨_, rfl⟩
        rw [← hkx] at n0 HKS
        clear hkx
        obtain ⟨W6, hW6⟩ : ∃ W6, W6 = wo.alloc (.cells #[.int .i64 kx, .bool ndu, .bool ndm] 60) := ⟨_, rfl⟩
        have b6 : Below wo.heap.size wo W6 := by rw [hW6]; exact gAl _ _
        have r6 : W6.heap[wo.heap.size]? = some (.cells #[.int .i64 kx, .bool ndu, .bool ndm] 60 (0, 0)) := by rw [hW6]; exact heap_alloc_new wo _
        have s6 : wo.heap.size < W6.heap.size := by rw [hW6]; simp
        obtain ⟨ll, hll⟩ : ∃ ll, ll = wo.heap.size := ⟨_, rfl⟩
        rw [← hll] at r6 s6
        have HLS : Hid (∀ V : World, V.heap[ll]? = W6.heap[ll]? → V.cell? ⟨ll, 0, none⟩ = some (.int .i64 kx) ∧ V.cell? ⟨ll, 2, none⟩ = some (.bool ndm)) := Lib.hid (fun V hV => by
          have h := hV.trans r6
          exact ⟨by rw [cell_of_row V _ 0 _ _ (0, 0) h]; rfl, by rw [cell_of_row V _ 2 _ _ (0, 0) h]; rfl⟩)
        have HL6 : Hid (ll < W6.heap.size ∧ ll ≠ db) := Lib.hid ⟨s6, by have := HSW.out.dbs; omega⟩
        have HS6 := Lib.hid (HSW.out.below b6)
        have HX6 := Lib.hid (bx_below HXW.out b6)
        have hbs : hb < wo.heap.size := (Array.getElem?_eq_some_iff.1 HHV.out).1
        have rcs : rc < wo.heap.size := (Array.getElem?_eq_some_iff.1 HRV.out).1
        have HH6 : Hid (HomeV W6 hb x (rh, rr)) := Lib.hid ((b6.block hb hbs).trans HHV.out)
        have HR6 : Hid (W6.heap[rc]? = some (.cells #[.int .i64 0, .int .i64 0, .float .f64 0] 50 (0, 0))) := Lib.hid ((b6.block rc rcs).trans HRV.out)
        have HNE : Hid (hb < W6.heap.size ∧ rc < W6.heap.size ∧ hb ≠ db ∧ rc ≠ db ∧ hb ≠ rc ∧ w.heap.size ≤ hb ∧ B0 ≤ hb) := Lib.hid (by have := b6.size; have h1 := HRN.out; have h2 := HHB.out; exact ⟨by omega, by omega, by omega, by omega, by omega, by omega, by omega⟩)
        go_upto_region 5 with (fail)
        rw [← hW6, ← hll]
        obtain ⟨x0, x2⟩ := HLS.out W6 rfl
        clear hW6 hll b6 r6 s6 n0 n1 n2 hbs rcs
        cases ndm with
        | false =>
          go_wp2_with fail
          refine ⟨⟨k + 1, congrArg (Value.int .i64) HK1.out.2.2.2, HK1.out.1, HS6.out, by rw [HKS.out]; exact HH6.out, HR6.out, HX6.out⟩, ?_⟩
          show H.nodes.length - ((k : Int) + 1).toNat < H.nodes.length - (k : Int).toNat
          rw [HK1.out.2.2.1]
          exact HK1.out.2.1
        | true =>
          have HLT := Lib.hid (dw_lt HSM3.out HSM2.out)
          obtain ⟨bv, hbv⟩ : ∃ bv, bv = ltO D rr := ⟨_, rfl⟩
          rw [← hbv] at HLT HKS
          have hlt := HLT.out
          obtain ⟨d1, hd1⟩ : ∃ d1, d1 = dw D := ⟨_, rfl⟩
          obtain ⟨d2, hd2⟩ : ∃ d2, d2 = dw rr := ⟨_, rfl⟩
          have HD1 := Lib.hid hd1
          have HD2 := Lib.hid hd2
          rw [← hd1] at hlt HDI
          rw [← hd2] at hlt
          clear hbv hd1 hd2
          go_wp2_with fail
          refine (HDI.out W6 HS6.out).mono ?_
          rintro e W7 ⟨rfl, hs7, hx7⟩
          have HS7 := Lib.hid hs7
          have HX7 := Lib.hid (bx_next HX6.out hx7)
          have hh7 : HomeV W7 hb x (rh, rr) := (hx7.block hb HNE.out.1 HNE.out.2.2.1).trans HH6.out
          have HH7 := Lib.hid hh7
          have HR7 : Hid (W7.heap[rc]? = some (.cells #[.int .i64 0, .int .i64 0, .float .f64 0] 50 (0, 0))) := Lib.hid ((hx7.block rc HNE.out.2.1 HNE.out.2.2.2.1).trans HR6.out)
          obtain ⟨y0, y2⟩ := HLS.out W7 (hx7.block ll HL6.out.1 HL6.out.2)
          obtain ⟨z0, z1, z2, f0, f1, f2⟩ := HomeV.cells hh7
          simp only at z1 z2
          rw [← HD2.out] at z2
          clear hs7 hx7 hh7 x0 x2
          cases bv with
          | false =>
            go_wp2_with fail
            refine ⟨⟨k + 1, congrArg (Value.int .i64) HK1.out.2.2.2, HK1.out.1, HS7.out, by rw [HKS.out]; exact HH7.out, HR7.out, HX7.out⟩, ?_⟩
            show H.nodes.length - ((k : Int) + 1).toNat < H.nodes.length - (k : Int).toNat
            rw [HK1.out.2.2.1]
            exact HK1.out.2.1
          | true =>
            go_wp2_with fail
            have hq1 := heap_setCell_same W7 hb 1 _ _ (.int .i64 kx) HH7.out
            have hq2 := heap_setCell_same _ hb 2 _ _ (.float .f64 d1) hq1
            refine ⟨⟨k + 1, congrArg (Value.int .i64) HK1.out.2.2.2, HK1.out.1, ?_, ?_, ?_, ?_⟩, ?_⟩
            · exact (HS7.out.set HH7.out (by unfold SgT; decide) HNE.out.2.2.2.2.2.2 _).set hq1 (by unfold SgT; decide) HNE.out.2.2.2.2.2.2 _
            · rw [HKS.out, if_pos (by simp)]
              unfold HomeV
              rw [hq2, HD1.out]; rfl
            · rw [Below.heap_setCell _ _ _ _ (fun e => HNE.out.2.2.2.2.1 e.symm), Below.heap_setCell _ _ _ _ (fun e => HNE.out.2.2.2.2.1 e.symm)]
              exact HR7.out
            · exact (HX7.out.setCell HNE.out.2.2.2.2.2.1 _).setCell HNE.out.2.2.2.2.2.1 _
            · show H.nodes.length - ((k : Int) + 1).toNat < H.nodes.length - (k : Int).toNat
              rw [HK1.out.2.2.1]
              exact HK1.out.2.1
      · have hnk : ¬ (k : Int) < (H.nodes.length : Int) := by omega
        have hall := homeK_all H (qn max) x (k := k) (by omega)
        rw [hall] at hhv
        have HHV := Lib.hid hhv
        obtain ⟨z0, z1, z2, f0, f1, f2⟩ := HomeV.cells hhv
        have g0 : wo.cell? ⟨rc, 0, none⟩ = some (.int .i64 0) := by rw [cell_of_row wo _ 0 _ _ (0, 0) hrc]; rfl
        have g1 : wo.cell? ⟨rc, 1, none⟩ = some (.int .i64 0) := by rw [cell_of_row wo _ 1 _ _ (0, 0) hrc]; rfl
        have g2 : wo.cell? ⟨rc, 2, none⟩ = some (.float .f64 0) := by rw [cell_of_row wo _ 2 _ _ (0, 0) hrc]; rfl
        have q0 := frozen_of_row wo rc 0 _ _ hrc
        have q1 := frozen_of_row wo rc 1 _ _ hrc
        have q2 := frozen_of_row wo rc 2 _ _ hrc
        clear hlt hsg hbx hhv hrc hall
        obtain ⟨r, hr⟩ : ∃ r, r = homeI H (qn max) x := ⟨_, rfl⟩
        have HRE := Lib.hid hr
        rw [← hr] at z1 z2 HHV
        clear hr
        obtain ⟨rh, rr⟩ := r
        simp only at z1 z2
        obtain ⟨dr, hdr⟩ : ∃ dr, dr = dw rr := ⟨_, rfl⟩
        have HDR := Lib.hid hdr
        rw [← hdr] at z2
        clear hdr
        go_wp2_with fail
        have hq1 := heap_setCell_same wo rc 0 _ _ (.int .i64 x) HRV.out
        have hq2 := heap_setCell_same _ rc 1 _ _ (.int .i64 rh) hq1
        have hq3 := heap_setCell_same _ rc 2 _ _ (.float .f64 dr) hq2
        have hrb := HRN.out
        refine bodyPost_ret (results_cell Tryz.results37 _ _ rc 0 [.int .i64 x, .int .i64 rh, .float .f64 dr] _ rfl ?_ Tryz.underlying50 (by rfl) (by kernel_rfl)) rfl ?_
        · intro j v hj
          match j with
          | 0 => simp at hj; subst hj; rw [cell_of_row _ _ _ _ _ (0, 0) hq3]; rfl
          | 1 => simp at hj; subst hj; rw [cell_of_row _ _ _ _ _ (0, 0) hq3]; rfl
          | 2 => simp at hj; subst hj; rw [cell_of_row _ _ _ _ _ (0, 0) hq3]; rfl
          | j + 3 => simp at hj
        · refine ⟨?_, ((HSW.out.set HRV.out (by unfold SgT; decide) hrb.2.2.2.2 _).set hq1 (by unfold SgT; decide) hrb.2.2.2.2 _).set hq2 (by unfold SgT; decide) hrb.2.2.2.2 _, ((HXW.out.setCell hrb.2.2.2.1 _).setCell hrb.2.2.2.1 _).setCell hrb.2.2.2.1 _⟩
          rw [← HRE.out, HDR.out]
end Go.Proofs.YtjlfpjjfldbknaaGreat
