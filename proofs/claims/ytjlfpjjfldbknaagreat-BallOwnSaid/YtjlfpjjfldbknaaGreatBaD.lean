/- Balls: a sight's homes and kind. -/
import Derived.Test.YtjlfpjjfldbknaaGreatBaC
namespace Go.Proofs.YtjlfpjjfldbknaaGreat
open Go.RowKit Go.Lib Go.Fq Go.Pq Go.Iq Go.Nq Go.Ow Go.Bq
set_option linter.unusedVariables false
set_option linter.unusedSimpArgs false
set_option maxRecDepth 100000

/-- A row of another type that grows keeps a sight. -/
theorem Sg.kq {w : World} {sb db B0 : Nat} {H : Gr} {max : Nat} {na : Option Addr} {nc : Nat} {la : Option Addr} {lc : Nat} {hv : Value} {w' : World} {v v' : Value} {base k n : Nat} {e : TypeId} {xs : List Value} (h : Sg w sb db B0 H max na nc la lc hv) (ho : Own w base e k v n xs) (hk : ∀ q, Kq q v v' w w') (he : ¬ SgT e) (hB : B0 ≤ base) : Sg w' sb db B0 H max na nc la lc hv := by
  have key : ∀ j, j < w.heap.size → (∀ cs, w.heap[j]? = some (.cells cs e (0, 0)) → base ≤ j → False) → w'.heap[j]? = w.heap[j]? := by
    intro j hj hn
    refine (hk (j + 1)).block j hj (by omega) (fun n' c' e2 => ?_)
    rcases ho with ⟨-, -, a, e3⟩ | ⟨g, cap, cur, e3, hb, hg, -⟩
    · rw [e3] at e2; cases e2; rfl
    · rw [e3] at e2
      simp only [Value.slice.injEq, Option.some.injEq, Addr.mk.injEq, and_true, true_and] at e2
      have e4 := e2.1
      subst e4
      exact (hn cur hg hb).elim
  refine h.other (fun j cs t hj ht => key j (Array.getElem?_eq_some_iff.1 hj).1 (fun cs2 h2 _ => ?_)) (fun j hj => key j (by have := h.low; have := h.sbs; omega) (fun cs2 _ h3 => by omega))
  rw [hj] at h2
  cases h2
  exact he ht
noncomputable def hmC (H : Gr) (lim i : Nat) : List Value := [.int .i64 (idf H.nodes i : Int), .int .i64 (homeI H lim (idf H.nodes i : Int)).1, .float .f64 (dw (homeI H lim (idf H.nodes i : Int)).2)]
noncomputable def hmRow (H : Gr) (lim k : Nat) : List Value := (List.range k).flatMap (hmC H lim)
theorem hmRow_go (H : Gr) (lim k : Nat) : hmRow H lim (k + 1) = hmRow H lim k ++ hmC H lim k := by unfold hmRow; rw [List.range_succ, List.flatMap_append, List.flatMap_singleton]
theorem hmInfo : (Tryz.prog.info? 50).map (fun i => (i.zero, i.size, i.bytes)) = some (some (.agg #[.int .i64 0, .int .i64 0, .float .f64 0]), 3, 24) := by kernel_rfl
set_option maxHeartbeats 16000000 in
theorem bHomes_any (w : World) (sb db B0 : Nat) (H : Gr) (max : Nat) (na : Option Addr) (nc : Nat) (la : Option Addr) (lc : Nat) (hv : Value) (h : Sg w sb db B0 H max na nc la lc hv) :
    Calls Tryz.prog 22 #[.pointer (some ⟨sb, 0, none⟩)] w fun e w' => ∃ v, e = .returned v ∧ Own w' w.heap.size 50 3 v H.nodes.length (hmRow H (qn max) H.nodes.length) ∧ Sg w' sb db B0 H max na nc la lc hv ∧ BelowX w.heap.size db w w' := by
  have HSG := Lib.hid h
  have HNL : Hid (H.nodes.length ≤ 256) := Lib.hid (check_zero.1 h.bg.hz).1
  have HLO : Hid (B0 ≤ w.heap.size) := Lib.hid (by have := h.low; have := h.sbs; omega)
  obtain ⟨c0, c1, c2, c3, c4⟩ := h.five
  obtain ⟨ob, hob⟩ : ∃ ob, ob = w.heap.size := ⟨_, rfl⟩
  have HOB := Lib.hid hob
  clear h
  go_enter Tryz.func22, Tryz.ntmps22
  rw [← hob]
  clear hob
  go_wp2_with fail
  clear c0 c1 c2 c3 c4
  go_loopw [11, 3] (fun i v wr => ∃ k : Nat, i = .int .i64 (k : Int) ∧ k ≤ H.nodes.length ∧ Own wr ob 50 3 v k (hmRow H (qn max) k) ∧ Sg wr sb db B0 H max na nc la lc hv ∧ BelowX ob db w wr) (fun i _ _ => H.nodes.length - (RowKit.intOf i).toNat)
  case atStart => exact ⟨0, rfl, Nat.zero_le _, Or.inl ⟨rfl, rfl, none, rfl⟩, HSG.out, BelowX.refl _ _ _⟩
  case round =>
    obtain ⟨k, rfl, hk, ho, hsg, hbx⟩ := hrel
    obtain ⟨wo, hwo⟩ : ∃ wo, wo = wr := ⟨_, rfl⟩
    subst hwo
    have HSW := Lib.hid hsg
    have HXW := Lib.hid hbx
    have HOW := Lib.hid ho
    obtain ⟨al, cl, rfl⟩ := ho.slice
    by_cases hlt : k < H.nodes.length
    · have hlti : (k : Int) < (H.nodes.length : Int) := by omega
      have hk0 : (0 : Int) ≤ (k : Int) := by omega
      have hkw : IntKind.i64.wrap ((k : Int) + 1) = (k : Int) + 1 := by rw [IntKind.wrap_i64]; have := HNL.out; omega
      have HK1 : Hid (k + 1 ≤ H.nodes.length ∧ H.nodes.length - (k + 1) < H.nodes.length - k ∧ ((k : Int) + 1).toNat = k + 1 ∧ (k : Int) + 1 = ((k + 1 : Nat) : Int)) := Lib.hid ⟨by omega, by omega, by omega, by omega⟩
      have HHO := Lib.hid (bHome_any k wo sb db B0 H max na nc la lc hv hsg hlt)
      have HGO := Lib.hid (hmRow_go H (qn max) k)
      clear ho hsg hbx hlt hk
      obtain ⟨x, hx⟩ : ∃ x, x = (idf H.nodes k : Int) := ⟨_, rfl⟩
      have HMC : Hid (hmC H (qn max) k = [.int .i64 x, .int .i64 (homeI H (qn max) x).1, .float .f64 (dw (homeI H (qn max) x).2)]) := Lib.hid (by rw [hx]; rfl)
      rw [← hx] at HHO
      obtain ⟨rh, hrh⟩ : ∃ rh, rh = (homeI H (qn max) x).1 := ⟨_, rfl⟩
      obtain ⟨rr, hrr⟩ : ∃ rr, rr = dw (homeI H (qn max) x).2 := ⟨_, rfl⟩
      rw [← hrh, ← hrr] at HMC HHO
      clear hx hrh hrr
      go_wp2_with fail
      refine HHO.out.mono ?_
      rintro e w10 ⟨rfl, hs10, hx10⟩
      have HS10 := Lib.hid hs10
      have ho10 : Own w10 ob 50 3 (.slice al k cl) k (hmRow H (qn max) k) := HOW.out.keep (fun j cur hj => hx10.block j (Array.getElem?_eq_some_iff.1 hj).1 (fun e => by
        subst e
        obtain ⟨vs, h1, -⟩ := HSW.out.rows
        rw [h1] at hj; cases hj))
      have hsz := hx10.size
      obtain ⟨W8, hW8⟩ : ∃ W8, W8 = w10.alloc (.cells #[.int .i64 x, .int .i64 rh, .float .f64 rr] 50) := ⟨_, rfl⟩
      have b8 : Below w10.heap.size w10 W8 := by rw [hW8]; exact gAl _ _
      have r8 : W8.heap[w10.heap.size]? = some (.cells #[.int .i64 x, .int .i64 rh, .float .f64 rr] 50 (0, 0)) := by rw [hW8]; exact heap_alloc_new w10 _
      have hbase : ob ≤ W8.heap.size := by have := HOB.out; have := HXW.out.size; have := b8.size; omega
      obtain ⟨v2, Wn, hrun, hrow, hkq⟩ := own_app (P := Tryz.prog) (vb := w10.heap.size) (vs := [.int .i64 x, .int .i64 rh, .float .f64 rr]) Tryz.underlying46 hmInfo rfl (ho10.below b8) hbase r8 rfl (by intro v hv; simp only [List.mem_cons, List.not_mem_nil, or_false] at hv; rcases hv with rfl | rfl | rfl <;> rfl) (by have := HK1.out.1; have := HNL.out; omega) (by have := HK1.out.1; have := HNL.out; omega)
      obtain ⟨va2, vc2, rfl⟩ := hrow.slice
      have HRW : Hid (Own Wn ob 50 3 (.slice va2 (k + 1) vc2) (k + 1) (hmRow H (qn max) (k + 1))) := Lib.hid (by rw [HGO.out, HMC.out]; exact hrow)
      have HSN := Lib.hid ((HS10.out.below b8).kq (ho10.below b8) hkq (by unfold SgT; decide) (by have := HLO.out; have := HOB.out; omega))
      have HBN : Hid (BelowX ob db w Wn) := Lib.hid ((HXW.out.trans ⟨hx10.os, hx10.tape, hx10.output, hx10.size, fun j hj hx => hx10.block j (by have := HOB.out; have := HXW.out.size; omega) hx⟩).trans (BelowX.of_below ((b8.mono (by have := HOB.out; have := HXW.out.size; omega)).trans (Kq.below2 hkq (ho10.below b8) hbase))))
      rw [hW8] at hrun
      have HR := Lib.hid hrun
      clear hrun hrow hkq hbase b8 r8 hs10 hx10 ho10 hsz hW8
      go_wp2_with (at_builtin; refine Lib.wpList_append_run _ rfl _ _ _ _ rfl _ _ rfl rfl _ _ (HR.out _) ?_)
      refine ⟨⟨k + 1, congrArg (Value.int .i64) HK1.out.2.2.2, HK1.out.1, HRW.out, HSN.out, HBN.out⟩, ?_⟩
      show H.nodes.length - ((k : Int) + 1).toNat < H.nodes.length - (k : Int).toNat
      rw [HK1.out.2.2.1]
      exact HK1.out.2.1
    · have hnk : ¬ (k : Int) < (H.nodes.length : Int) := by omega
      have hke : k = H.nodes.length := by omega
      have HRES : Hid (Own wo ob 50 3 (.slice al H.nodes.length cl) H.nodes.length (hmRow H (qn max) H.nodes.length)) := Lib.hid (by rw [← hke]; exact HOW.out)
      subst hke
      clear hlt ho hsg hbx
      go_wp2_with fail
      go_ret
      exact ⟨_, rfl, HRES.out, HSW.out, HXW.out⟩
/-- What kind tells. -/
noncomputable def kindP (H : Gr) (lim at_ to_ : Nat) (nd : Nd) : Int := if at_ = to_ then 0 else kindI H lim (idf H.nodes at_ : Int) nd
theorem kindP_same {H : Gr} {lim at_ to_ : Nat} {nd : Nd} (h : at_ = to_) : kindP H lim at_ to_ nd = 0 := by unfold kindP; rw [if_pos h]
theorem kindP_mark {H : Gr} {lim at_ to_ : Nat} {nd : Nd} (h : at_ ≠ to_) (hm : nd.mark = true) : kindP H lim at_ to_ nd = if dI H lim (idf H.nodes at_ : Int) nd.id = none ∧ nearI H lim (idf H.nodes at_ : Int) nd.id = false then 0 else 1 := by unfold kindP kindI; rw [if_neg h, if_pos hm]
theorem kindP_ball {H : Gr} {lim at_ to_ : Nat} {nd : Nd} (h : at_ ≠ to_) (hm : nd.mark = false) : kindP H lim at_ to_ nd = if ltO (dI H lim (idf H.nodes at_ : Int) nd.id) (homeI H lim nd.id).2 = true then 2 else if (idf H.nodes at_ : Int) = (homeI H lim nd.id).1 then 3 else 0 := by unfold kindP kindI; rw [if_neg h, if_neg (by rw [hm]; decide)]
set_option maxHeartbeats 16000000 in
theorem bKind_any (at_ to_ : Nat) (w : World) (sb db B0 : Nat) (H : Gr) (max : Nat) (na : Option Addr) (nc : Nat) (la : Option Addr) (lc : Nat) (hv : Value) (h : Sg w sb db B0 H max na nc la lc hv) (hat : at_ < H.nodes.length) (hto : to_ < H.nodes.length) :
    Calls Tryz.prog 35 #[.pointer (some ⟨sb, 0, none⟩), .int .i64 (at_ : Int), .int .i64 (to_ : Int), .agg #[.int .i64 (idf H.nodes to_ : Int), .int .i64 (homeI H (qn max) (idf H.nodes to_ : Int)).1, .float .f64 (dw (homeI H (qn max) (idf H.nodes to_ : Int)).2)]] w fun e w' => e = .returned (.int .i64 (kindP H (qn max) at_ to_ H.nodes[to_])) ∧ Sg w' sb db B0 H max na nc la lc hv ∧ BelowX w.heap.size db w w' := by
  have hst := g_storeL
  have HSM := Lib.hid (dst_sm h.bg.hz h.bg.hw h.bg.small.2.1 to_ at_)
  have HSM2 : Hid (Sm (homeI H (qn max) (idf H.nodes to_ : Int)).2) := Lib.hid (by
    rcases home_is (g := H) (qn max) (idf H.nodes to_ : Int) with ⟨-, e⟩ | ⟨m, -, -, -, -, e, -⟩
    · rw [e]; trivial
    · rw [e]; exact dI_sm h.bg.hz h.bg.hw h.bg.small.2.1 _ _)
  have hKS := @kindP_same H (qn max) at_ to_ H.nodes[to_]
  have hKM := @kindP_mark H (qn max) at_ to_ H.nodes[to_]
  have hKB := @kindP_ball H (qn max) at_ to_ H.nodes[to_]
  rw [h.bg.id hto, dI_at h.bg.hz (qn max) hat hto] at hKM hKB
  obtain ⟨Z, hZ⟩ : ∃ Z, Z = kindP H (qn max) at_ to_ H.nodes[to_] := ⟨_, rfl⟩
  rw [← hZ] at hKS hKM hKB ⊢
  obtain ⟨nb, no, hna, hnb, hnc⟩ := h.nodes.at to_ hto
  obtain ⟨-, -, nm⟩ := hnc to_ hto
  obtain ⟨na0, -, -⟩ := hnc at_ hat
  rw [h.bg.id hat] at na0
  have HNM : Hid (∀ V : World, V.heap[nb]? = w.heap[nb]? → V.cell? ⟨nb, no + to_ * 3 + 2, none⟩ = some (.bool (H.nodes[to_]).mark) ∧ V.cell? ⟨nb, no + at_ * 3, none⟩ = some (.int .i64 (idf H.nodes at_ : Int))) := Lib.hid (fun V hV => ⟨(World.cell?_of_block hV).trans nm, (World.cell?_of_block hV).trans na0⟩)
  have HNB : Hid (nb < w.heap.size ∧ nb ≠ db) := Lib.hid (by have := h.low; have := h.sbs; omega)
  have hati : (at_ : Int) < (H.nodes.length : Int) := by omega
  have hat0 : (0 : Int) ≤ (at_ : Int) := by omega
  have htoi : (to_ : Int) < (H.nodes.length : Int) := by omega
  have hto0 : (0 : Int) ≤ (to_ : Int) := by omega
  obtain ⟨x, hx⟩ : ∃ x, x = (idf H.nodes to_ : Int) := ⟨_, rfl⟩
  obtain ⟨y, hy⟩ : ∃ y, y = (idf H.nodes at_ : Int) := ⟨_, rfl⟩
  have HNR := Lib.hid (fun V (hV : Sg V sb db B0 H max na nc la lc hv) => bNear_any at_ to_ V sb db B0 H max na nc la lc hv hV hat hto)
  rw [← hx] at HSM2 hKM hKB HNR ⊢
  rw [← hy] at hKM hKB HNM HNR
  obtain ⟨W1, hW1⟩ : ∃ W1, W1 = w.alloc (.cells #[.int .i64 x, .int .i64 (homeI H (qn max) x).1, .float .f64 (dw (homeI H (qn max) x).2)] 50) := ⟨_, rfl⟩
  have b1 : Below w.heap.size w W1 := by rw [hW1]; exact gAl _ _
  have r1 : W1.heap[w.heap.size]? = some (.cells #[.int .i64 x, .int .i64 (homeI H (qn max) x).1, .float .f64 (dw (homeI H (qn max) x).2)] 50 (0, 0)) := by rw [hW1]; exact heap_alloc_new w _
  have s1 : w.heap.size < W1.heap.size := by rw [hW1]; simp
  obtain ⟨pb, hpb⟩ : ∃ pb, pb = w.heap.size := ⟨_, rfl⟩
  rw [← hpb] at r1 s1
  have HPB : Hid (pb < W1.heap.size ∧ pb ≠ db) := Lib.hid ⟨s1, by have := h.dbs; omega⟩
  obtain ⟨r, hr⟩ : ∃ r, r = homeI H (qn max) x := ⟨_, rfl⟩
  rw [← hr] at hW1 r1 hKB HSM2 ⊢
  clear hr
  obtain ⟨rh, rr⟩ := r
  simp only at hW1 r1 hKB HSM2 ⊢
  have HLT := Lib.hid (dw_lt HSM.out HSM2.out)
  obtain ⟨D, hD⟩ : ∃ D, D = g_ (dst H (qn max) to_) at_ := ⟨_, rfl⟩
  have HDI := Lib.hid (bDist_any at_ to_ W1 sb db B0 H max na nc la lc hv (h.below b1) hat hto)
  rw [← hD] at HSM HLT hKM hKB HDI
  have HFR := Lib.hid (fun W => bFar_any D HSM.out W)
  obtain ⟨d1, hd1⟩ : ∃ d1, d1 = dw D := ⟨_, rfl⟩
  obtain ⟨d2, hd2⟩ : ∃ d2, d2 = dw rr := ⟨_, rfl⟩
  rw [← hd1] at HFR HLT HDI
  rw [← hd2] at HLT hW1 r1 ⊢
  have HR1 : Hid (∀ V : World, V.heap[pb]? = W1.heap[pb]? → V.cell? ⟨pb, 1, none⟩ = some (.int .i64 rh) ∧ V.cell? ⟨pb, 2, none⟩ = some (.float .f64 d2)) := Lib.hid (fun V hV => by
    have h := hV.trans r1
    exact ⟨by rw [cell_of_row V _ 1 _ _ (0, 0) h]; rfl, by rw [cell_of_row V _ 2 _ _ (0, 0) h]; rfl⟩)
  have HB1 := Lib.hid b1
  have HKS := Lib.hid hKS
  have HKM := Lib.hid hKM
  have HKB := Lib.hid hKB
  subst hna
  have hab : at_ ≠ to_ → ((at_ : Int) == (to_ : Int)) = false := fun e => by simp; omega
  have hab2 : at_ = to_ → ((at_ : Int) == (to_ : Int)) = true := fun e => by simp [e]
  have HW1 : Hid (BelowX w.heap.size db w W1) := Lib.hid (BelowX.of_below b1)
  have HNN : Hid (nb < W1.heap.size ∧ (∀ V : World, V.heap[nb]? = W1.heap[nb]? → V.heap[nb]? = w.heap[nb]?)) := Lib.hid ⟨Nat.lt_of_lt_of_le HNB.out.1 b1.size, fun V hV => hV.trans (b1.block nb HNB.out.1)⟩
  generalize H.nodes[to_] = nd at *
  obtain ⟨ndi, ndu, mk⟩ := nd
  simp only at HKM HKB HNM
  clear h hat hto hZ hnc hnb nm na0 hx hy r1 s1 hKS hKM hKB hD hd1 hd2 b1
  by_cases hne : at_ = to_
  · have e1 := hab2 hne
    have HZ := Lib.hid (HKS.out hne)
    clear hne hab hab2 HKS HKM HKB
    go_enter Tryz.func35, Tryz.ntmps35
    go_upto_region 1 with (fail)
    rw [← hW1, ← hpb]
    clear hW1 hpb
    go_wp2_with fail
    refine HDI.out.mono ?_
    rintro e W2 ⟨rfl, hs2, hx2⟩
    have HS2 := Lib.hid hs2
    have HX2 := Lib.hid (bx_next HW1.out hx2)
    obtain ⟨c0, c1, c2, c3, c4⟩ := hs2.five
    obtain ⟨n2, n0⟩ := HNM.out W2 (HNN.out.2 W2 (hx2.block nb HNN.out.1 HNB.out.2))
    obtain ⟨p1, p2⟩ := HR1.out W2 (hx2.block pb HPB.out.1 HPB.out.2)
    try simp only at n2
    clear hs2 hx2
    go_wp2_with fail
    go_ret
    refine ⟨?_, HS2.out, HX2.out⟩
    rw [HZ.out]; rfl
  · have e1 := hab hne
    have HNE := Lib.hid hne
    clear hne hab hab2 HKS
    cases mk with
    | true =>
      have HZ := Lib.hid (HKM.out HNE.out rfl)
      cases hDD : D with
      | some n =>
        rw [hDD] at HZ HFR
        clear HKM HKB hDD
        go_enter Tryz.func35, Tryz.ntmps35
        go_upto_region 1 with (fail)
        rw [← hW1, ← hpb]
        clear hW1 hpb
        go_wp2_with fail
        refine HDI.out.mono ?_
        rintro e W2 ⟨rfl, hs2, hx2⟩
        have HS2 := Lib.hid hs2
        have HX2 := Lib.hid (bx_next HW1.out hx2)
        obtain ⟨c0, c1, c2, c3, c4⟩ := hs2.five
        obtain ⟨n2, n0⟩ := HNM.out W2 (HNN.out.2 W2 (hx2.block nb HNN.out.1 HNB.out.2))
        obtain ⟨p1, p2⟩ := HR1.out W2 (hx2.block pb HPB.out.1 HPB.out.2)
        try simp only at n2
        clear hs2 hx2
        go_upto_region 5 with (fail)
        clear c0 c1 c2 c3 c4 n2 n0 p1 p2
        go_wp2_with fail
        refine (HFR.out _).mono ?_
        rintro e w' ⟨rfl, rfl⟩
        go_wp2_with fail
        go_ret
        refine ⟨?_, HS2.out, HX2.out⟩
        rw [HZ.out]; simp
      | none =>
        rw [hDD] at HZ HFR
        clear HKM HKB hDD
        go_enter Tryz.func35, Tryz.ntmps35
        go_upto_region 1 with (fail)
        rw [← hW1, ← hpb]
        clear hW1 hpb
        go_wp2_with fail
        refine HDI.out.mono ?_
        rintro e W2 ⟨rfl, hs2, hx2⟩
        have HS2 := Lib.hid hs2
        have HX2 := Lib.hid (bx_next HW1.out hx2)
        obtain ⟨c0, c1, c2, c3, c4⟩ := hs2.five
        obtain ⟨n2, n0⟩ := HNM.out W2 (HNN.out.2 W2 (hx2.block nb HNN.out.1 HNB.out.2))
        obtain ⟨p1, p2⟩ := HR1.out W2 (hx2.block pb HPB.out.1 HPB.out.2)
        try simp only at n2
        clear hs2 hx2
        go_upto_region 5 with (fail)
        clear c0 c1 c2 c3 c4 n2 n0 p1 p2
        go_wp2_with fail
        refine (HFR.out _).mono ?_
        rintro e w' ⟨rfl, rfl⟩
        go_wp2_with fail
        refine (HNR.out W2 HS2.out).mono ?_
        rintro e W5 ⟨rfl, hs5, hx5⟩
        have HS5 := Lib.hid hs5
        have HX5 := Lib.hid (bx_next HX2.out hx5)
        clear hs5 hx5
        obtain ⟨nv, hnv⟩ : ∃ nv, nv = nearI H (qn max) y x := ⟨_, rfl⟩
        rw [← hnv] at HZ ⊢
        clear hnv
        cases nv with
        | true =>
          go_wp2_with fail
          go_ret
          refine ⟨?_, HS5.out, HX5.out⟩
          rw [HZ.out]; simp
        | false =>
          go_wp2_with fail
          go_ret
          refine ⟨?_, HS5.out, HX5.out⟩
          rw [HZ.out]; simp
    | false =>
      have HZ := Lib.hid (HKB.out HNE.out rfl)
      obtain ⟨bl, hbl⟩ : ∃ bl, bl = ltO D rr := ⟨_, rfl⟩
      rw [← hbl] at HZ HLT
      have hlt := HLT.out
      clear hbl HKM HKB
      cases bl with
      | true =>
        go_enter Tryz.func35, Tryz.ntmps35
        go_upto_region 1 with (fail)
        rw [← hW1, ← hpb]
        clear hW1 hpb
        go_wp2_with fail
        refine HDI.out.mono ?_
        rintro e W2 ⟨rfl, hs2, hx2⟩
        have HS2 := Lib.hid hs2
        have HX2 := Lib.hid (bx_next HW1.out hx2)
        obtain ⟨c0, c1, c2, c3, c4⟩ := hs2.five
        obtain ⟨n2, n0⟩ := HNM.out W2 (HNN.out.2 W2 (hx2.block nb HNN.out.1 HNB.out.2))
        obtain ⟨p1, p2⟩ := HR1.out W2 (hx2.block pb HPB.out.1 HPB.out.2)
        try simp only at n2
        clear hs2 hx2
        go_wp2_with fail
        go_ret
        refine ⟨?_, HS2.out, HX2.out⟩
        rw [HZ.out]; simp
      | false =>
        by_cases hyr : y = rh
        · have e2 : (y == rh) = true := by simpa using hyr
          have HYR := Lib.hid hyr
          clear hyr
          go_enter Tryz.func35, Tryz.ntmps35
          go_upto_region 1 with (fail)
          rw [← hW1, ← hpb]
          clear hW1 hpb
          go_wp2_with fail
          refine HDI.out.mono ?_
          rintro e W2 ⟨rfl, hs2, hx2⟩
          have HS2 := Lib.hid hs2
          have HX2 := Lib.hid (bx_next HW1.out hx2)
          obtain ⟨c0, c1, c2, c3, c4⟩ := hs2.five
          obtain ⟨n2, n0⟩ := HNM.out W2 (HNN.out.2 W2 (hx2.block nb HNN.out.1 HNB.out.2))
          obtain ⟨p1, p2⟩ := HR1.out W2 (hx2.block pb HPB.out.1 HPB.out.2)
          try simp only at n2
          clear hs2 hx2
          go_upto_region 10 with (fail)
          go_quiet (fail)
          go_wp2_with fail
          go_ret
          refine ⟨?_, HS2.out.below (Go.Iq.below_drewN (Below.refl _ _) _), bx_below HX2.out (Go.Iq.below_drewN (Below.refl _ _) _)⟩
          rw [HZ.out]; simp [HYR.out]
        · have e2 : (y == rh) = false := by simpa using hyr
          have HYR := Lib.hid hyr
          clear hyr
          go_enter Tryz.func35, Tryz.ntmps35
          go_upto_region 1 with (fail)
          rw [← hW1, ← hpb]
          clear hW1 hpb
          go_wp2_with fail
          refine HDI.out.mono ?_
          rintro e W2 ⟨rfl, hs2, hx2⟩
          have HS2 := Lib.hid hs2
          have HX2 := Lib.hid (bx_next HW1.out hx2)
          obtain ⟨c0, c1, c2, c3, c4⟩ := hs2.five
          obtain ⟨n2, n0⟩ := HNM.out W2 (HNN.out.2 W2 (hx2.block nb HNN.out.1 HNB.out.2))
          obtain ⟨p1, p2⟩ := HR1.out W2 (hx2.block pb HPB.out.1 HPB.out.2)
          try simp only at n2
          clear hs2 hx2
          go_upto_region 10 with (fail)
          go_quiet (fail)
          go_wp2_with fail
          go_ret
          refine ⟨?_, HS2.out.below (Go.Iq.below_drewN (Below.refl _ _) _), bx_below HX2.out (Go.Iq.below_drewN (Below.refl _ _) _)⟩
          rw [HZ.out]; simp [HYR.out]
end Go.Proofs.YtjlfpjjfldbknaaGreat
