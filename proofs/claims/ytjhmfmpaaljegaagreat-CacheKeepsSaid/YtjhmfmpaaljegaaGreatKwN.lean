/- Caches, the document: Learn, Same. -/
import Derived.Test.YtjhmfmpaaljegaaGreatKwK
import Derived.Test.YtjhmfmpaaljegaaGreatKwL
import Derived.Test.YtjhmfmpaaljegaaGreatKwM
namespace Go.Proofs.YtjhmfmpaaljegaaGreat
open Go.RowKit Go.Lib Go.Ow Go.Cw Go.Fq Go.Mq Go.Kq Go.Kw
set_option linter.unusedVariables false
set_option linter.unusedSimpArgs false
set_option maxRecDepth 100000

theorem fndN_spec (b : List Nw) (kd ds : Int) : (fndN b kd ds = none ∧ ∀ x ∈ b, ¬ (x.kind = kd ∧ x.dest = ds)) ∨ ∃ x ∈ b, (x.kind = kd ∧ x.dest = ds) ∧ fndN b kd ds = some x := by
  unfold fndN
  cases h : b.find? (fun x => x.kind == kd && x.dest == ds) with
  | none =>
    rw [List.find?_eq_none] at h
    exact Or.inl ⟨rfl, fun x hx e => h x hx (by simp [e.1, e.2])⟩
  | some x =>
    have h1 := List.mem_of_find?_eq_some h
    have h2 := List.find?_some h
    simp only [Bool.and_eq_true, beq_iff_eq] at h2
    exact Or.inr ⟨x, h1, h2, rfl⟩
theorem ky_eq {x y : Nw} (hx : newsB x = true) (hy : newsB y = true) : ky x = ky y ↔ x.kind = y.kind ∧ x.dest = y.dest := by
  obtain ⟨a1, a2, -⟩ := news_bd hx
  obtain ⟨b1, b2, -⟩ := news_bd hy
  unfold ky
  omega
theorem rise_mem {l : List Nw} (h : Rise l) {x y : Nw} (hx : x ∈ l) (hy : y ∈ l) (e : ky x = ky y) : x = y := by
  obtain ⟨i, hi, rfl⟩ := List.getElem_of_mem hx
  obtain ⟨j, hj, rfl⟩ := List.getElem_of_mem hy
  have hp := List.pairwise_iff_getElem.1 h
  rcases Nat.lt_trichotomy i j with c | c | c
  · have := hp i j hi hj c; omega
  · subst c; rfl
  · have := hp j i hj hi c; omega
theorem isCh_true {b : List Nw} {y : Nw} (hr : Rise b) (hb : ∀ x ∈ b, newsB x = true) (hy : newsB y = true) : isCh b true y = !(hasE b y) := by
  unfold isCh
  rcases fndN_spec b y.kind y.dest with ⟨h1, h2⟩ | ⟨x, hx, h2, h1⟩
  · rw [h1]
    cases he : hasE b y with
    | false => rfl
    | true => exact absurd ⟨rfl, rfl⟩ (h2 y (hasE_mem.1 he))
  · rw [h1]
    simp only [Bool.true_and]
    congr 1
    apply bool_ext
    rw [nwE_iff, hasE_mem]
    constructor
    · rintro rfl; exact hx
    · intro h3; exact rise_mem hr hx h3 ((ky_eq (hb x hx) hy).2 h2)
theorem isCh_false {b : List Nw} {y : Nw} (hb : ∀ x ∈ b, newsB x = true) (hy : newsB y = true) : isCh b false y = !(hasK b y) := by
  unfold isCh
  rcases fndN_spec b y.kind y.dest with ⟨h1, h2⟩ | ⟨x, hx, h2, h1⟩
  · rw [h1]
    cases he : hasK b y with
    | false => rfl
    | true =>
      obtain ⟨x, hx, e⟩ := hasK_mem.1 he
      exact absurd ((ky_eq (hb x hx) hy).1 e) (h2 x hx)
  · rw [h1, hasK_mem.2 ⟨x, hx, (ky_eq (hb x hx) hy).2 h2⟩]; rfl
theorem cnt_eq {old news : List Nw} (ho : OkN old) (hn : orderB news = true) (hf : ∀ x ∈ news, x.Fit) : cntCh (mrg old news) old true + cntCh old (mrg old news) false = chg old news := by
  obtain ⟨h1, h2⟩ := order_rise hn
  have hm := okN_mrg ho hn hf
  rw [chg_eq news old h1 ho.rise]
  unfold cntCh
  congr 1
  · exact List.countP_congr (fun y hy => by rw [isCh_true ho.rise ho.news (hm.news y hy)])
  · exact List.countP_congr (fun y hy => by rw [isCh_false hm.news (ho.news y hy)])
set_option maxHeartbeats 8000000 in
theorem rLearn_any {S : Nat → Prop} (l : List Hv) (a : Option Addr) (c : Nat) (id : Int) (news : List Nw) (na : Option Addr) (nc : Nat) (w : World) (h : HdIn S w l a) (ok : OkH (hds l)) (hin : NewsIn w w.heap.size news na) (hfit : ∀ x ∈ news, x.Fit) (hn62 : news.length < 4611686018427387904) :
    Calls Tryz.prog 21 #[.slice a l.length c, .int .i64 id, .slice na news.length nc] w fun e w' => DRet S w (learnR (hds l) id news).2.2 (fun v => .tuple #[v, .int .i64 ((learnR (hds l) id news).2.1 : Int), .int .i64 (learnR (hds l) id news).1]) e w' := by
  have hl : l.length ≤ 256 := by have := ok.len; rw [hds_len] at this; exact this
  have HS := Lib.hid (fun g w' (hb : Below w.heap.size w w') => DRet.same (c := c) (f := g) h hb)
  have HH := Lib.hid h
  have HP0 := rPlace_any l a c id w h hl
  have HCP := Lib.hid (fun W (hW : Below w.heap.size w W) => rCopy_any l a c W (h.below hW) hl (ok_small ok))
  have HTD := Lib.hid (rTold13_any news na nc w hin hfit hn62)
  obtain ⟨WR, hWR⟩ : ∃ WR, WR = learnR (hds l) id news := ⟨_, rfl⟩
  rw [← hWR]
  unfold learnR at hWR
  have HWR := Lib.hid hWR
  clear hWR
  go_enter Tryz.func21, Tryz.ntmps21
  go_wp2_with fail
  refine HP0.mono ?_
  rintro e w2 ⟨rfl, ⟨hno, rfl⟩ | ⟨k, hk, hid, rfl⟩⟩
  · have HF : Hid (WR = (4, 0, hds l)) := Lib.hid (by rw [HWR.out, fnd_noid hno])
    clear hno HP0 h ok hin hfit
    go_wp2_with fail
    refine bodyPost_ret (v := .tuple #[.slice a l.length c, .int .i64 0, .int .i64 4]) (by simp [results, Tryz.results21, go_sem]) rfl ?_
    rw [HF.out]
    exact HS.out (fun v => .tuple #[v, .int .i64 0, .int .i64 4]) _ (Below.refl _ _)
  · have hfn := fnd_idx ok.rise hk hid
    have hk0 : ¬ (k : Int) < 0 := by omega
    have hk00 : (0 : Int) ≤ (k : Int) := by omega
    have hkl : (k : Int) < (l.length : Int) := by omega
    cases ho : orderB news with
    | false =>
      rw [ho] at HTD
      have HF : Hid (WR = (1, 0, hds l)) := Lib.hid (by rw [HWR.out, hfn, ho]; rfl)
      clear HP0 h ok hin hfit hfn
      go_wp2_with (go_at_call 47; refine HTD.out.mono ?_; rintro e w2 ⟨rfl, hb2⟩; have HB2 := Lib.hid hb2; clear hb2)
      refine bodyPost_ret (v := .tuple #[.slice a l.length c, .int .i64 0, .int .i64 1]) (by simp [results, Tryz.results21, go_sem]) rfl ?_
      rw [HF.out]
      exact HS.out (fun v => .tuple #[v, .int .i64 0, .int .i64 1]) _ HB2.out
    | true =>
      rw [ho] at HTD
      have HF : Hid (WR = (0, chg l[k].1.ns news, updH (hds l) id ⟨l[k].1.id, l[k].1.wt, mrg l[k].1.ns news⟩)) := Lib.hid (by rw [HWR.out, hfn, ho]; rfl)
      have HU := Lib.hid (fun m (hm : hds m = hds l) hkm h' v => upd_idx ok.rise hm hk hkm h' v hid)
      have HX := Lib.hid (fun m (hm : hds m = hds l) hkm => idx_eq hm hk hkm)
      have hpm : l[k].1 ∈ hds l := List.mem_map.2 ⟨l[k], List.getElem_mem _, rfl⟩
      have hokn := ok.ns _ hpm
      have hor := order_rise ho
      have hmD := mD_eq hokn.rise hor.1
      have hokm := okN_mrg hokn ho hfit
      have hl1 := okN_len hokn
      have hl2 := okN_len hokm
      have hl3 := rise_len hor.1 hor.2
      have HCE := Lib.hid (cnt_eq hokn ho hfit)
      obtain ⟨b, ol, rfl, -, hbl, hat⟩ := HH.out.at hk
      obtain ⟨pa, pc, -, hpn, -, -, k2⟩ := hat k hk
      have HMG : Hid (∀ V, Below w.heap.size w V → Calls Tryz.prog 48 #[.slice pa l[k].1.ns.length pc, .slice na news.length nc] V fun e w' => NwRet V (mrg l[k].1.ns news) _root_.id e w') := Lib.hid (fun V hV => by
        rw [← hmD]
        exact rMerge_any l[k].1.ns news pa pc na nc V (hpn.below hV).news (hin.kept (fun i hi => hV.block i hi) hV.size) hokn.news (fun x hx => ⟨hor.2 x hx, hfit x hx⟩) hl1 hl3)
      have HKA : Hid (∀ V, Below w.heap.size w V → V.cell? ⟨b, ol + k * 3 + 2, none⟩ = some (.slice pa l[k].1.ns.length pc)) := Lib.hid (fun V hV => (hV.cell (p := ⟨b, _, none⟩) hbl).trans k2)
      have HPN := Lib.hid hpn
      have HLL := Lib.hid (And.intro hl1 (And.intro hl2 (And.intro hk hl)))
      clear HP0 h ok hin hfit hfn hat k2 hpn hokn hokm hmD hl1 hl2 hl3 hor hpm
      generalize l[k].1 = p at *
      go_upto_region 6 with (go_at_call 47; refine HTD.out.mono ?_; rintro e w2 ⟨rfl, hb2⟩; have HB2 := Lib.hid hb2; clear hb2)
      have k2 := HKA.out w2 HB2.out
      obtain ⟨ML, hML⟩ : ∃ ML, ML = mrg p.ns news := ⟨_, rfl⟩
      rw [← hML] at HMG HF HCE HLL
      clear hML
      go_upto_region 7 with (go_at_call 48; refine (HMG.out _ HB2.out).mono ?_; rintro e W2 ⟨hbm, aL, cL, rL, rfl, hrL, hoL⟩; have HB3 := Lib.hid (HB2.out.trans (hbm.mono HB2.out.size)); have HOL := Lib.hid hoL; clear hbm hrL hoL)
      clear k2
      go_upto_region 8 with (go_at_call 49; refine (HCP.out _ HB3.out).mono ?_; rintro e W3 ⟨m, a3, c3, hm, rfl, hbd⟩; have HM := Lib.hid (And.intro (show hds m = hds l from hm) hbd); clear hm hbd)
      have hkm : k < m.length := by have := congrArg List.length HM.out.1; rw [hds_len, hds_len] at this; have := HLL.out.2.2.1; omega
      have hkmi : (k : Int) < (m.length : Int) := by omega
      obtain ⟨r, o, rfl, hr, hrl, hcell, -, hset⟩ := bd_cell HM.out.2 hkm
      have HSET := Lib.hid hset
      have HCELL := Lib.hid hcell
      have HNW := Lib.hid (rNews_any ML aL cL W3 ((nr_nws HOL.out).below HM.out.2.2).news (by have := HLL.out.2.1; omega))
      clear hset hcell
      go_wp2_with fail
      refine HNW.out.mono ?_
      rintro e W4 ⟨hb4, a4, c4, r4, rfl, hr4, ho4⟩
      simp only [id_eq]
      obtain ⟨v1, hv1⟩ := Option.isSome_iff_exists.1 (HCELL.out 2 (by omega)).1
      have hv14 : W4.cell? ⟨r, o + k * 3 + 2, none⟩ = some v1 := (hb4.cell (p := ⟨r, _, none⟩) hrl).trans hv1
      have hfz : W4.frozen? ⟨r, o + k * 3 + 2, none⟩ = false := by
        have := (HCELL.out 2 (by omega)).2
        have e := hb4.block r hrl
        simp only [World.frozen?] at this ⊢
        rw [e]; exact this
      have hfin := HSET.out W4 ML a4 c4 hb4 (OwN.of_row ho4 hr4) HM.out.2.2.size
      rw [HX.out m HM.out.1 hkm] at hfin
      have HD1 := Lib.hid (HU.out m HM.out.1 hkm ⟨p.id, p.wt, ML⟩ (.slice a4 ML.length c4))
      have HFI := Lib.hid hfin
      clear hfin hv1 hb4 ho4 hr4
      go_upto_region 9 with (fail)
      obtain ⟨W5, hW5⟩ : ∃ W5, W5 = W4.setCell ⟨r, o + k * 3 + 2, none⟩ (.slice a4 ML.length c4) := ⟨_, rfl⟩
      rw [← hW5]
      rw [← hW5] at HFI
      clear hW5 hv14 hfz
      have hbW : Below W2.heap.size W2 W5 := HFI.out.2
      have hs2 := HB3.out.size
      have HOV : Hid (∀ V, Below W2.heap.size W2 V → NewsIn V V.heap.size ML aL ∧ NewsIn V V.heap.size p.ns pa ∧ V.cell? ⟨b, ol + k * 3 + 2, none⟩ = some (.slice pa p.ns.length pc)) := Lib.hid (fun V hV => ⟨((nr_nws HOL.out).below hV).news, (HPN.out.below (HB3.out.trans (hV.mono hs2))).news, HKA.out V (HB3.out.trans (hV.mono hs2))⟩)
      have HCT := Lib.hid (fun V (hV : Below W2.heap.size W2 V) => rChangedT ML p.ns aL pa cL pc V (HOV.out V hV).1 (HOV.out V hV).2.1 (by have := HLL.out; omega) (by have := HLL.out; omega))
      have HCF := Lib.hid (fun V (hV : Below W2.heap.size W2 V) => rChangedF p.ns ML pa aL pc cL V (HOV.out V hV).2.1 (HOV.out V hV).1 (by have := HLL.out; omega) (by have := HLL.out; omega))
      have HKA0 := HKA
      clear HKA
      have HKA : Hid (∀ V, Below W2.heap.size W2 V → V.cell? ⟨b, ol + k * 3 + 2, none⟩ = some (.slice pa p.ns.length pc)) := Lib.hid (fun V hV => (HOV.out V hV).2.2)
      have hce := HCE.out
      have hw1 : cntCh ML p.ns true ≤ 4294967294 := Nat.le_trans List.countP_le_length (by have := HLL.out; omega)
      have hw2 : cntCh p.ns ML false ≤ 4294967294 := Nat.le_trans List.countP_le_length (by have := HLL.out; omega)
      have hsum : IntKind.i64.wrap ((cntCh ML p.ns true : Int) + (cntCh p.ns ML false : Int)) = (chg p.ns news : Int) := by rw [IntKind.wrap_i64]; omega
      have HFIN : Hid (∀ V, Below W2.heap.size W2 V → (∀ j, j < W5.heap.size → V.heap[j]? = W5.heap[j]?) ∧ W5.heap.size ≤ V.heap.size → DRet S w WR.2.2 (fun v => .tuple #[v, .int .i64 (WR.2.1 : Int), .int .i64 WR.1]) (.returned (.tuple #[.slice (some ⟨r, o, none⟩) m.length c3, .int .i64 (chg p.ns news : Int), .int .i64 0])) V) := Lib.hid (fun V hV hk => by
        rw [HF.out]
        obtain ⟨⟨r9, h1, h2, h3⟩, h4⟩ := HFI.out
        have hbd : Bd W2.heap.size W2 (m.set k (⟨p.id, p.wt, ML⟩, .slice a4 ML.length c4)) (some ⟨r, o, none⟩) c3 V := ⟨⟨r9, h1.keep (fun cur hc => hk.1 r9 (Array.getElem?_eq_some_iff.1 hc).1), h2, h3.kept (fun j hj hjl => ⟨hk.1 j hjl, hj⟩) hk.2⟩, hV⟩
        have hd := DRet.of_bd (S := S) (f := fun v => .tuple #[v, .int .i64 (chg p.ns news : Int), .int .i64 0]) HD1.out (hbd.mono HB3.out hs2)
        rw [List.length_set] at hd
        exact hd)
      clear hce hw1 hw2 hs2
      refine wp_region_held_drew (S := fun V => Below W2.heap.size W2 V ∧ Below W5.heap.size W5 V) (by kernel_rfl) ⟨hbW.drew, (Below.refl _ W5).drew⟩ (fun hs0 => ?_)
      clear hbW
      refine tk 0 (by assumption) rfl (by kernel_rfl) (fun _ _ _ h => h) (fun V hV => by go_simp; try with_reducible rfl) ?_
      try simp only [Act.put, sqA, sqB, sqC, sqD, sqE, sqF]
      refine tk 1 (by assumption) rfl (by kernel_rfl) (fun _ _ _ h => h) (fun V hV => by go_simp; try with_reducible rfl) ?_
      try simp only [Act.put, sqA, sqB, sqC, sqD, sqE, sqF]
      refine tk 2 (by assumption) rfl (by kernel_rfl) (fun _ _ _ h => h) (fun V hV => by go_simp; try with_reducible rfl) ?_
      try simp only [Act.put, sqA, sqB, sqC, sqD, sqE, sqF]
      refine tk 3 (by assumption) rfl (by kernel_rfl) (fun _ _ _ h => h) (fun V hV => by go_simp; try with_reducible rfl) ?_
      try simp only [Act.put, sqA, sqB, sqC, sqD, sqE, sqF]
      refine tk 4 (by assumption) rfl (by kernel_rfl) (fun _ _ _ h => h) (fun V hV => by go_simp; try with_reducible rfl) ?_
      try simp only [Act.put, sqA, sqB, sqC, sqD, sqE, sqF]
      refine tk 5 (by assumption) rfl (by kernel_rfl) (fun _ _ _ h => h) (fun V hV => by go_simp; try with_reducible rfl) ?_
      try simp only [Act.put, sqA, sqB, sqC, sqD, sqE, sqF]
      refine tk 6 (by assumption) rfl (by kernel_rfl) (fun _ _ _ h => h) (fun V hV => by have hx0 := HKA.out V hV.1; go_simp; try with_reducible rfl) ?_
      try simp only [Act.put, sqA, sqB, sqC, sqD, sqE, sqF]
      refine tk 8 (by assumption) rfl (by kernel_rfl) (fun _ _ _ h => h) (fun V hV => by go_simp; try with_reducible rfl) ?_
      try simp only [Act.put, sqA, sqB, sqC, sqD, sqE, sqF]
      refine tk 9 (by assumption) rfl (by kernel_rfl) (fun _ _ _ h => h) (fun V hV => by go_simp; try with_reducible rfl) ?_
      try simp only [Act.put, sqA, sqB, sqC, sqD, sqE, sqF]
      refine tk 10 (by assumption) rfl (by kernel_rfl) (fun _ _ _ h => h) (fun V hV => by go_simp; try with_reducible rfl) ?_
      try simp only [Act.put, sqA, sqB, sqC, sqD, sqE, sqF]
      refine tk 11 (by assumption) rfl (by kernel_rfl) (fun _ _ _ h => h) (fun V hV => by go_simp; try with_reducible rfl) ?_
      try simp only [Act.put, sqA, sqB, sqC, sqD, sqE, sqF]
      refine tk 12 (by assumption) rfl (by kernel_rfl) (fun _ _ _ h => h) (fun V hV => by have hx0 := HKA.out V hV.1; go_simp; try with_reducible rfl) ?_
      try simp only [Act.put, sqA, sqB, sqC, sqD, sqE, sqF]
      refine tk 13 (by assumption) rfl (by kernel_rfl) (fun _ _ _ h => h) (fun V hV => by go_simp; try with_reducible rfl) ?_
      try simp only [Act.put, sqA, sqB, sqC, sqD, sqE, sqF]
      refine wpAnyH_ready (rs := [7]) (by kernel_rfl) (by simp) ?_
      refine AllReadyH.cons (o := _) rfl (fun K hK => ?_) AllReadyH.nil
      go_simp
      refine (HCT.out _ hs0.1).mono ?_
      rintro e2 V2 ⟨rfl, hb2⟩
      go_wp2_with fail
      refine hK.out _ _ ⟨hs0.1.trans (hb2.mono hs0.1.size), hs0.2.trans (hb2.mono hs0.2.size)⟩ (fun hs0 => ?_)
      clear hK K
      try simp only [Act.put, sqA, sqB, sqC, sqD, sqE, sqF]
      refine wpAnyH_ready (rs := [14]) (by kernel_rfl) (by simp) ?_
      refine AllReadyH.cons (o := _) rfl (fun K hK => ?_) AllReadyH.nil
      go_simp
      refine (HCF.out _ hs0.1).mono ?_
      rintro e2 V2 ⟨rfl, hb2⟩
      go_wp2_with fail
      refine hK.out _ _ ⟨hs0.1.trans (hb2.mono hs0.1.size), hs0.2.trans (hb2.mono hs0.2.size)⟩ (fun hs0 => ?_)
      clear hK K
      try simp only [Act.put, sqA, sqB, sqC, sqD, sqE, sqF]
      refine tk 15 (by assumption) rfl (by kernel_rfl) (fun _ _ _ h => h) (fun V hV => by go_simp; try with_reducible rfl) ?_
      try simp only [Act.put, sqA, sqB, sqC, sqD, sqE, sqF]
      refine tk 16 (by assumption) rfl (by kernel_rfl) (fun _ _ _ h => h) (fun V hV => by go_simp; try with_reducible rfl) ?_
      try simp only [Act.put, sqA, sqB, sqC, sqD, sqE, sqF]
      refine tk 17 (by assumption) rfl (by kernel_rfl) (fun _ _ _ h => h) (fun V hV => by go_simp; try with_reducible rfl) ?_
      try simp only [Act.put, sqA, sqB, sqC, sqD, sqE, sqF]
      refine tk 18 (by assumption) rfl (by kernel_rfl) (fun _ _ _ h => h) (fun V hV => by go_simp; try with_reducible rfl) ?_
      try simp only [Act.put, sqA, sqB, sqC, sqD, sqE, sqF]
      refine wpAnyH_done (by kernel_rfl) ?_ _
      have HS0 := Lib.hid hs0
      clear hs0
      go_wp2_with fail
      refine bodyPost_ret (v := .tuple #[.slice (some ⟨r, o, none⟩) m.length c3, .int .i64 (chg p.ns news : Int), .int .i64 0]) (by simp [results, Tryz.results21, go_sem]) rfl ?_
      exact HFIN.out _ HS0.out.1 ⟨fun j hj => HS0.out.2.block j hj, HS0.out.2.size⟩
set_option maxHeartbeats 8000000 in
theorem rSame_any {Sa Sb : Nat → Prop} (la lb : List Hv) (aa ab : Option Addr) (ca cb : Nat) (w : World) (ha : HdIn Sa w la aa) (hb : HdIn Sb w lb ab) (he : hds la = hds lb) (ok : OkH (hds lb)) :
    Calls Tryz.prog 14 #[.slice aa la.length ca, .slice ab lb.length cb] w fun e w' => e = .returned (.bool true) ∧ Below w.heap.size w w' := by
  have hlen : la.length = lb.length := by have := congrArg List.length he; rw [hds_len, hds_len] at this; exact this
  have hl : lb.length ≤ 256 := by have := ok.len; rw [hds_len] at this; exact this
  have HA := Lib.hid ha
  have HB := Lib.hid hb
  have HL := Lib.hid (And.intro hlen hl)
  have HE := Lib.hid (fun k (hk : k < la.length) (hkb : k < lb.length) => idx_eq (l := lb) (m := la) he (k := k) hkb hk)
  have HOK := Lib.hid ok
  have hle : (la.length != lb.length) = false := by simp [hlen]
  have hlei : ((la.length : Int) != (lb.length : Int)) = false := by simp [hlen]
  clear ha hb he hl ok
  go_enter Tryz.func14, Tryz.ntmps14
  go_wp2_with fail
  clear hle hlei hlen
  go_loopw [5] (fun iv wr => ∃ k : Nat, iv = .int .i64 (k : Int) ∧ k ≤ la.length ∧ Below w.heap.size w wr) (fun iv _ => la.length - (RowKit.intOf iv).toNat)
  case atStart => exact ⟨0, rfl, Nat.zero_le _, Below.refl _ _⟩
  case round =>
    obtain ⟨k, rfl, hk, hbel⟩ := hrel
    by_cases hlt : k < la.length
    · have hlti : (k : Int) < (la.length : Int) := by omega
      have hltb : (k : Int) < (lb.length : Int) := by have := HL.out.1; omega
      have hk0 : (0 : Int) ≤ (k : Int) := by omega
      have hkw : IntKind.i64.wrap ((k : Int) + 1) = (k : Int) + 1 := by rw [IntKind.wrap_i64]; have := HL.out; omega
      have hkb : k < lb.length := by have := HL.out.1; omega
      obtain ⟨b1, o1, rfl, -, hb1, hat1⟩ := HA.out.at hlt
      obtain ⟨na1, nc1, -, hn1, k0, k1, k2⟩ := hat1 k hlt
      obtain ⟨b2, o2, rfl, -, hb2, hat2⟩ := HB.out.at hkb
      obtain ⟨na2, nc2, -, hn2, l0, l1, l2⟩ := hat2 k hkb
      have hpe := HE.out k hlt hkb
      rw [hpe] at hn1 k0 k1 k2
      have hlen2 := okN_len (HOK.out.ns lb[k].1 (List.mem_map.2 ⟨lb[k], List.getElem_mem _, rfl⟩))
      clear hat1 hat2 hpe
      generalize lb[k].1 = p at *
      have HKA : Hid (∀ V, Below w.heap.size w V → V.cell? ⟨b1, o1 + k * 3, none⟩ = some (.int .i64 p.id) ∧ V.cell? ⟨b1, o1 + k * 3 + 1, none⟩ = some (.float .f64 p.wt) ∧ V.cell? ⟨b1, o1 + k * 3 + 2, none⟩ = some (.slice na1 p.ns.length nc1) ∧ V.cell? ⟨b2, o2 + k * 3, none⟩ = some (.int .i64 p.id) ∧ V.cell? ⟨b2, o2 + k * 3 + 1, none⟩ = some (.float .f64 p.wt) ∧ V.cell? ⟨b2, o2 + k * 3 + 2, none⟩ = some (.slice na2 p.ns.length nc2)) := Lib.hid (fun V hV => ⟨(hV.cell (p := ⟨b1, _, none⟩) hb1).trans k0, (hV.cell (p := ⟨b1, _, none⟩) hb1).trans k1, (hV.cell (p := ⟨b1, _, none⟩) hb1).trans k2, (hV.cell (p := ⟨b2, _, none⟩) hb2).trans l0, (hV.cell (p := ⟨b2, _, none⟩) hb2).trans l1, (hV.cell (p := ⟨b2, _, none⟩) hb2).trans l2⟩)
      have HWS : Hid (∀ V, Below w.heap.size w V → Calls Tryz.prog 37 #[.float .f64 p.wt, .float .f64 p.wt] V fun e w' => e = .returned (.bool true) ∧ Below V.heap.size V w') := Lib.hid (fun V _ => (same_any p.wt p.wt V).mono (by rintro e w' ⟨rfl, rfl⟩; exact ⟨by simp, Below.refl _ _⟩))
      have HNS : Hid (∀ V, Below w.heap.size w V → Calls Tryz.prog 13 #[.slice na1 p.ns.length nc1, .slice na2 p.ns.length nc2] V fun e w' => e = .returned (.bool true) ∧ Below V.heap.size V w') := Lib.hid (fun V hV => (rSameNews_any p.ns p.ns na1 nc1 na2 nc2 V.heap.size V (hn1.below hV).news (hn2.below hV).news (Nat.le_refl _) (by omega)).mono (by
        rintro e w' ⟨⟨r, rfl, hr⟩, hb⟩
        obtain rfl : r = true := hr.2 rfl
        exact ⟨rfl, hb⟩))
      have hne : (p.id != p.id) = false := by simp
      clear k0 k1 k2 l0 l1 l2 hn1 hn2 hb1 hb2 hlen2 hkb
      go_upto_region 6 with (fail)
      refine wp_region_held_drew (S := fun V => Below w.heap.size w V) (by kernel_rfl) hbel.drew (fun hs0 => ?_)
      clear hbel
      refine tk 0 (by assumption) rfl (by kernel_rfl) (fun _ _ _ h => h) (fun V hV => by go_simp; try with_reducible rfl) ?_
      try simp only [Act.put, sqA, sqB, sqC, sqD, sqE, sqF]
      refine tk 1 (by assumption) rfl (by kernel_rfl) (fun _ _ _ h => h) (fun V hV => by go_simp; try with_reducible rfl) ?_
      try simp only [Act.put, sqA, sqB, sqC, sqD, sqE, sqF]
      refine tk 2 (by assumption) rfl (by kernel_rfl) (fun _ _ _ h => h) (fun V hV => by go_simp; try with_reducible rfl) ?_
      try simp only [Act.put, sqA, sqB, sqC, sqD, sqE, sqF]
      refine tk 3 (by assumption) rfl (by kernel_rfl) (fun _ _ _ h => h) (fun V hV => by go_simp; try with_reducible rfl) ?_
      try simp only [Act.put, sqA, sqB, sqC, sqD, sqE, sqF]
      refine tk 4 (by assumption) rfl (by kernel_rfl) (fun _ _ _ h => h) (fun V hV => by obtain ⟨hx0, hx1, hx2, hx3, hx4, hx5⟩ := HKA.out V hV; go_simp; try with_reducible rfl) ?_
      try simp only [Act.put, sqA, sqB, sqC, sqD, sqE, sqF]
      refine tk 5 (by assumption) rfl (by kernel_rfl) (fun _ _ _ h => h) (fun V hV => by go_simp; try with_reducible rfl) ?_
      try simp only [Act.put, sqA, sqB, sqC, sqD, sqE, sqF]
      refine tk 6 (by assumption) rfl (by kernel_rfl) (fun _ _ _ h => h) (fun V hV => by go_simp; try with_reducible rfl) ?_
      try simp only [Act.put, sqA, sqB, sqC, sqD, sqE, sqF]
      refine tk 7 (by assumption) rfl (by kernel_rfl) (fun _ _ _ h => h) (fun V hV => by go_simp; try with_reducible rfl) ?_
      try simp only [Act.put, sqA, sqB, sqC, sqD, sqE, sqF]
      refine tk 8 (by assumption) rfl (by kernel_rfl) (fun _ _ _ h => h) (fun V hV => by go_simp; try with_reducible rfl) ?_
      try simp only [Act.put, sqA, sqB, sqC, sqD, sqE, sqF]
      refine tk 9 (by assumption) rfl (by kernel_rfl) (fun _ _ _ h => h) (fun V hV => by obtain ⟨hx0, hx1, hx2, hx3, hx4, hx5⟩ := HKA.out V hV; go_simp; try with_reducible rfl) ?_
      try simp only [Act.put, sqA, sqB, sqC, sqD, sqE, sqF]
      refine tk 10 (by assumption) rfl (by kernel_rfl) (fun _ _ _ h => h) (fun V hV => by go_simp; try with_reducible rfl) ?_
      try simp only [Act.put, sqA, sqB, sqC, sqD, sqE, sqF]
      refine tk 11 (by assumption) rfl (by kernel_rfl) (fun _ _ _ h => h) (fun V hV => by go_simp; try with_reducible rfl) ?_
      try simp only [Act.put, sqA, sqB, sqC, sqD, sqE, sqF]
      refine tk 12 (by assumption) rfl (by kernel_rfl) (fun _ _ _ h => h) (fun V hV => by go_simp; try with_reducible rfl) ?_
      try simp only [Act.put, sqA, sqB, sqC, sqD, sqE, sqF]
      refine tk 13 (by assumption) rfl (by kernel_rfl) (fun _ _ _ h => h) (fun V hV => by go_simp; try with_reducible rfl) ?_
      try simp only [Act.put, sqA, sqB, sqC, sqD, sqE, sqF]
      refine tk 14 (by assumption) rfl (by kernel_rfl) (fun _ _ _ h => h) (fun V hV => by go_simp; try with_reducible rfl) ?_
      try simp only [Act.put, sqA, sqB, sqC, sqD, sqE, sqF]
      refine tk 15 (by assumption) rfl (by kernel_rfl) (fun _ _ _ h => h) (fun V hV => by go_simp; try with_reducible rfl) ?_
      try simp only [Act.put, sqA, sqB, sqC, sqD, sqE, sqF]
      refine tk 16 (by assumption) rfl (by kernel_rfl) (fun _ _ _ h => h) (fun V hV => by obtain ⟨hx0, hx1, hx2, hx3, hx4, hx5⟩ := HKA.out V hV; go_simp; try with_reducible rfl) ?_
      try simp only [Act.put, sqA, sqB, sqC, sqD, sqE, sqF]
      refine tk 17 (by assumption) rfl (by kernel_rfl) (fun _ _ _ h => h) (fun V hV => by go_simp; try with_reducible rfl) ?_
      try simp only [Act.put, sqA, sqB, sqC, sqD, sqE, sqF]
      refine tk 18 (by assumption) rfl (by kernel_rfl) (fun _ _ _ h => h) (fun V hV => by go_simp; try with_reducible rfl) ?_
      try simp only [Act.put, sqA, sqB, sqC, sqD, sqE, sqF]
      refine tk 19 (by assumption) rfl (by kernel_rfl) (fun _ _ _ h => h) (fun V hV => by go_simp; try with_reducible rfl) ?_
      try simp only [Act.put, sqA, sqB, sqC, sqD, sqE, sqF]
      refine tk 20 (by assumption) rfl (by kernel_rfl) (fun _ _ _ h => h) (fun V hV => by go_simp; try with_reducible rfl) ?_
      try simp only [Act.put, sqA, sqB, sqC, sqD, sqE, sqF]
      refine tk 21 (by assumption) rfl (by kernel_rfl) (fun _ _ _ h => h) (fun V hV => by obtain ⟨hx0, hx1, hx2, hx3, hx4, hx5⟩ := HKA.out V hV; go_simp; try with_reducible rfl) ?_
      try simp only [Act.put, sqA, sqB, sqC, sqD, sqE, sqF]
      refine wpAnyH_ready (rs := [22]) (by kernel_rfl) (by simp) ?_
      refine AllReadyH.cons (o := _) rfl (fun K hK => ?_) AllReadyH.nil
      go_simp
      try rw [if_pos (by rfl)]
      refine (HWS.out _ hs0).mono ?_
      rintro e2 V2 ⟨rfl, hb2⟩
      go_wp2_with fail
      refine hK.out _ _ (hs0.trans (hb2.mono hs0.size)) (fun hs0 => ?_)
      clear hK K
      try simp only [Act.put, sqA, sqB, sqC, sqD, sqE, sqF]
      refine tk 23 (by assumption) rfl (by kernel_rfl) (fun _ _ _ h => h) (fun V hV => by go_simp; try with_reducible rfl) ?_
      try simp only [Act.put, sqA, sqB, sqC, sqD, sqE, sqF]
      refine tk 24 (by assumption) rfl (by kernel_rfl) (fun _ _ _ h => h) (fun V hV => by go_simp; try with_reducible rfl) ?_
      try simp only [Act.put, sqA, sqB, sqC, sqD, sqE, sqF]
      refine tk 25 (by assumption) rfl (by kernel_rfl) (fun _ _ _ h => h) (fun V hV => by go_simp; try with_reducible rfl) ?_
      try simp only [Act.put, sqA, sqB, sqC, sqD, sqE, sqF]
      refine tk 26 (by assumption) rfl (by kernel_rfl) (fun _ _ _ h => h) (fun V hV => by go_simp; try with_reducible rfl) ?_
      try simp only [Act.put, sqA, sqB, sqC, sqD, sqE, sqF]
      refine tk 27 (by assumption) rfl (by kernel_rfl) (fun _ _ _ h => h) (fun V hV => by go_simp; try with_reducible rfl) ?_
      try simp only [Act.put, sqA, sqB, sqC, sqD, sqE, sqF]
      refine tk 28 (by assumption) rfl (by kernel_rfl) (fun _ _ _ h => h) (fun V hV => by go_simp; try with_reducible rfl) ?_
      try simp only [Act.put, sqA, sqB, sqC, sqD, sqE, sqF]
      refine tk 29 (by assumption) rfl (by kernel_rfl) (fun _ _ _ h => h) (fun V hV => by go_simp; try with_reducible rfl) ?_
      try simp only [Act.put, sqA, sqB, sqC, sqD, sqE, sqF]
      refine tk 30 (by assumption) rfl (by kernel_rfl) (fun _ _ _ h => h) (fun V hV => by obtain ⟨hx0, hx1, hx2, hx3, hx4, hx5⟩ := HKA.out V hV; go_simp; try with_reducible rfl) ?_
      try simp only [Act.put, sqA, sqB, sqC, sqD, sqE, sqF]
      refine tk 31 (by assumption) rfl (by kernel_rfl) (fun _ _ _ h => h) (fun V hV => by go_simp; try with_reducible rfl) ?_
      try simp only [Act.put, sqA, sqB, sqC, sqD, sqE, sqF]
      refine tk 32 (by assumption) rfl (by kernel_rfl) (fun _ _ _ h => h) (fun V hV => by go_simp; try with_reducible rfl) ?_
      try simp only [Act.put, sqA, sqB, sqC, sqD, sqE, sqF]
      refine tk 33 (by assumption) rfl (by kernel_rfl) (fun _ _ _ h => h) (fun V hV => by go_simp; try with_reducible rfl) ?_
      try simp only [Act.put, sqA, sqB, sqC, sqD, sqE, sqF]
      refine tk 34 (by assumption) rfl (by kernel_rfl) (fun _ _ _ h => h) (fun V hV => by go_simp; try with_reducible rfl) ?_
      try simp only [Act.put, sqA, sqB, sqC, sqD, sqE, sqF]
      refine tk 35 (by assumption) rfl (by kernel_rfl) (fun _ _ _ h => h) (fun V hV => by obtain ⟨hx0, hx1, hx2, hx3, hx4, hx5⟩ := HKA.out V hV; go_simp; try with_reducible rfl) ?_
      try simp only [Act.put, sqA, sqB, sqC, sqD, sqE, sqF]
      refine wpAnyH_ready (rs := [36]) (by kernel_rfl) (by simp) ?_
      refine AllReadyH.cons (o := _) rfl (fun K hK => ?_) AllReadyH.nil
      go_simp
      try rw [if_pos (by rfl)]
      refine (HNS.out _ hs0).mono ?_
      rintro e2 V2 ⟨rfl, hb2⟩
      go_wp2_with fail
      refine hK.out _ _ (hs0.trans (hb2.mono hs0.size)) (fun hs0 => ?_)
      clear hK K
      try simp only [Act.put, sqA, sqB, sqC, sqD, sqE, sqF]
      refine tk 37 (by assumption) rfl (by kernel_rfl) (fun _ _ _ h => h) (fun V hV => by go_simp; try with_reducible rfl) ?_
      try simp only [Act.put, sqA, sqB, sqC, sqD, sqE, sqF]
      refine tk 38 (by assumption) rfl (by kernel_rfl) (fun _ _ _ h => h) (fun V hV => by go_simp; try with_reducible rfl) ?_
      try simp only [Act.put, sqA, sqB, sqC, sqD, sqE, sqF]
      refine wpAnyH_done (by kernel_rfl) ?_ _
      have HS0 := Lib.hid hs0
      clear hs0
      go_wp2_with fail
      exact ⟨⟨k + 1, congrArg (Value.int .i64) (by omega), hlt, HS0.out⟩, by show la.length - ((k : Int) + 1).toNat < la.length - (k : Int).toNat; omega⟩
    · have hnk : ¬ (k : Int) < (la.length : Int) := by omega
      have HBE := Lib.hid hbel
      clear hbel
      go_wp2_with fail
      refine bodyPost_ret (v := .bool true) (by simp [results, Tryz.results14, go_sem]) rfl ?_
      exact ⟨rfl, HBE.out⟩
end Go.Proofs.YtjhmfmpaaljegaaGreat
