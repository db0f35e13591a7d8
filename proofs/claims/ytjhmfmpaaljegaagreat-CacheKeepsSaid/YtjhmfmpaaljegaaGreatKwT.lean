/- Caches, the laws: keeps. -/
import Derived.Test.YtjhmfmpaaljegaaGreatKwS
namespace Go.Proofs.YtjhmfmpaaljegaaGreat
open Go.RowKit Go.Lib Go.Wq Go.Ow Go.Cw Go.Fq Go.Mq Go.Kq Go.Kw
set_option linter.unusedVariables false
set_option linter.unusedSimpArgs false
set_option maxRecDepth 100000

theorem NewsArg.below {w w2 : World} {l : List Nw} {a : Option Addr} {c : Nat} (h : NewsArg w l a c) (hb : Below w.heap.size w w2) : NewsArg w2 l a c := ⟨h.rows.kept (fun i hi => hb.block i hi) hb.size, h.fit, h.len, h.cap⟩
/-- The document's row, of whom it speaks. -/
theorem Bq.at {B : Nat} {w : World} {c : Nat} {M : List Hd} {l : List Hv} {a : Option Addr} (h : Bq B w c M l a) {k : Nat} (hk : k < l.length) : ∃ b o na nc, a = some ⟨b, o, none⟩ ∧ b < w.heap.size ∧ w.cell? ⟨b, o + k * 3, none⟩ = some (.int .i64 l[k].1.id) ∧ w.cell? ⟨b, o + k * 3 + 2, none⟩ = some (.slice na l[k].1.ns.length nc) ∧ NewsIn w w.heap.size l[k].1.ns na := by
  obtain ⟨S, T, U, mb, N, h1, h2, h3, h4, h5⟩ := h
  obtain ⟨b, o, e1, -, e3, hall⟩ := h3.at hk
  obtain ⟨na, nc, -, e7, e4, e5, e6⟩ := hall k hk
  exact ⟨b, o, na, nc, e1, e3, e4, e6, e7.news⟩
theorem list_in {M : List Hd} {x : Hd} (ok : OkH M) (hx : x ∈ M) : listR M x.id = (0, x.ns) := by
  unfold listR
  have hf : fnd M x.id = some x := fnd_some ok.rise hx
  rw [hf]
theorem bq_learn2 {B : Nat} {w : World} {c : Nat} {M : List Hd} {l : List Hv} {a : Option Addr} (h : Bq B w c M l a) (hB : B ≤ w.heap.size) {id : Int} (hid : -9223372036854775808 ≤ id ∧ id < 9223372036854775808) {news : List Nw} {na : Option Addr} {nc : Nat} (hn : NewsArg w news na nc) {r : Int} {n : Nat} {M' : List Hd} (he : learnR M id news = (r, n, M')) :
    Calls Tryz.prog 20 #[.pointer (some ⟨c, 0, none⟩), .int .i64 id, .slice na news.length nc] w fun e w' => e = .returned (.tuple #[.int .i64 (n : Int), .int .i64 r]) ∧ Bq B w' c M' l a ∧ Below B w w' := by
  have := bq_learn h hB hid news na nc hn.rows hn.fit hn.cap
  rw [he] at this
  exact this
theorem bq_forget2 {B : Nat} {w : World} {c : Nat} {M : List Hd} {l : List Hv} {a : Option Addr} (h : Bq B w c M l a) (hB : B ≤ w.heap.size) {id : Int} (hid : -9223372036854775808 ≤ id ∧ id < 9223372036854775808) {r : Int} {n : Nat} {M' : List Hd} (he : forgetR M id = (r, n, M')) :
    Calls Tryz.prog 22 #[.pointer (some ⟨c, 0, none⟩), .int .i64 id] w fun e w' => e = .returned (.tuple #[.int .i64 (n : Int), .int .i64 r]) ∧ Bq B w' c M' l a ∧ Below B w w' := by
  have := bq_forget h hB hid
  rw [he] at this
  exact this
theorem bq_list2 {B : Nat} {w : World} {c : Nat} {M : List Hd} {l : List Hv} {a : Option Addr} (h : Bq B w c M l a) {id : Int} (hid : -9223372036854775808 ≤ id ∧ id < 9223372036854775808) {r : Int} {ns : List Nw} (he : listR M id = (r, ns)) :
    Calls Tryz.prog 11 #[.pointer (some ⟨c, 0, none⟩), .int .i64 id] w fun e w' => NwRet w ns (fun v => .tuple #[v, .int .i64 r]) e w' := by
  have := bq_list h hid
  rw [he] at this
  exact this
theorem ok_one {id : Int} (h : numB id = true) : OkH (hds [((⟨id, 0, []⟩ : Hd), Value.slice none 0 0)]) := ⟨by simp [RiseH], fun x hx => by rw [List.mem_singleton.1 hx]; exact h, fun x hx => by rw [List.mem_singleton.1 hx]; show (0 : Nat) < 2 ^ 64; decide, fun x hx => by rw [List.mem_singleton.1 hx]; exact okN_nil, by simp⟩
theorem bq_one {id : Int} (b : Nat) (w : World) (h : w.rangeAt b 0 [.int .i64 id, .float .f64 0, .slice none 0 0]) (hb : b < w.heap.size) (hid : numB id = true) {news : List Nw} {na : Option Addr} {nc : Nat} (hn : NewsArg w news na nc) {n : Nat} (he : learnR [⟨id, 0, []⟩] id news = (0, n, [⟨id, 0, mrg [] news⟩])) :
    Calls Tryz.prog 21 #[.slice (some ⟨b, 0, none⟩) 1 1, .int .i64 id, .slice na news.length nc] w fun e w' => ∃ b' o' k' na' nc', e = .returned (.tuple #[.slice (some ⟨b', o', none⟩) 1 k', .int .i64 (n : Int), .int .i64 0]) ∧ b' < w'.heap.size ∧ w'.cell? ⟨b', o' + 2, none⟩ = some (.slice na' (mrg [] news).length nc') ∧ NewsIn w' w'.heap.size (mrg [] news) na' ∧ Below w.heap.size w w' := by
  have hd : HdIn (fun _ => True) w [(⟨id, 0, []⟩, .slice none 0 0)] (some ⟨b, 0, none⟩) := ⟨fun p hp => by
    rw [List.mem_singleton.1 hp]
    exact ⟨none, 0, rfl, Or.inl rfl⟩, Or.inr ⟨b, 0, rfl, trivial, hb, h⟩⟩
  have := rLearn_any [(⟨id, 0, []⟩, .slice none 0 0)] (some ⟨b, 0, none⟩) 1 id news na nc w hd (ok_one hid) hn.rows hn.fit (by have := hn.len; omega)
  rw [show hds [((⟨id, 0, []⟩ : Hd), Value.slice none 0 0)] = [⟨id, 0, []⟩] from rfl, he] at this
  refine this.mono ?_
  rintro e w' ⟨l', a', k', hl, rfl, hin, hbel⟩
  have hlen : l'.length = 1 := by have := congrArg List.length hl; rw [hds_len] at this; exact this
  obtain ⟨b', o', rfl, -, hb', hall⟩ := hin.at (k := 0) (by omega)
  obtain ⟨na', nc', -, h7, h4, h5, h6⟩ := hall 0 (by omega)
  have e0 : l'[0].1 = ⟨id, 0, mrg [] news⟩ := by
    have h1 : (hds l')[0]? = some ⟨id, 0, mrg [] news⟩ := by rw [hl]; rfl
    rw [List.getElem?_map, List.getElem?_eq_getElem (by omega)] at h1
    simpa using h1
  rw [e0] at h7 h6
  refine ⟨b', o', k', na', nc', by rw [hlen], hb', by simpa using h6, h7.news, hbel⟩
theorem bq_doc2 {B : Nat} {w : World} {c : Nat} {M : List Hd} {l : List Hv} {a : Option Addr} (k : Nat) (h : Bq B w c M l a) (ok : OkH (hds l)) {id : Int} {news : List Nw} {na : Option Addr} {nc : Nat} (hn : NewsArg w news na nc) {r : Int} {n : Nat} {M' : List Hd} (he : learnR (hds l) id news = (r, n, M')) :
    Calls Tryz.prog 21 #[.slice a l.length k, .int .i64 id, .slice na news.length nc] w fun e w' => ∃ a' l' k', e = .returned (.tuple #[.slice a' (l' : List Hv).length k', .int .i64 (n : Int), .int .i64 r]) ∧ Below w.heap.size w w' := by
  refine (bq_doc k h ok id news na nc hn.rows hn.fit hn.len).mono ?_
  rintro e w' ⟨a', l', k', rfl, -, hb⟩
  rw [he]
  exact ⟨a', l', k', rfl, hb⟩
set_option maxHeartbeats 32000000 in
theorem law_ckeeps (acts : List AcX) (aa : Option Addr) (ca : Nat) (id : Int) (news : List Nw) (na : Option Addr) (nc : Nat) (w : World) (h : ActsIn w acts aa) (hid : -9223372036854775808 ≤ id ∧ id < 9223372036854775808) (hn : NewsArg w news na nc) : Calls Tryz.prog 5 #[.slice aa acts.length ca, .int .i64 id, .slice na news.length nc] w fun e w' => e = .returned (.bool true) ∧ Below w.heap.size w w' := by
  have heq := eql_not2
  have HA := Lib.hid h
  have HLE := Lib.hid h.n1
  have HID := Lib.hid hid
  have HN := Lib.hid hn
  clear h hid hn
  go_enter Tryz.func5, Tryz.ntmps5
  go_wp2_with (go_at_call 7; refine (kNew_any _).mono ?_; rintro e w1 ⟨c, hc, rfl, hb1, S, mb, hcb, hS⟩; have H1 := Lib.hid (And.intro hcb (And.intro hS hb1)); clear hc hb1 hcb hS)
  go_loopw [8, 9, 10] (fun mv okv iv wr => ∃ (k : Nat) (l : List Hv) (a : Option Addr) (kc : Nat), mv = .slice a l.length kc ∧ okv = .bool true ∧ iv = .int .i64 (k : Int) ∧ k ≤ acts.length ∧ Bx w.heap.size wr c l a ∧ Below w.heap.size w wr) (fun _ _ iv _ => acts.length - (RowKit.intOf iv).toNat)
  case atStart =>
    have hb := H1.out.2.2.trans ((gAl w1 (.cells #[] 56)).mono H1.out.2.2.size)
    exact ⟨0, [], _, 0, rfl, rfl, rfl, Nat.zero_le _, ⟨S, _, (fun _ => False), mb, [], (H1.out.1.below (gAl w1 _)), rfl, heard0 _ _, fun b hb => hb.elim, H1.out.2.1⟩, hb⟩
  case round =>
    obtain ⟨k, l, a, kc, rfl, rfl, rfl, hk, hbx, hbel⟩ := hrel
    have HBX := Lib.hid hbx
    have HBEL := Lib.hid hbel
    clear hbx hbel
    by_cases hlt : k < acts.length
    · have hlti : (k : Int) < (acts.length : Int) := by omega
      have hk0 : (0 : Int) ≤ (k : Int) := by omega
      have hkw : IntKind.i64.wrap ((k : Int) + 1) = (k : Int) + 1 := by rw [IntKind.wrap_i64]; have := HLE.out; omega
      obtain ⟨b, o, rfl, hb, hat, hok⟩ := HA.out.at hlt
      obtain ⟨c0, c1, c2, c3⟩ := hat.below hb HBEL.out
      obtain ⟨S2, T2, U2, mb2, N2, hbo⟩ := HBX.out
      have HD := Lib.hid (does_any kc hbo HBEL.out.size acts[k].x acts[k].na acts[k].nc (hok.below HBEL.out))
      clear hat hok hbo hb
      generalize acts[k] = y at *
      go_wp2_with (go_at_call 8; refine HD.out.mono ?_; rintro e w2 ⟨l2, a2, k2, hM, rfl, ⟨S3, T3, U3, mb3, N3, hbo3⟩, hb3⟩; have H3 := Lib.hid (And.intro hbo3 (HBEL.out.trans hb3)); clear hbo3 hb3 hM)
      exact ⟨⟨k + 1, l2, a2, k2, rfl, rfl, congrArg (Value.int .i64) (by omega), hlt, ⟨_, _, _, _, _, H3.out.1⟩, H3.out.2⟩, by show acts.length - ((k : Int) + 1).toNat < acts.length - (k : Int).toNat; omega⟩
    · have hnk : ¬ (k : Int) < (acts.length : Int) := by omega
      have HBQ : Hid (Bq w.heap.size wr c (hds l) l a ∧ Below w.heap.size w wr) := Lib.hid ⟨HBX.out.bq, HBEL.out⟩
      have HOK := Lib.hid HBQ.out.1.ok
      clear HBX HBEL
      rcases hlr : learnR (hds l) id news with ⟨r, n1, M1⟩
      have HLR := Lib.hid hlr
      clear hlr
      by_cases hr : r = 0
      · subst hr
        obtain ⟨x, hfx, hord, hlx⟩ := learn_ok (M := hds l) (id := id) (news := news) (by rw [HLR.out])
        rw [HLR.out] at hlx
        have hM1 : M1 = updH (hds l) id ⟨x.id, x.wt, mrg x.ns news⟩ := by have := congrArg (fun q => q.2.2) hlx; exact this
        obtain ⟨hxm, hxid⟩ := fnd_mem hfx
        have hag := learn_again HOK.out HN.out.fit (by rw [HLR.out] : (learnR (hds l) id news).1 = 0)
        rw [HLR.out] at hag
        rcases hl2 : learnR M1 id news with ⟨r2, n2, M2⟩
        rw [hl2] at hag
        obtain ⟨hr2, hn2⟩ := hag
        simp only at hr2 hn2
        subst hr2
        subst hn2
        obtain ⟨x2, hfx2, -, hlx2⟩ := learn_ok (M := M1) (id := id) (news := news) (by rw [hl2])
        rw [hl2] at hlx2
        have hM2 : M2 = updH M1 id ⟨x2.id, x2.wt, mrg x2.ns news⟩ := by have := congrArg (fun q => q.2.2) hlx2; exact this
        have hf3 : fnd M2 id = some ⟨x2.id, x2.wt, mrg x2.ns news⟩ := by rw [hM2]; exact fnd_upd_same (h' := ⟨x2.id, x2.wt, mrg x2.ns news⟩) (fnd_mem hfx2).2 hfx2
        have hnew := learn_anew hf3 hord
        rcases hfg : forgetR M2 id with ⟨r3, n3, M3⟩
        rw [hfg] at hnew
        simp only at hnew
        rcases hl4 : learnR M3 id news with ⟨r4, n4, M4⟩
        rw [hl4] at hnew
        simp only at hnew
        obtain ⟨hr4, hls⟩ := hnew
        subst hr4
        have HL2 := Lib.hid hl2
        have HFG := Lib.hid hfg
        have HL4 := Lib.hid hl4
        have HLS := Lib.hid hls
        have HORD := Lib.hid hord
        have HOTH : Hid (∀ j (hj : j < l.length), l[j].1.id ≠ id → listR M1 l[j].1.id = (0, l[j].1.ns)) := Lib.hid (fun j hj hne => by
          have h1 := learn_other (M := hds l) (news := news) (by rw [HLR.out]) hne
          rw [HLR.out] at h1
          rw [h1]
          exact list_in HOK.out (List.mem_map.2 ⟨l[j], List.getElem_mem hj, rfl⟩))
        have HSELF : Hid (listR M1 id = (0, mrg x.ns news)) := Lib.hid (by
          obtain ⟨y, hy, e⟩ := learn_self (M := hds l) (id := id) (news := news) (by rw [HLR.out])
          rw [hfx] at hy
          cases hy
          rw [HLR.out] at e
          exact e)
        have HNUM : Hid (∀ j (hj : j < l.length), -9223372036854775808 ≤ l[j].1.id ∧ l[j].1.id < 9223372036854775808) := Lib.hid (fun j hj => num_64 (HOK.out.num _ (List.mem_map.2 ⟨l[j], List.getElem_mem hj, rfl⟩)))
        have HLL : Hid (l.length ≤ 256) := Lib.hid (by have := HOK.out.len; rw [hds_len] at this; exact this)
        have HXL : Hid ((mrg x.ns news).length < 4611686018427387904 ∧ ∀ j (hj : j < l.length), l[j].1.ns.length < 4611686018427387904) := Lib.hid ⟨by have := okN_len (okN_mrg (HOK.out.ns x hxm) hord HN.out.fit); omega, fun j hj => by have := okN_len (HOK.out.ns _ (List.mem_map.2 ⟨l[j], List.getElem_mem hj, rfl⟩)); omega⟩
        have HML : Hid ((mrg [] news).length < 4611686018427387904) := Lib.hid (by have := okN_len (okN_mrg okN_nil hord HN.out.fit); omega)
        have HNB : Hid (numB id = true) := Lib.hid (by rw [← hxid]; exact HOK.out.num x hxm)
        have HAL := Lib.hid (learn_alone (id := id) (wt := 0) hord)
        clear hlx hM1 hfx hxm hxid hl2 hfx2 hlx2 hM2 hf3 hfg hl4 hls hord
        go_wp2_with (go_at_call 20; refine (bq_learn2 HBQ.out.1 HBQ.out.2.size HID.out (HN.out.below HBQ.out.2) HLR.out).mono ?_; rintro e w2 ⟨rfl, hq, hb⟩; have H2 := Lib.hid (And.intro hq (HBQ.out.2.trans hb)); clear hq hb)
        go_loopw [16] (fun iv wi => ∃ j : Nat, iv = .int .i64 (j : Int) ∧ j ≤ l.length ∧ Bq w.heap.size wi c M1 l a ∧ Below w.heap.size w wi) (fun iv _ => l.length - (RowKit.intOf iv).toNat)
        case atStart => exact ⟨0, rfl, Nat.zero_le _, H2.out.1, H2.out.2⟩
        case round =>
          obtain ⟨j, rfl, hj, hbq, hbel⟩ := hrel
          obtain ⟨wo, hwo⟩ : ∃ wo, wo = wr := ⟨_, rfl⟩
          subst hwo
          clear H2
          have H3 := Lib.hid (And.intro hbq hbel)
          by_cases hlt2 : j < l.length
          · have hlti : (j : Int) < (l.length : Int) := by omega
            have hk0 : (0 : Int) ≤ (j : Int) := by omega
            have hkw : IntKind.i64.wrap ((j : Int) + 1) = (j : Int) + 1 := by rw [IntKind.wrap_i64]; have := HLL.out; omega
            obtain ⟨b, o, na2, nc2, rfl, hbb, hc0, hc2, hns⟩ := hbq.at hlt2
            have HNS := Lib.hid (And.intro hns (HXL.out.2 j hlt2))
            have HCC : Hid (∀ V, Below wo.heap.size wo V → V.cell? ⟨b, o + j * 3, none⟩ = some (.int .i64 l[j].1.id) ∧ V.cell? ⟨b, o + j * 3 + 2, none⟩ = some (.slice na2 l[j].1.ns.length nc2)) := Lib.hid (fun V hV => ⟨(hV.cell (p := ⟨b, _, none⟩) hbb).trans hc0, (hV.cell (p := ⟨b, _, none⟩) hbb).trans hc2⟩)
            have HLI := Lib.hid (bq_list hbq (HNUM.out j hlt2))
            by_cases hne : l[j].1.id = id
            · rw [hne, HSELF.out] at HLI
              have hnb : (l[j].1.id != id) = false := by simp [hne]
              clear hns hbq hbel
              generalize l[j] = q at *
              obtain ⟨⟨q1, q2, q3⟩, q4⟩ := q
              simp only at hc0 hc2 HCC HNS hnb
              subst hne
              go_wp2_with (go_at_call 11; refine HLI.out.mono ?_; rintro e w4 ⟨hb4, a4, c4, r4, rfl, hr4, hrow4⟩; have H4 := Lib.hid (And.intro (H3.out.1.below hb4) (gNx H3.out.2 hb4)); obtain ⟨d0, d2⟩ := HCC.out _ hb4; clear hb4 hr4 hrow4)
              exact ⟨⟨j + 1, congrArg (Value.int .i64) (by omega), hlt2, H4.out.1, H4.out.2⟩, by show l.length - ((j : Int) + 1).toNat < l.length - (j : Int).toNat; omega⟩
            · have hli2 := HOTH.out j hlt2 hne
              rw [hli2] at HLI
              have hnb : (l[j].1.id != id) = true := by simp [hne]
              clear hns hbq hbel hli2 hne
              generalize l[j] = q at *
              obtain ⟨⟨q1, q2, q3⟩, q4⟩ := q
              simp only at hc0 hc2 HCC HNS hnb
              go_wp2_with (first
                | (go_at_call 11; refine HLI.out.mono ?_; rintro e w4 ⟨hb4, a4, c4, r4, rfl, hr4, hrow4⟩; have H4 := Lib.hid (And.intro (H3.out.1.below hb4) (gNx H3.out.2 hb4)); have HS4 := Lib.hid (rSameNews_any q3 q3 a4 c4 na2 nc2 w4.heap.size w4 (nr_nws hrow4).news (HNS.out.1.kept (fun i hi => hb4.block i hi) hb4.size) (Nat.le_refl _) HNS.out.2); obtain ⟨d0, d2⟩ := HCC.out _ hb4; clear hb4 hr4 hrow4)
                | (go_at_call 13; refine HS4.out.mono ?_; rintro e w5 ⟨⟨r5, rfl, hr5⟩, hb5⟩; obtain rfl : r5 = true := hr5.2 (by simp); have H5 := Lib.hid (And.intro (H4.out.1.below hb5) (gNx H4.out.2 hb5)); clear hb5 hr5))
              exact ⟨⟨j + 1, congrArg (Value.int .i64) (by omega), hlt2, H5.out.1, H5.out.2⟩, by show l.length - ((j : Int) + 1).toNat < l.length - (j : Int).toNat; omega⟩
          · have hnk2 : ¬ (j : Int) < (l.length : Int) := by omega
            clear hbq hbel
            go_upto_region 21 with (go_at_call 20; refine (bq_learn2 H3.out.1 H3.out.2.size HID.out (HN.out.below H3.out.2) HL2.out).mono ?_; rintro e w4 ⟨rfl, hq, hb⟩; have H4 := Lib.hid (And.intro hq (H3.out.2.trans hb)); clear hq hb)
            clear H3 HLR HL2 HBQ HOTH HSELF
            go_upto_region 22 with (go_at_call 22; refine (bq_forget2 H4.out.1 H4.out.2.size HID.out HFG.out).mono ?_; rintro e w5 ⟨rfl, hq, hb⟩; have H5 := Lib.hid (And.intro hq (H4.out.2.trans hb)); clear hq hb)
            go_upto_region 23 with (go_at_call 20; refine (bq_learn2 H5.out.1 H5.out.2.size HID.out (HN.out.below H5.out.2) HL4.out).mono ?_; rintro e w6 ⟨rfl, hq, hb⟩; have H6 := Lib.hid (And.intro hq (H5.out.2.trans hb)); clear hq hb)
            go_upto_region 24 with (go_at_call 11; refine (bq_list2 H6.out.1 HID.out HLS.out).mono ?_; rintro e w7 ⟨hb7, a7, c7, r7, rfl, hr7, hrow7⟩; have H7 := Lib.hid (And.intro (gNx H6.out.2 hb7) hrow7); clear hb7 hr7 hrow7)
            go_upto_region 25 with (fail)
            obtain ⟨W8, hW8⟩ : ∃ W8, W8 = w7.alloc (.cells #[.int .i64 id, .float .f64 0, .slice none 0 0] 56) := ⟨_, rfl⟩
            have hb8 : Below w7.heap.size w7 W8 := by rw [hW8]; exact gAl _ _
            have hr8 : W8.rangeAt w7.heap.size 0 [.int .i64 id, .float .f64 0, .slice none 0 0] ∧ w7.heap.size < W8.heap.size := by rw [hW8]; exact ⟨range_box0 w7 _ _, by simp⟩
            rw [← hW8]
            clear hW8
            have H8 := Lib.hid (And.intro (gNx H7.out.1 hb8) (And.intro (H7.out.2.below hb8) hr8))
            clear hb8 hr8
            have HD := Lib.hid (bq_one w7.heap.size W8 H8.out.2.2.1 H8.out.2.2.2 HNB.out (HN.out.below H8.out.1) HAL.out)
            go_upto_region 26 with (go_at_call 21; refine HD.out.mono ?_; rintro e w9 ⟨b9, o9, k9, na9, nc9, rfl, hlt9, hc9, hn9, hb9⟩; have HC9 := Lib.hid (And.intro hb9 (And.intro hlt9 hn9)))
            have H9 := Lib.hid (And.intro (gNx H8.out.1 HC9.out.1) (H8.out.2.1.below HC9.out.1))
            have HS9 := Lib.hid (rSameNews_any (mrg [] news) (mrg [] news) a7 c7 na9 nc9 w9.heap.size w9 (nr_nws H9.out.2).news HC9.out.2.2 (Nat.le_refl _) HML.out)
            clear hb9 hlt9 hn9
            go_wp2_with (first
              | (go_at_call 13; refine HS9.out.mono ?_; rintro e w10 ⟨⟨r5, rfl, hr5⟩, hb10⟩; obtain rfl : r5 = true := hr5.2 (by simp); have H10 := Lib.hid (gNx H9.out.1 hb10); clear hb10 hr5)
              | (go_at_call 10; refine (dAwake_any _).mono ?_; rintro e w11 ⟨rfl, hb11⟩; have H11 := Lib.hid (gNx H10.out hb11); clear hb11))
            refine bodyPost_ret (v := .bool true) (by simp [results, Tryz.results5, go_sem]) rfl ?_
            exact ⟨rfl, H11.out⟩

      · have hrb : (r != 0) = true := by simp [hr]
        have hrr : (r == r) = true := by simp
        have HM1 : Hid (M1 = hds l) := Lib.hid (by have := learn_fail (M := hds l) (id := id) (news := news) (by rw [HLR.out]; exact hr); rw [HLR.out] at this; exact this)
        go_wp2_with (first
          | (go_at_call 20; refine (bq_learn2 HBQ.out.1 HBQ.out.2.size HID.out (HN.out.below HBQ.out.2) HLR.out).mono ?_; rintro e w2 ⟨rfl, hq, hb⟩; have H2 := Lib.hid (And.intro hq (HBQ.out.2.trans hb)); clear hq hb)
          | (go_at_call 21; refine (bq_doc2 kc H2.out.1 HOK.out (HN.out.below H2.out.2) HLR.out).mono ?_; rintro e w3 ⟨a3, l3, k3, rfl, hb3⟩; have H3 := Lib.hid (H2.out.2.trans (hb3.mono H2.out.2.size)); clear hb3)
          | (go_at_call 10; refine (dAwake_any _).mono ?_; rintro e w5 ⟨rfl, hb5⟩; have H5 := Lib.hid (H3.out.trans (hb5.mono H3.out.size)); clear hb5))
        refine bodyPost_ret (v := .bool true) (by simp [results, Tryz.results5, go_sem]) rfl ?_
        exact ⟨rfl, H5.out⟩
theorem law_ckeepsW (acts : List AcX) (aa : Option Addr) (ca : Nat) (id : Int) (news : List Nw) (na : Option Addr) (nc : Nat) (w : World) (h : ActsIn w acts aa) (hid : (Lit.int .i64 id).wf = true) (hn : NewsArg w news na nc) : Calls Tryz.prog 5 #[.slice aa acts.length ca, .int .i64 id, .slice na news.length nc] w fun e w' => e = .returned (.bool true) ∧ Below w.heap.size w w' :=
  law_ckeeps acts aa ca id news na nc w h (by simp only [Lit.wf, IntKind.min, IntKind.max, IntKind.signed, IntKind.bits, Bool.and_eq_true, decide_eq_true_eq] at hid; exact ⟨by have := hid.1; simpa using this, by have := hid.2; simp at this; omega⟩) hn
end Go.Proofs.YtjhmfmpaaljegaaGreat
