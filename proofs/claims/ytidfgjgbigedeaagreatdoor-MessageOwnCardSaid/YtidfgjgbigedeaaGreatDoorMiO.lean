/- The law MessageOwn. -/
import Derived.Test.YtidfgjgbigedeaaGreatDoorMiN
namespace Go.Proofs.YtidfgjgbigedeaaGreatDoor
open Go.RowKit Go.Lib Go.Wq Go.Mq
set_option linter.unusedVariables false
set_option linter.unusedSimpArgs false
set_option maxRecDepth 100000

/-- A row of news of its own, whatever stands in it. -/
def RowOwn (w : World) (base n : Nat) (a : Option Addr) (c : Nat) : Prop := ∃ xs, w.ownsRow base 42 5 (.slice a n c) n xs
theorem RowOwn.form {w : World} {base n : Nat} {a : Option Addr} {c : Nat} (h : RowOwn w base n a c) (hn : 0 < n) : ∃ g, a = some ⟨g, 0, none⟩ ∧ base ≤ g ∧ g < w.heap.size := by
  obtain ⟨xs, h⟩ := h
  rcases h.2 with ⟨e, hz⟩ | ⟨g, cap, cur, e, hr⟩
  · omega
  · obtain ⟨e1, e2, e3⟩ := (Value.slice.injEq _ _ _ _ _ _).mp e
    subst e1
    exact ⟨g, rfl, hr.1, (h.lt g rfl).2⟩
theorem RowOwn.next {w w' : World} {base n : Nat} {a : Option Addr} {c : Nat} (h : RowOwn w base n a c) (k : Below w.heap.size w w') : RowOwn w' base n a c := by
  obtain ⟨xs, h⟩ := h
  exact ⟨xs, own_kept h k⟩
theorem RowOwn.sets {w : World} {base n g c : Nat} (h : RowOwn w base n (some ⟨g, 0, none⟩) c) (o : Nat) (vs : List Value) (hl : o + vs.length ≤ n * 5) : RowOwn (w.setCells g o vs) base n (some ⟨g, 0, none⟩) c := by
  obtain ⟨xs, h⟩ := h
  exact ⟨_, own_mid vs o w xs h hl⟩
theorem RowOwn.there {w : World} {base n g c : Nat} (h : RowOwn w base n (some ⟨g, 0, none⟩) c) (o k : Nat) (hl : o + k ≤ n * 5) : w.there g o k := by
  obtain ⟨xs, h⟩ := h
  exact own_there h o k hl

set_option maxHeartbeats 8000000 in
theorem msgLaw_ownM (m : Ms) (na : Option Addr) (nc : Nat) (W : World) (hin : NewsIn W W.heap.size m.news na) (hfit : m.Fit) (hg : Handle W) (hsh : Shps W) :
    Calls Tryz.prog 7 #[.agg (msCells m na nc).toArray] W fun e w' => e = .returned (.bool true) ∧ Below W.heap.size W w' := by
  have HE := Lib.hid (fun (w : World) (h : Below W.heap.size W w) => mEncodeM m na nc w (hg.below h) (hsh.below h) (hin.kept (fun i hi => h.block i hi) h.size) hfit)
  have HIN := Lib.hid hin
  have HD0 : Hid ((encM m).2 = 0 → ∀ w, Below W.heap.size W w → Calls Tryz.prog 13 #[.string ⟨(encM m).1.toArray⟩] w fun e w' => ∃ (na : Option Addr) (nc : Nat), e = .returned (.tuple #[.agg (msCells m na nc).toArray, .int .i64 0]) ∧ NewsOwn w' w.heap.size m.news na nc ∧ Below w.heap.size w w') := Lib.hid (fun h w hb => by
    obtain ⟨c1, c2, c3⟩ := code_enc hfit h
    have := mDecode_any ⟨(encM m).1.toArray⟩ (by rw [sizeOfL]; omega) w (hg.below hb) (hsh.below hb)
    unfold DecEnds at this
    rw [listOf, c1, c2] at this
    exact this)
  have HBAD : Hid ((encM m).2 ≠ 0 → (⟨(encM m).1.toArray⟩ : ByteArray) = ⟨#[]⟩) := Lib.hid (fun h => by rw [encM_bad h])
  have HAW := Lib.hid (fun (w : World) (h : Below W.heap.size W w) => msgAwake_any w (hg.below h) (hsh.below h))
  have HLM := Lib.hid hfit.len
  clear hin hfit hg hsh
  generalize (⟨(encM m).1.toArray⟩ : ByteArray) = bs at *
  generalize (encM m).2 = c1 at *
  go_enter Tryz.func7, Tryz.ntmps7
  go_upto_region 1 with (fail)
  have R0 := range_box0 W (msCells m na nc) 27
  have b0 := below_al W (.cells (msCells m na nc).toArray 27)
  have z0 : W.heap.size < (W.alloc (.cells (msCells m na nc).toArray 27)).heap.size := by simp
  generalize W.alloc (.cells (msCells m na nc).toArray 27) = V0 at *
  refine wp_region_list ?_
  refine wpList_load_guard (by kernel_rfl) 27 (.tmp 1) rfl W.heap.size 0 rfl (msCells m na nc) _ R0 Tryz.underlying27 (by rfl) (by kernel_rfl) ?_
  (try simp only [Act.put, List.setIfInBounds_toArray, List.set_cons_zero, List.set_cons_succ, List.getElem_toArray, List.getElem_cons_succ, List.getElem_cons_zero])
  go_upto_region 2 with (go_at_call 8; refine (HE.out _ b0).mono ?_; rintro e w1 ⟨rfl, b1⟩)
  have R1 := range_next R0 z0 b1
  have z1 : W.heap.size < w1.heap.size := Nat.lt_of_lt_of_le z0 b1.size
  have B1 := Lib.hid (below_nx b0 b1)
  clear b1 b0 z0 R0
  by_cases h1 : c1 = 0
  · subst h1
    go_upto_region 4 with (fail)
    go_upto_region 5 with (go_at_call 13; refine (HD0.out trivial _ B1.out).mono ?_; rintro e w2 ⟨na2, nc2, rfl, own2, b2⟩; simp only [msCells])
    have R2 := range_next R1 z1 b2
    have z2 : W.heap.size < w2.heap.size := Nat.lt_of_lt_of_le z1 b2.size
    have B2 := Lib.hid (below_nx B1.out b2)
    have RV2 := range_box0 w2 (msCells m na2 nc2) 27
    rw [show w2.alloc (.cells #[.int .i64 m.kind, .int .u64 (m.nonce : Int), .int .u64 (m.echo : Int), .int .u64 (m.seq : Int), .slice na2 m.news.length nc2, .int .i64 m.pk.kind, .int .i64 m.pk.frm, .int .i64 m.pk.back, .int .i64 m.pk.to, .int .i64 m.pk.home, .int .i64 m.pk.hops, .int .u64 (m.pk.serial : Int), .int .i64 m.pk.code, .string m.pk.name, .int .i64 m.pk.id, .int .i64 m.pk.at_, .string m.pk.body] 27) = w2.alloc (.cells (msCells m na2 nc2).toArray 27) from rfl]
    have aV2 := below_al w2 (.cells (msCells m na2 nc2).toArray 27)
    have zV2 : w2.heap.size < (w2.alloc (.cells (msCells m na2 nc2).toArray 27)).heap.size := by simp
    generalize w2.alloc (.cells (msCells m na2 nc2).toArray 27) = V2 at *
    have RA := Lib.hid (range_next R2 z2 aV2)
    have RB := Lib.hid RV2
    have HN2 : Hid (RowOwn V2 (W.heap.size + 1) m.news.length na2 nc2) := Lib.hid ⟨_, own_le (own_next own2 aV2) (by omega)⟩
    have HNX : Hid (∀ g, na2 = some ⟨g, 0, none⟩ → g < w2.heap.size) := Lib.hid (fun g h => (own2.lt g (by rw [h]; rfl)).2)
    have B3 := Lib.hid (below_nx B2.out aV2)
    have zx := zV2
    have zW : W.heap.size < w2.heap.size := z2
    generalize w2.heap.size = x2 at *
    clear own2 b2 aV2 zV2 R2 R1 RV2 z1 z2
    go_wp2_with fail
    go_loopw [7] (fun v wr => ∃ k : Nat, v = .int .i64 (k : Int) ∧ k ≤ m.news.length ∧ Below W.heap.size W wr ∧ x2 < wr.heap.size ∧ wr.rangeAt W.heap.size 0 (msCells m na nc) ∧ wr.rangeAt x2 0 (msCells m na2 nc2) ∧ RowOwn wr (W.heap.size + 1) m.news.length na2 nc2) (fun v _ => m.news.length - (RowKit.intOf v).toNat)
    case atStart => exact ⟨0, rfl, Nat.zero_le _, B3.out, zx, RA.out, RB.out, HN2.out⟩
    case round =>
      clear zx
      obtain ⟨k, rfl, hkn, hbel, hsz, hra, hrb, hown⟩ := hrel
      have HB := Lib.hid hbel
      have HRA := Lib.hid hra
      have HRB := Lib.hid hrb
      have HO := Lib.hid hown
      have q4 : wr.cell? ⟨x2, 4, none⟩ = some (.slice na2 m.news.length nc2) := hrb 4 _ rfl
      by_cases hk : k < m.news.length
      · have hki : (k : Int) < (m.news.length : Int) := by omega
        have hk0 : (0 : Int) ≤ (k : Int) := by omega
        have hw1 : IntKind.i64.wrap ((k : Int) + 1) = (k : Int) + 1 := by have := HLM.out; rw [IntKind.wrap_i64]; omega
        obtain ⟨g, rfl, hg1, hg2⟩ := hown.form (by omega)
        have hgx : g < x2 := HNX.out g rfl
        have hth := hown.there (k * 5) 5 (by omega)
        clear hbel hra hrb hown
        go_upto_region 8 with (fail)
        refine wp_region_list ?_
        refine wpList_step (fun K hK0 => ?_)
        have hK := Lib.hid hK0
        clear hK0
        go_simp
        refine hK.out _ _ ?_
        clear hK K
        (try simp only [Act.put, List.setIfInBounds_toArray, List.set_cons_zero, List.set_cons_succ, List.getElem_toArray, List.getElem_cons_succ, List.getElem_cons_zero])
        refine wpList_step (fun K hK0 => ?_)
        have hK := Lib.hid hK0
        clear hK0
        go_simp
        refine hK.out _ _ ?_
        clear hK K
        (try simp only [Act.put, List.setIfInBounds_toArray, List.set_cons_zero, List.set_cons_succ, List.getElem_toArray, List.getElem_cons_succ, List.getElem_cons_zero])
        refine wpList_step (fun K hK0 => ?_)
        have hK := Lib.hid hK0
        clear hK0
        go_simp
        refine hK.out _ _ ?_
        clear hK K
        (try simp only [Act.put, List.setIfInBounds_toArray, List.set_cons_zero, List.set_cons_succ, List.getElem_toArray, List.getElem_cons_succ, List.getElem_cons_zero])
        refine wpList_step (fun K hK0 => ?_)
        have hK := Lib.hid hK0
        clear hK0
        go_simp
        refine hK.out _ _ ?_
        clear hK K
        (try simp only [Act.put, List.setIfInBounds_toArray, List.set_cons_zero, List.set_cons_succ, List.getElem_toArray, List.getElem_cons_succ, List.getElem_cons_zero])
        refine wpList_step (fun K hK0 => ?_)
        have hK := Lib.hid hK0
        clear hK0
        go_simp
        refine hK.out _ _ ?_
        clear hK K
        (try simp only [Act.put, List.setIfInBounds_toArray, List.set_cons_zero, List.set_cons_succ, List.getElem_toArray, List.getElem_cons_succ, List.getElem_cons_zero])
        refine wpList_store_mid rfl 42 _ _ rfl g (k * 5) #[.int .i64 (-7), .int .i64 0, .float .f64 0, .float .f64 0, .int .i64 0] (by first | rfl | simp) rfl hth (by kernel_rfl) (all_oneCell_toArray (cs := [.int .i64 (-7), .int .i64 0, .float .f64 0, .float .f64 0, .int .i64 0]) (by intro v hv; simp only [List.mem_cons, List.not_mem_nil, or_false] at hv; rcases hv with rfl | rfl | rfl | rfl | rfl <;> rfl)) ?_
        have HB2 : Hid (Below W.heap.size W (wr.setCells g (k * 5) [.int .i64 (-7), .int .i64 0, .float .f64 0, .float .f64 0, .int .i64 0])) := Lib.hid (below_set g (by omega) _ _ _ HB.out)
        have HO2 : Hid (RowOwn (wr.setCells g (k * 5) [.int .i64 (-7), .int .i64 0, .float .f64 0, .float .f64 0, .int .i64 0]) (W.heap.size + 1) m.news.length (some ⟨g, 0, none⟩) nc2) := Lib.hid (HO.out.sets (k * 5) [.int .i64 (-7), .int .i64 0, .float .f64 0, .float .f64 0, .int .i64 0] (by simp; omega))
        have HA2 : Hid ((wr.setCells g (k * 5) [.int .i64 (-7), .int .i64 0, .float .f64 0, .float .f64 0, .int .i64 0]).rangeAt W.heap.size 0 (msCells m na nc)) := Lib.hid (World.rangeAt_setCells_apart HRA.out g (k * 5) [.int .i64 (-7), .int .i64 0, .float .f64 0, .float .f64 0, .int .i64 0] (Or.inl (by omega)))
        have HB22 : Hid ((wr.setCells g (k * 5) [.int .i64 (-7), .int .i64 0, .float .f64 0, .float .f64 0, .int .i64 0]).rangeAt x2 0 (msCells m (some ⟨g, 0, none⟩) nc2)) := Lib.hid (World.rangeAt_setCells_apart HRB.out g (k * 5) [.int .i64 (-7), .int .i64 0, .float .f64 0, .float .f64 0, .int .i64 0] (Or.inl (by omega)))
        have HZ2 : Hid (x2 < (wr.setCells g (k * 5) [.int .i64 (-7), .int .i64 0, .float .f64 0, .float .f64 0, .int .i64 0]).heap.size) := Lib.hid (by rw [set_size wr g [.int .i64 (-7), .int .i64 0, .float .f64 0, .float .f64 0, .int .i64 0] (k * 5) wr rfl]; exact hsz)
        simp only [List.toList_toArray]
        generalize wr.setCells g (k * 5) [.int .i64 (-7), .int .i64 0, .float .f64 0, .float .f64 0, .int .i64 0] = Vz at *
        (try simp only [Act.put, List.setIfInBounds_toArray, List.set_cons_zero, List.set_cons_succ, List.getElem_toArray, List.getElem_cons_succ, List.getElem_cons_zero])
        go_wp2_with fail
        refine ⟨⟨k + 1, by simp, by omega, HB2.out, HZ2.out, HA2.out, HB22.out, HO2.out⟩, ?_⟩
        simp [RowKit.intOf]; omega
      · obtain rfl : k = m.news.length := by omega
        have hki : ¬ ((m.news.length : Nat) : Int) < (m.news.length : Int) := by omega
        have HSZ := Lib.hid hsz
        clear hbel hra hrb hown
        go_upto_region 9 with (fail)
        clear q4
        go_upto_region 10 with (go_at_call 13; refine (HD0.out trivial _ HB.out).mono ?_; rintro e w3 ⟨na3, nc3, rfl, own3, b3⟩; simp only [msCells])
        have hzW : W.heap.size < wr.heap.size := Nat.lt_trans zW HSZ.out
        have RC := range_next HRA.out hzW b3
        have zc : W.heap.size < w3.heap.size := Nat.lt_of_lt_of_le hzW b3.size
        have B4 := Lib.hid (below_nx HB.out b3)
        have RV3 := range_box0 w3 (msCells m na3 nc3) 27
        rw [show w3.alloc (.cells #[.int .i64 m.kind, .int .u64 (m.nonce : Int), .int .u64 (m.echo : Int), .int .u64 (m.seq : Int), .slice na3 m.news.length nc3, .int .i64 m.pk.kind, .int .i64 m.pk.frm, .int .i64 m.pk.back, .int .i64 m.pk.to, .int .i64 m.pk.home, .int .i64 m.pk.hops, .int .u64 (m.pk.serial : Int), .int .i64 m.pk.code, .string m.pk.name, .int .i64 m.pk.id, .int .i64 m.pk.at_, .string m.pk.body] 27) = w3.alloc (.cells (msCells m na3 nc3).toArray 27) from rfl]
        have aV3 := below_al w3 (.cells (msCells m na3 nc3).toArray 27)
        have zV3 : w3.heap.size < (w3.alloc (.cells (msCells m na3 nc3).toArray 27)).heap.size := by simp
        generalize w3.alloc (.cells (msCells m na3 nc3).toArray 27) = V3 at *
        have RA3 := Lib.hid (range_next RC zc aV3)
        have RB3 := Lib.hid RV3
        have HN3 := Lib.hid (own_next own3 aV3).news
        have B5 := Lib.hid (below_nx B4.out aV3)
        generalize w3.heap.size = x3 at *
        clear own3 b3 aV3 RC RV3 zV3
        have HS := Lib.hid (rSameM m m na3 nc3 na nc V3 HN3.out (HIN.out.kept (fun i hi => B5.out.block i hi) B5.out.size) HLM.out)
        refine wp_region_list ?_
        refine wpList_step (fun K hK0 => ?_)
        have hK := Lib.hid hK0
        clear hK0
        go_simp
        refine hK.out _ _ ?_
        clear hK K
        (try simp only [Act.put, List.setIfInBounds_toArray, List.set_cons_zero, List.set_cons_succ, List.getElem_toArray, List.getElem_cons_succ, List.getElem_cons_zero])
        refine wpList_step (fun K hK0 => ?_)
        have hK := Lib.hid hK0
        clear hK0
        go_simp
        refine hK.out _ _ ?_
        clear hK K
        (try simp only [Act.put, List.setIfInBounds_toArray, List.set_cons_zero, List.set_cons_succ, List.getElem_toArray, List.getElem_cons_succ, List.getElem_cons_zero])
        refine wpList_step (fun K hK0 => ?_)
        have hK := Lib.hid hK0
        clear hK0
        go_simp
        refine hK.out _ _ ?_
        clear hK K
        (try simp only [Act.put, List.setIfInBounds_toArray, List.set_cons_zero, List.set_cons_succ, List.getElem_toArray, List.getElem_cons_succ, List.getElem_cons_zero])
        refine wpList_step (fun K hK0 => ?_)
        have hK := Lib.hid hK0
        clear hK0
        go_simp
        refine hK.out _ _ ?_
        clear hK K
        (try simp only [Act.put, List.setIfInBounds_toArray, List.set_cons_zero, List.set_cons_succ, List.getElem_toArray, List.getElem_cons_succ, List.getElem_cons_zero])
        refine wpList_step (fun K hK0 => ?_)
        have hK := Lib.hid hK0
        clear hK0
        go_simp
        refine hK.out _ _ ?_
        clear hK K
        (try simp only [Act.put, List.setIfInBounds_toArray, List.set_cons_zero, List.set_cons_succ, List.getElem_toArray, List.getElem_cons_succ, List.getElem_cons_zero])
        refine wpList_step (fun K hK0 => ?_)
        have hK := Lib.hid hK0
        clear hK0
        go_simp
        refine hK.out _ _ ?_
        clear hK K
        (try simp only [Act.put, List.setIfInBounds_toArray, List.set_cons_zero, List.set_cons_succ, List.getElem_toArray, List.getElem_cons_succ, List.getElem_cons_zero])
        refine wpList_step (fun K hK0 => ?_)
        have hK := Lib.hid hK0
        clear hK0
        go_simp
        refine hK.out _ _ ?_
        clear hK K
        (try simp only [Act.put, List.setIfInBounds_toArray, List.set_cons_zero, List.set_cons_succ, List.getElem_toArray, List.getElem_cons_succ, List.getElem_cons_zero])
        refine wpList_load_guard (by kernel_rfl) 27 (.tmp 8) rfl x3 0 rfl (msCells m na3 nc3) _ RB3.out Tryz.underlying27 (by rfl) (by kernel_rfl) ?_
        (try simp only [Act.put, List.setIfInBounds_toArray, List.set_cons_zero, List.set_cons_succ, List.getElem_toArray, List.getElem_cons_succ, List.getElem_cons_zero])
        refine wpList_load_guard (by kernel_rfl) 27 (.tmp 1) rfl W.heap.size 0 rfl (msCells m na nc) _ RA3.out Tryz.underlying27 (by rfl) (by kernel_rfl) ?_
        (try simp only [Act.put, List.setIfInBounds_toArray, List.set_cons_zero, List.set_cons_succ, List.getElem_toArray, List.getElem_cons_succ, List.getElem_cons_zero])
        refine wpList_step (fun K hK0 => ?_)
        have hK := Lib.hid hK0
        clear hK0
        go_simp
        refine (HS.out).mono ?_
        rintro e w5 ⟨⟨r, rfl, hr⟩, b5⟩
        obtain rfl := hr.2 rfl
        have B6 := Lib.hid (below_nx B5.out b5)
        clear b5 hr
        go_wp2_with fail
        refine hK.out _ _ ?_
        clear hK K
        (try simp only [Act.put, List.setIfInBounds_toArray, List.set_cons_zero, List.set_cons_succ, List.getElem_toArray, List.getElem_cons_succ, List.getElem_cons_zero])
        go_wp2_with (go_at_call 12; refine (HAW.out _ B6.out).mono ?_; rintro e w6 ⟨rfl, b6⟩; have B7 := Lib.hid (below_nx B6.out b6); clear b6)
        go_ret
        exact ⟨rfl, B7.out⟩
  · have hcb : (c1 != 0) = true := by simp [h1]
    obtain rfl := HBAD.out h1
    clear HD0 R1 z1
    go_wp2_with (go_at_call 12; refine (HAW.out _ B1.out).mono ?_; rintro e w6 ⟨rfl, b6⟩; have B7 := Lib.hid (below_nx B1.out b6); clear b6)
    go_ret
    exact ⟨rfl, B7.out⟩
theorem msgLaw_own_any (k : Int) (nn : Nat) (ec : Nat) (sq : Nat) (l : List Nw) (na : Option Addr) (nc : Nat) (kd : Int) (fr : Int) (bk : Int) (tw : Int) (hm : Int) (hp : Int) (sr : Nat) (cd : Int) (nm : ByteArray) (id : Int) (at_ : Int) (bd : ByteArray) (W : World) (hin : NewsIn W W.heap.size l na) (hfit : Ms.Fit ⟨k, nn, ec, sq, l, ⟨kd, fr, bk, tw, hm, hp, sr, cd, nm, id, at_, bd⟩⟩) (hg : Handle W) (hsh : Shps W) :
    Calls Tryz.prog 7 #[.agg #[.int .i64 k, .int .u64 (nn : Int), .int .u64 (ec : Int), .int .u64 (sq : Int), .slice na l.length nc, .int .i64 kd, .int .i64 fr, .int .i64 bk, .int .i64 tw, .int .i64 hm, .int .i64 hp, .int .u64 (sr : Int), .int .i64 cd, .string nm, .int .i64 id, .int .i64 at_, .string bd]] W fun e w' => e = .returned (.bool true) ∧ Below W.heap.size W w' := msgLaw_ownM ⟨k, nn, ec, sq, l, ⟨kd, fr, bk, tw, hm, hp, sr, cd, nm, id, at_, bd⟩⟩ na nc W hin hfit hg hsh
end Go.Proofs.YtidfgjgbigedeaaGreatDoor
