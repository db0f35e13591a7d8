/- The law MessageBack. -/
import Derived.Test.YtidfgjgbigedeaaGreatDoorMiP
import Derived.Test.YtidfgjgbigedeaaGreatDoorMiB
namespace Go.Proofs.YtidfgjgbigedeaaGreatDoor
open Go.RowKit Go.Lib Go.Wq Go.Mq
set_option linter.unusedVariables false
set_option linter.unusedSimpArgs false
set_option maxRecDepth 100000

theorem mEncodeM (m : Ms) (na : Option Addr) (nc : Nat) (w : World) (hg : Handle w) (hsh : Shps w) (hin : NewsIn w w.heap.size m.news na) (hfit : m.Fit) :
    Calls Tryz.prog 8 #[.agg (msCells m na nc).toArray] w fun e w' => e = .returned (.tuple #[.string ⟨(encM m).1.toArray⟩, .int .i64 (encM m).2]) ∧ Below w.heap.size w w' := by
  obtain ⟨k, n, e, s, l, kd, fr, bk, tw, hm, hp, sr, cd, nm, id, at_, bd⟩ := m
  exact mEncode_any k n e s l na nc kd fr bk tw hm hp sr cd nm id at_ bd w hg hsh hin hfit
theorem code_enc {m : Ms} (hf : m.Fit) (h : (encM m).2 = 0) : codeD (encM m).1 = 0 ∧ outM (encM m).1 = m ∧ (encM m).1.length ≤ 65536 := by
  have h1 := decM_encM hf h
  obtain ⟨_, _, h3⟩ := encM_ok h
  obtain ⟨c1, c2⟩ := code_some h3 h1
  exact ⟨c1, c2, h3⟩
theorem code_zero {s : List UInt8} (h : codeD s = 0) : encM (outM s) = (s, 0) ∧ (outM s).Fit := by
  unfold codeD at h
  split at h
  · cases h
  · split at h
    · rename_i hs hd
      obtain ⟨m, hm⟩ := Option.isSome_iff_exists.1 hd
      have e : outM s = m := by unfold outM; rw [hm]; rfl
      rw [e]
      exact ⟨encM_decM hm, (dec_is hm).2.2.2.1⟩
    · cases h
theorem code_else {s : List UInt8} (h : codeD s ≠ 0) : outM s = msZ := by
  unfold codeD at h
  split at h
  · rename_i hs
    exact (code_long hs).2
  · split at h
    · exact absurd rfl h
    · rename_i hs hd
      unfold outM
      cases hm : decM s with
      | none => rfl
      | some m => rw [hm] at hd; exact absurd rfl hd
theorem listOf (x : List UInt8) : (⟨x.toArray⟩ : ByteArray).data.toList = x := rfl
theorem sizeOfL (x : List UInt8) : (⟨x.toArray⟩ : ByteArray).size = x.length := rfl

theorem mk_toList2 (s : ByteArray) : (⟨s.data.toList.toArray⟩ : ByteArray) = s := by cases s; rfl
set_option maxHeartbeats 8000000 in
theorem msgLaw_backM (m : Ms) (na : Option Addr) (nc : Nat) (s : ByteArray) (W : World) (hin : NewsIn W W.heap.size m.news na) (hfit : m.Fit) (hs2 : s.size ≤ 140737488351232) (hg : Handle W) (hsh : Shps W) :
    Calls Tryz.prog 5 #[.agg (msCells m na nc).toArray, .string s] W fun e w' => e = .returned (.bool true) ∧ Below W.heap.size W w' := by
  have HE := Lib.hid (fun (w : World) (h : Below W.heap.size W w) => mEncodeM m na nc w (hg.below h) (hsh.below h) (hin.kept (fun i hi => h.block i hi) h.size) hfit)
  have HX := Lib.hid (code_enc (m := m) hfit)
  have HIN := Lib.hid hin
  have HD0 : Hid ((encM m).2 = 0 → ∀ w, Below W.heap.size W w → Calls Tryz.prog 13 #[.string ⟨(encM m).1.toArray⟩] w fun e w' => ∃ (na : Option Addr) (nc : Nat), e = .returned (.tuple #[.agg (msCells m na nc).toArray, .int .i64 0]) ∧ NewsOwn w' w.heap.size m.news na nc ∧ Below w.heap.size w w') := Lib.hid (fun h w hb => by
    obtain ⟨c1, c2, c3⟩ := code_enc hfit h
    have := mDecode_any ⟨(encM m).1.toArray⟩ (by rw [sizeOfL]; omega) w (hg.below hb) (hsh.below hb)
    unfold DecEnds at this
    rw [listOf, c1, c2] at this
    exact this)
  have HK0 : Hid ((encM m).2 = 0 → ∀ w, Below W.heap.size W w → Calls Tryz.prog 16 #[.string ⟨(encM m).1.toArray⟩] w fun e w' => e = .returned (.int .i64 m.kind) ∧ Below w.heap.size w w') := Lib.hid (fun h w hb => by
    obtain ⟨c1, c2, c3⟩ := code_enc hfit h
    have := mKind_any ⟨(encM m).1.toArray⟩ (by rw [sizeOfL]; omega) w (hg.below hb) (hsh.below hb)
    rw [listOf, c2] at this
    exact this)
  have HL0 : Hid ((encM m).2 = 0 → (⟨(encM m).1.toArray⟩ : ByteArray).size ≤ 65536) := Lib.hid (fun h => by rw [sizeOfL]; exact (code_enc hfit h).2.2)
  have HD := Lib.hid (fun (w : World) (h : Below W.heap.size W w) => mDecode_any s hs2 w (hg.below h) (hsh.below h))
  have HAW := Lib.hid (fun (w : World) (h : Below W.heap.size W w) => msgAwake_any w (hg.below h) (hsh.below h))
  have HY := Lib.hid (code_zero (s := s.data.toList))
  have HZ := Lib.hid (code_else (s := s.data.toList))
  have HLM := Lib.hid hfit.len
  have HG := Lib.hid hg
  have HSH := Lib.hid hsh
  clear hin hfit hs2 hg hsh HX
  unfold DecEnds at HD
  have HY2 : Hid (codeD s.data.toList = 0 → encM (outM s.data.toList) = (s.data.toList, 0) ∧ (outM s.data.toList).Fit) := HY
  clear HY
  have HY := HY2
  clear HY2
  generalize outM s.data.toList = m2 at *
  generalize codeD s.data.toList = code2 at *
  generalize (⟨(encM m).1.toArray⟩ : ByteArray) = bs at *
  generalize (encM m).2 = c1 at *
  go_enter Tryz.func5, Tryz.ntmps5
  go_upto_region 1 with (fail)
  have R0 := range_box0 W (msCells m na nc) 27
  have b0 := below_al W (.cells (msCells m na nc).toArray 27)
  have z0 : W.heap.size < (W.alloc (.cells (msCells m na nc).toArray 27)).heap.size := by simp
  generalize W.alloc (.cells (msCells m na nc).toArray 27) = V0 at *
  refine wp_region_list ?_
  refine wpList_load_guard (by kernel_rfl) 27 (.tmp 2) rfl W.heap.size 0 rfl (msCells m na nc) _ R0 Tryz.underlying27 (by rfl) (by kernel_rfl) ?_
  (try simp only [Act.put, List.setIfInBounds_toArray, List.set_cons_zero, List.set_cons_succ, List.getElem_toArray, List.getElem_cons_succ, List.getElem_cons_zero])
  go_upto_region 2 with (go_at_call 8; refine (HE.out _ b0).mono ?_; rintro e w1 ⟨rfl, b1⟩)
  have R1 := range_next R0 z0 b1
  have z1 : W.heap.size < w1.heap.size := Nat.lt_of_lt_of_le z0 b1.size
  have B1 := Lib.hid (below_nx b0 b1)
  clear b1 b0 z0 R0
  by_cases h1 : c1 = 0
  · subst h1
    go_upto_region 3 with (fail)
    go_upto_region 4 with (go_at_call 13; refine (HD0.out trivial _ B1.out).mono ?_; rintro e w2 ⟨na2, nc2, rfl, own2, b2⟩; simp only [msCells])
    have R2 := range_next R1 z1 b2
    have z2 : W.heap.size < w2.heap.size := Nat.lt_of_lt_of_le z1 b2.size
    have B2 := Lib.hid (below_nx B1.out b2)
    have RV2 := range_box0 w2 (msCells m na2 nc2) 27
    rw [show w2.alloc (.cells #[.int .i64 m.kind, .int .u64 (m.nonce : Int), .int .u64 (m.echo : Int), .int .u64 (m.seq : Int), .slice na2 m.news.length nc2, .int .i64 m.pk.kind, .int .i64 m.pk.frm, .int .i64 m.pk.back, .int .i64 m.pk.to, .int .i64 m.pk.home, .int .i64 m.pk.hops, .int .u64 (m.pk.serial : Int), .int .i64 m.pk.code, .string m.pk.name, .int .i64 m.pk.id, .int .i64 m.pk.at_, .string m.pk.body] 27) = w2.alloc (.cells (msCells m na2 nc2).toArray 27) from rfl]
    have aV2 := below_al w2 (.cells (msCells m na2 nc2).toArray 27)
    have zV2 : w2.heap.size < (w2.alloc (.cells (msCells m na2 nc2).toArray 27)).heap.size := by simp
    generalize w2.alloc (.cells (msCells m na2 nc2).toArray 27) = V2 at *
    have RA := Lib.hid (range_next R2 z2 aV2)
    have RB := Lib.hid RV2
    have HN2 := Lib.hid (own_next own2 aV2)
    have B3 := Lib.hid (below_nx B2.out aV2)
    have zx := zV2
    have zW : W.heap.size < V2.heap.size := Nat.lt_of_lt_of_le z2 aV2.size
    generalize w2.heap.size = x2 at *
    clear own2 b2 aV2 zV2 R2 R1 RV2 z1 z2
    have KA : ∀ V, Below V2.heap.size V2 V → V.rangeAt W.heap.size 0 (msCells m na nc) := fun V h => range_next RA.out zW h
    have KB : ∀ V, Below V2.heap.size V2 V → V.rangeAt x2 0 (msCells m na2 nc2) := fun V h => range_next RB.out zx h
    have KK : ∀ V, Below V2.heap.size V2 V → V.cell? ⟨W.heap.size, 0, none⟩ = some (.int .i64 m.kind) := fun V h => KA V h 0 _ rfl
    have HS := Lib.hid (fun (V : World) (h : Below V2.heap.size V2 V) => rSameM m m na nc na2 nc2 V (HIN.out.kept (fun i hi => (B3.out.trans (h.mono B3.out.size)).block i hi) (Nat.le_trans B3.out.size h.size)) (own_next HN2.out h).news HLM.out)
    have hlen : ¬ (65536 : Int) < (bs.size : Int) := by have := HL0.out trivial; omega
    refine wp_region_held_drew (S := fun V => Below V2.heap.size V2 V) (by kernel_rfl) (Below.drew (Below.refl _ _)) (fun hH => ?_)
    have hH0 := Lib.hid hH
    refine tk 0 (by assumption) rfl (by kernel_rfl) (fun _ _ _ h => h) (fun V hV => by go_simp; try with_reducible rfl) ?_
    (try simp only [Act.put, List.setIfInBounds_toArray, List.set_cons_zero, List.set_cons_succ, List.getElem_toArray, List.getElem_cons_succ, List.getElem_cons_zero])
    refine tk 1 (by assumption) rfl (by kernel_rfl) (fun _ _ _ h => h) (fun V hV => by go_simp; try with_reducible rfl) ?_
    (try simp only [Act.put, List.setIfInBounds_toArray, List.set_cons_zero, List.set_cons_succ, List.getElem_toArray, List.getElem_cons_succ, List.getElem_cons_zero])
    refine tk 2 (by assumption) rfl (by kernel_rfl) (fun _ _ _ h => h) (fun V hV => by go_simp; try with_reducible rfl) ?_
    (try simp only [Act.put, List.setIfInBounds_toArray, List.set_cons_zero, List.set_cons_succ, List.getElem_toArray, List.getElem_cons_succ, List.getElem_cons_zero])
    refine tk 3 (by assumption) rfl (by kernel_rfl) (fun _ _ _ h => h) (tk_load 27 (.tmp 2) rfl W.heap.size 0 rfl (msCells m na nc) _ (fun V hV => KA V hV) Tryz.underlying27 (by rfl) (by kernel_rfl)) ?_
    (try simp only [Act.put, List.setIfInBounds_toArray, List.set_cons_zero, List.set_cons_succ, List.getElem_toArray, List.getElem_cons_succ, List.getElem_cons_zero])
    refine tk 4 (by assumption) rfl (by kernel_rfl) (fun _ _ _ h => h) (tk_load 27 (.tmp 7) rfl x2 0 rfl (msCells m na2 nc2) _ (fun V hV => KB V hV) Tryz.underlying27 (by rfl) (by kernel_rfl)) ?_
    (try simp only [Act.put, List.setIfInBounds_toArray, List.set_cons_zero, List.set_cons_succ, List.getElem_toArray, List.getElem_cons_succ, List.getElem_cons_zero])
    refine wpAnyH_ready (rs := [5]) (by kernel_rfl) (by simp) ?_
    refine AllReadyH.cons (o := _) rfl (fun K hK => ?_) AllReadyH.nil
    go_simp
    refine (HS.out _ hH0.out).mono ?_
    rintro e V4 ⟨⟨r, rfl, hr⟩, b4⟩
    obtain rfl := hr.2 rfl
    have B4 := Lib.hid (below_nx hH0.out b4)
    clear b4 hr
    go_wp2_with fail
    refine hK.out _ _ B4.out (fun hH => ?_)
    clear hK K
    (try simp only [Act.put, List.setIfInBounds_toArray, List.set_cons_zero, List.set_cons_succ, List.getElem_toArray, List.getElem_cons_succ, List.getElem_cons_zero])
    refine tk 6 (by assumption) rfl (by kernel_rfl) (fun _ _ _ h => h) (fun V hV => by go_simp; try with_reducible rfl) ?_
    (try simp only [Act.put, List.setIfInBounds_toArray, List.set_cons_zero, List.set_cons_succ, List.getElem_toArray, List.getElem_cons_succ, List.getElem_cons_zero])
    refine tk 7 (by assumption) rfl (by kernel_rfl) (fun _ _ _ h => h) (fun V hV => by go_simp; try with_reducible rfl) ?_
    (try simp only [Act.put, List.setIfInBounds_toArray, List.set_cons_zero, List.set_cons_succ, List.getElem_toArray, List.getElem_cons_succ, List.getElem_cons_zero])
    refine tk 8 (by assumption) rfl (by kernel_rfl) (fun _ _ _ h => h) (fun V hV => by go_simp; try with_reducible rfl) ?_
    (try simp only [Act.put, List.setIfInBounds_toArray, List.set_cons_zero, List.set_cons_succ, List.getElem_toArray, List.getElem_cons_succ, List.getElem_cons_zero])
    refine tk 9 (by assumption) rfl (by kernel_rfl) (fun _ _ _ h => h) (fun V hV => by go_simp; try with_reducible rfl) ?_
    (try simp only [Act.put, List.setIfInBounds_toArray, List.set_cons_zero, List.set_cons_succ, List.getElem_toArray, List.getElem_cons_succ, List.getElem_cons_zero])
    refine tk 10 (by assumption) rfl (by kernel_rfl) (fun _ _ _ h => h) (fun V hV => by go_simp; try with_reducible rfl) ?_
    (try simp only [Act.put, List.setIfInBounds_toArray, List.set_cons_zero, List.set_cons_succ, List.getElem_toArray, List.getElem_cons_succ, List.getElem_cons_zero])
    refine tk (v := .bool false) 11 (by assumption) rfl (by kernel_rfl) (fun _ _ _ h => h) (fun V hV => by first | (go_simp; done) | (go_simp; simp; omega) | (go_simp; simp [hlen])) ?_
    (try simp only [Act.put, List.setIfInBounds_toArray, List.set_cons_zero, List.set_cons_succ, List.getElem_toArray, List.getElem_cons_succ, List.getElem_cons_zero])
    refine tk 12 (by assumption) rfl (by kernel_rfl) (fun _ _ _ h => h) (fun V hV => by go_simp; try with_reducible rfl) ?_
    (try simp only [Act.put, List.setIfInBounds_toArray, List.set_cons_zero, List.set_cons_succ, List.getElem_toArray, List.getElem_cons_succ, List.getElem_cons_zero])
    refine tk 13 (by assumption) rfl (by kernel_rfl) (fun _ _ _ h => h) (fun V hV => by go_simp; try with_reducible rfl) ?_
    (try simp only [Act.put, List.setIfInBounds_toArray, List.set_cons_zero, List.set_cons_succ, List.getElem_toArray, List.getElem_cons_succ, List.getElem_cons_zero])
    refine tk 14 (by assumption) rfl (by kernel_rfl) (fun _ _ _ h => h) (fun V hV => by go_simp; try with_reducible rfl) ?_
    (try simp only [Act.put, List.setIfInBounds_toArray, List.set_cons_zero, List.set_cons_succ, List.getElem_toArray, List.getElem_cons_succ, List.getElem_cons_zero])
    refine tk 16 (by assumption) rfl (by kernel_rfl) (fun _ _ _ h => h) (fun V hV => by go_simp; try with_reducible rfl) ?_
    (try simp only [Act.put, List.setIfInBounds_toArray, List.set_cons_zero, List.set_cons_succ, List.getElem_toArray, List.getElem_cons_succ, List.getElem_cons_zero])
    refine tk 17 (by assumption) rfl (by kernel_rfl) (fun _ _ _ h => h) (fun V hV => by have hc := KK V hV; go_simp; try with_reducible rfl) ?_
    (try simp only [Act.put, List.setIfInBounds_toArray, List.set_cons_zero, List.set_cons_succ, List.getElem_toArray, List.getElem_cons_succ, List.getElem_cons_zero])
    refine wpAnyH_ready (rs := [15]) (by kernel_rfl) (by simp) ?_
    refine AllReadyH.cons (o := _) rfl (fun K hK => ?_) AllReadyH.nil
    go_simp
    refine (HK0.out trivial _ (B3.out.trans (B4.out.mono B3.out.size))).mono ?_
    rintro e V5 ⟨rfl, b5⟩
    have B5 := Lib.hid (below_nx B4.out b5)
    clear b5
    go_wp2_with fail
    refine hK.out _ _ B5.out (fun hH => ?_)
    clear hK K
    (try simp only [Act.put, List.setIfInBounds_toArray, List.set_cons_zero, List.set_cons_succ, List.getElem_toArray, List.getElem_cons_succ, List.getElem_cons_zero])
    refine tk 18 (by assumption) rfl (by kernel_rfl) (fun _ _ _ h => h) (fun V hV => by go_simp; try with_reducible rfl) ?_
    (try simp only [Act.put, List.setIfInBounds_toArray, List.set_cons_zero, List.set_cons_succ, List.getElem_toArray, List.getElem_cons_succ, List.getElem_cons_zero])
    refine tk 19 (by assumption) rfl (by kernel_rfl) (fun _ _ _ h => h) (fun V hV => by go_simp; try with_reducible rfl) ?_
    (try simp only [Act.put, List.setIfInBounds_toArray, List.set_cons_zero, List.set_cons_succ, List.getElem_toArray, List.getElem_cons_succ, List.getElem_cons_zero])
    refine wpAnyH_done (by kernel_rfl) ?_ _
    have BZ := Lib.hid (B3.out.trans (B5.out.mono B3.out.size))
    clear KA KB KK HS HD0 HK0 HL0 hH0 hH RA RB HN2 B1 B2
    go_upto_region 6 with (fail)
    go_upto_region 7 with (go_at_call 13; refine (HD.out _ BZ.out).mono ?_; rintro e w3 ⟨na3, nc3, rfl, own3, b3⟩; simp only [msCells])
    have RV3 := range_box0 w3 (msCells m2 na3 nc3) 27
    rw [show w3.alloc (.cells #[.int .i64 m2.kind, .int .u64 (m2.nonce : Int), .int .u64 (m2.echo : Int), .int .u64 (m2.seq : Int), .slice na3 m2.news.length nc3, .int .i64 m2.pk.kind, .int .i64 m2.pk.frm, .int .i64 m2.pk.back, .int .i64 m2.pk.to, .int .i64 m2.pk.home, .int .i64 m2.pk.hops, .int .u64 (m2.pk.serial : Int), .int .i64 m2.pk.code, .string m2.pk.name, .int .i64 m2.pk.id, .int .i64 m2.pk.at_, .string m2.pk.body] 27) = w3.alloc (.cells (msCells m2 na3 nc3).toArray 27) from rfl]
    have aV3 := below_al w3 (.cells (msCells m2 na3 nc3).toArray 27)
    have zV3 : w3.heap.size < (w3.alloc (.cells (msCells m2 na3 nc3).toArray 27)).heap.size := by simp
    generalize w3.alloc (.cells (msCells m2 na3 nc3).toArray 27) = V3 at *
    have B3 := Lib.hid (below_nx (below_nx BZ.out b3) aV3)
    have HN3 := Lib.hid (own_next own3 aV3).news
    generalize w3.heap.size = x3 at *
    clear own3 b3 aV3 zV3
    by_cases hc2 : code2 = 0
    · obtain ⟨q1, q2⟩ := HY.out hc2
      have HEN := Lib.hid (mEncodeM m2 na3 nc3 V3 (HG.out.below B3.out) (HSH.out.below B3.out) HN3.out q2)
      rw [q1] at HEN
      simp only [mk_toList2] at HEN
      clear q1 q2
      subst hc2
      go_upto_region 9 with (fail)
      refine wp_region_list ?_
      refine wpList_load_guard (by kernel_rfl) 27 (.tmp 9) rfl x3 0 rfl (msCells m2 na3 nc3) _ RV3 Tryz.underlying27 (by rfl) (by kernel_rfl) ?_
      (try simp only [Act.put, List.setIfInBounds_toArray, List.set_cons_zero, List.set_cons_succ, List.getElem_toArray, List.getElem_cons_succ, List.getElem_cons_zero])
      have hss : (s.toList == s.toList) = true := beq_self_eq_true _
      go_wp2_with (first | (go_at_call 8; refine HEN.out.mono ?_; rintro e w5 ⟨rfl, b5⟩; have B5 := Lib.hid (below_nx B3.out b5); clear b5) | (go_at_call 12; refine (HAW.out _ B5.out).mono ?_; rintro e w6 ⟨rfl, b6⟩; have B6 := Lib.hid (below_nx B5.out b6); clear b6))
      go_ret
      exact ⟨rfl, B6.out⟩
    · have hcb : (code2 != 0) = true := by simp [hc2]
      obtain rfl := HZ.out hc2
      have HSZ := Lib.hid (rSameM msZ msZ na3 nc3 none 0 V3 HN3.out (Or.inl rfl) (by decide))
      go_upto_region 8 with (fail)
      refine wp_region_list ?_
      refine wpList_load_guard (by kernel_rfl) 27 (.tmp 9) rfl x3 0 rfl (msCells msZ na3 nc3) _ RV3 Tryz.underlying27 (by rfl) (by kernel_rfl) ?_
      (try simp only [Act.put, List.setIfInBounds_toArray, List.set_cons_zero, List.set_cons_succ, List.getElem_toArray, List.getElem_cons_succ, List.getElem_cons_zero])
      refine wpList_step (fun K hK0 => ?_)
      have hK := Lib.hid hK0
      clear hK0
      go_simp
      refine hK.out _ _ ?_
      clear hK K
      (try simp only [Act.put, List.setIfInBounds_toArray, List.set_cons_zero, List.set_cons_succ, List.getElem_toArray, List.getElem_cons_succ, List.getElem_cons_zero])
      refine wpList_step (fun K hK0 => ?_)
      have hK := Lib.hid hK0
      clear hK0
      go_simp
      refine (HSZ.out).mono ?_
      rintro e w5 ⟨⟨r, rfl, hr⟩, b5⟩
      obtain rfl := hr.2 rfl
      have B5 := Lib.hid (below_nx B3.out b5)
      clear b5 hr
      go_wp2_with fail
      refine hK.out _ _ ?_
      clear hK K
      (try simp only [Act.put, List.setIfInBounds_toArray, List.set_cons_zero, List.set_cons_succ, List.getElem_toArray, List.getElem_cons_succ, List.getElem_cons_zero])
      go_wp2_with (go_at_call 12; refine (HAW.out _ B5.out).mono ?_; rintro e w6 ⟨rfl, b6⟩; have B6 := Lib.hid (below_nx B5.out b6); clear b6)
      go_ret
      exact ⟨rfl, B6.out⟩
  · have hcb : (c1 == 0) = false := by simp [h1]
    clear HD0 HK0 HL0 R1 z1
    go_upto_region 6 with (fail)
    go_upto_region 7 with (go_at_call 13; refine (HD.out _ B1.out).mono ?_; rintro e w3 ⟨na3, nc3, rfl, own3, b3⟩; simp only [msCells])
    have RV3 := range_box0 w3 (msCells m2 na3 nc3) 27
    rw [show w3.alloc (.cells #[.int .i64 m2.kind, .int .u64 (m2.nonce : Int), .int .u64 (m2.echo : Int), .int .u64 (m2.seq : Int), .slice na3 m2.news.length nc3, .int .i64 m2.pk.kind, .int .i64 m2.pk.frm, .int .i64 m2.pk.back, .int .i64 m2.pk.to, .int .i64 m2.pk.home, .int .i64 m2.pk.hops, .int .u64 (m2.pk.serial : Int), .int .i64 m2.pk.code, .string m2.pk.name, .int .i64 m2.pk.id, .int .i64 m2.pk.at_, .string m2.pk.body] 27) = w3.alloc (.cells (msCells m2 na3 nc3).toArray 27) from rfl]
    have aV3 := below_al w3 (.cells (msCells m2 na3 nc3).toArray 27)
    have zV3 : w3.heap.size < (w3.alloc (.cells (msCells m2 na3 nc3).toArray 27)).heap.size := by simp
    generalize w3.alloc (.cells (msCells m2 na3 nc3).toArray 27) = V3 at *
    have B3 := Lib.hid (below_nx (below_nx B1.out b3) aV3)
    have HN3 := Lib.hid (own_next own3 aV3).news
    generalize w3.heap.size = x3 at *
    clear own3 b3 aV3 zV3
    by_cases hc2 : code2 = 0
    · obtain ⟨q1, q2⟩ := HY.out hc2
      have HEN := Lib.hid (mEncodeM m2 na3 nc3 V3 (HG.out.below B3.out) (HSH.out.below B3.out) HN3.out q2)
      rw [q1] at HEN
      simp only [mk_toList2] at HEN
      clear q1 q2
      subst hc2
      go_upto_region 9 with (fail)
      refine wp_region_list ?_
      refine wpList_load_guard (by kernel_rfl) 27 (.tmp 9) rfl x3 0 rfl (msCells m2 na3 nc3) _ RV3 Tryz.underlying27 (by rfl) (by kernel_rfl) ?_
      (try simp only [Act.put, List.setIfInBounds_toArray, List.set_cons_zero, List.set_cons_succ, List.getElem_toArray, List.getElem_cons_succ, List.getElem_cons_zero])
      have hss : (s.toList == s.toList) = true := beq_self_eq_true _
      go_wp2_with (first | (go_at_call 8; refine HEN.out.mono ?_; rintro e w5 ⟨rfl, b5⟩; have B5 := Lib.hid (below_nx B3.out b5); clear b5) | (go_at_call 12; refine (HAW.out _ B5.out).mono ?_; rintro e w6 ⟨rfl, b6⟩; have B6 := Lib.hid (below_nx B5.out b6); clear b6))
      go_ret
      exact ⟨rfl, B6.out⟩
    · have hcb : (code2 != 0) = true := by simp [hc2]
      obtain rfl := HZ.out hc2
      have HSZ := Lib.hid (rSameM msZ msZ na3 nc3 none 0 V3 HN3.out (Or.inl rfl) (by decide))
      go_upto_region 8 with (fail)
      refine wp_region_list ?_
      refine wpList_load_guard (by kernel_rfl) 27 (.tmp 9) rfl x3 0 rfl (msCells msZ na3 nc3) _ RV3 Tryz.underlying27 (by rfl) (by kernel_rfl) ?_
      (try simp only [Act.put, List.setIfInBounds_toArray, List.set_cons_zero, List.set_cons_succ, List.getElem_toArray, List.getElem_cons_succ, List.getElem_cons_zero])
      refine wpList_step (fun K hK0 => ?_)
      have hK := Lib.hid hK0
      clear hK0
      go_simp
      refine hK.out _ _ ?_
      clear hK K
      (try simp only [Act.put, List.setIfInBounds_toArray, List.set_cons_zero, List.set_cons_succ, List.getElem_toArray, List.getElem_cons_succ, List.getElem_cons_zero])
      refine wpList_step (fun K hK0 => ?_)
      have hK := Lib.hid hK0
      clear hK0
      go_simp
      refine (HSZ.out).mono ?_
      rintro e w5 ⟨⟨r, rfl, hr⟩, b5⟩
      obtain rfl := hr.2 rfl
      have B5 := Lib.hid (below_nx B3.out b5)
      clear b5 hr
      go_wp2_with fail
      refine hK.out _ _ ?_
      clear hK K
      (try simp only [Act.put, List.setIfInBounds_toArray, List.set_cons_zero, List.set_cons_succ, List.getElem_toArray, List.getElem_cons_succ, List.getElem_cons_zero])
      go_wp2_with (go_at_call 12; refine (HAW.out _ B5.out).mono ?_; rintro e w6 ⟨rfl, b6⟩; have B6 := Lib.hid (below_nx B5.out b6); clear b6)
      go_ret
      exact ⟨rfl, B6.out⟩
theorem msgLaw_back_any (k : Int) (nn : Nat) (ec : Nat) (sq : Nat) (l : List Nw) (na : Option Addr) (nc : Nat) (kd : Int) (fr : Int) (bk : Int) (tw : Int) (hm : Int) (hp : Int) (sr : Nat) (cd : Int) (nm : ByteArray) (id : Int) (at_ : Int) (bd : ByteArray) (s : ByteArray) (W : World) (hin : NewsIn W W.heap.size l na) (hfit : Ms.Fit ⟨k, nn, ec, sq, l, ⟨kd, fr, bk, tw, hm, hp, sr, cd, nm, id, at_, bd⟩⟩) (hm0 : s.size ≤ maxLen) (hs2 : s.size ≤ 140737488351232) (hg : Handle W) (hsh : Shps W) :
    Calls Tryz.prog 5 #[.agg #[.int .i64 k, .int .u64 (nn : Int), .int .u64 (ec : Int), .int .u64 (sq : Int), .slice na l.length nc, .int .i64 kd, .int .i64 fr, .int .i64 bk, .int .i64 tw, .int .i64 hm, .int .i64 hp, .int .u64 (sr : Int), .int .i64 cd, .string nm, .int .i64 id, .int .i64 at_, .string bd], .string s] W fun e w' => e = .returned (.bool true) ∧ Below W.heap.size W w' := msgLaw_backM ⟨k, nn, ec, sq, l, ⟨kd, fr, bk, tw, hm, hp, sr, cd, nm, id, at_, bd⟩⟩ na nc s W hin hfit hs2 hg hsh
end Go.Proofs.YtidfgjgbigedeaaGreatDoor
