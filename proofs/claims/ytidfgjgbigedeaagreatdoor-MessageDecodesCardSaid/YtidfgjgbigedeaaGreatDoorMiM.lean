/- The law MessageDecodes. -/
import Derived.Test.YtidfgjgbigedeaaGreatDoorMiL
import Derived.Test.YtidfgjgbigedeaaGreatDoorMiP
namespace Go.Proofs.YtidfgjgbigedeaaGreatDoor
open Go.RowKit Go.Lib Go.Wq Go.Mq
set_option linter.unusedVariables false
set_option linter.unusedSimpArgs false
set_option maxRecDepth 100000

set_option maxHeartbeats 4000000 in
theorem msgLaw_decodes (s : ByteArray) (W : World) (hm0 : s.size ≤ maxLen) (hs2 : s.size ≤ 140737488351232) (hg : Handle W) (hsh : Shps W) : Calls Tryz.prog 4 #[.string s] W fun e w' => e = .returned (.bool true) ∧ Below W.heap.size W w' := by
  have HM := Lib.hid (fun (w : World) (h : Below W.heap.size W w) => mDecode_any s hs2 w (hg.below h) (hsh.below h))
  have HR := Lib.hid (fun (w : World) => rDecode_any s hs2 w)
  have HMK := Lib.hid (fun (w : World) (h : Below W.heap.size W w) => mKind_any s hs2 w (hg.below h) (hsh.below h))
  have HRK := Lib.hid (fun (w : World) => rKind_any s hs2 w)
  have HAW := Lib.hid (fun (w : World) (h : Below W.heap.size W w) => msgAwake_any w (hg.below h) (hsh.below h))
  have HLN := Lib.hid (out_len s.data.toList)
  clear hg hsh hs2 hm0
  unfold DecEnds at HM HR
  generalize outM s.data.toList = m at *
  generalize codeD s.data.toList = code at *
  go_enter Tryz.func4, Tryz.ntmps4
  go_upto_region 1 with (fail)
  go_upto_region 2 with (go_at_call 13; refine (HM.out _ (Below.refl _ _)).mono ?_; rintro e w1 ⟨na, nc, rfl, own1, b1⟩; simp only [msCells])
  have RV1 := range_box0 w1 (msCells m na nc) 27
  rw [show w1.alloc (.cells #[.int .i64 m.kind, .int .u64 (m.nonce : Int), .int .u64 (m.echo : Int), .int .u64 (m.seq : Int), .slice na m.news.length nc, .int .i64 m.pk.kind, .int .i64 m.pk.frm, .int .i64 m.pk.back, .int .i64 m.pk.to, .int .i64 m.pk.home, .int .i64 m.pk.hops, .int .u64 (m.pk.serial : Int), .int .i64 m.pk.code, .string m.pk.name, .int .i64 m.pk.id, .int .i64 m.pk.at_, .string m.pk.body] 27) = w1.alloc (.cells (msCells m na nc).toArray 27) from rfl]
  have aV1 := below_al w1 (.cells (msCells m na nc).toArray 27)
  have zV1 : w1.heap.size < (w1.alloc (.cells (msCells m na nc).toArray 27)).heap.size := by simp
  generalize w1.alloc (.cells (msCells m na nc).toArray 27) = V1 at *
  have B1 := Lib.hid (below_nx b1 aV1)
  have hz1 : W.heap.size ≤ w1.heap.size := b1.size
  have OW1 := Lib.hid (own_next own1 aV1)
  generalize w1.heap.size = x1 at *
  clear own1 b1 aV1
  go_upto_region 3 with (go_at_call 14; refine (HR.out _).mono ?_; rintro e w2 ⟨na2, nc2, rfl, own2, b2⟩; simp only [msCells])
  have RV1b := range_next RV1 zV1 b2
  have OW1b := own_next OW1.out b2
  have hz2 : x1 < w2.heap.size := Nat.lt_of_lt_of_le zV1 b2.size
  have B2 := Lib.hid (below_nx B1.out (b2.mono (Nat.le_refl _)))
  have RV2 := range_box0 w2 (msCells m na2 nc2) 27
  rw [show w2.alloc (.cells #[.int .i64 m.kind, .int .u64 (m.nonce : Int), .int .u64 (m.echo : Int), .int .u64 (m.seq : Int), .slice na2 m.news.length nc2, .int .i64 m.pk.kind, .int .i64 m.pk.frm, .int .i64 m.pk.back, .int .i64 m.pk.to, .int .i64 m.pk.home, .int .i64 m.pk.hops, .int .u64 (m.pk.serial : Int), .int .i64 m.pk.code, .string m.pk.name, .int .i64 m.pk.id, .int .i64 m.pk.at_, .string m.pk.body] 27) = w2.alloc (.cells (msCells m na2 nc2).toArray 27) from rfl]
  have aV2 := below_al w2 (.cells (msCells m na2 nc2).toArray 27)
  have zV2 : w2.heap.size < (w2.alloc (.cells (msCells m na2 nc2).toArray 27)).heap.size := by simp
  generalize w2.alloc (.cells (msCells m na2 nc2).toArray 27) = V2 at *
  have RA := Lib.hid (range_next RV1b hz2 aV2)
  have RB := Lib.hid RV2
  have HN1 := Lib.hid (own_next OW1b aV2).news
  have HN2 := Lib.hid (own_next own2 aV2).news
  have B3 := Lib.hid (below_nx B2.out aV2)
  generalize w2.heap.size = x2 at *
  clear own2 b2 aV2 RV1 RV1b RV2 zV1 zV2 OW1 OW1b hz1 hz2
  have HS := Lib.hid (rSameM m m na nc na2 nc2 V2 HN1.out HN2.out HLN.out)
  refine wp_region_list ?_
  refine wpList_load_guard (by kernel_rfl) 27 (.tmp 3) rfl x1 0 rfl (msCells m na nc) _ RA.out Tryz.underlying27 (by rfl) (by kernel_rfl) ?_
  (try simp only [Act.put, List.setIfInBounds_toArray, List.set_cons_zero, List.set_cons_succ, List.getElem_toArray, List.getElem_cons_succ, List.getElem_cons_zero])
  refine wpList_load_guard (by kernel_rfl) 27 (.tmp 5) rfl x2 0 rfl (msCells m na2 nc2) _ RB.out Tryz.underlying27 (by rfl) (by kernel_rfl) ?_
  (try simp only [Act.put, List.setIfInBounds_toArray, List.set_cons_zero, List.set_cons_succ, List.getElem_toArray, List.getElem_cons_succ, List.getElem_cons_zero])
  refine wpList_step (fun K hK0 => ?_)
  have hK := Lib.hid hK0
  clear hK0
  go_simp
  refine (HS.out).mono ?_
  rintro e w3 ⟨⟨r, rfl, hr⟩, b3⟩
  obtain rfl := hr.2 rfl
  have B4 := Lib.hid (below_nx B3.out b3)
  clear b3 hr
  go_wp2_with fail
  refine hK.out _ _ ?_
  clear hK K
  (try simp only [Act.put, List.setIfInBounds_toArray, List.set_cons_zero, List.set_cons_succ, List.getElem_toArray, List.getElem_cons_succ, List.getElem_cons_zero])
  have hcc : (code == code) = true := beq_self_eq_true _
  have hkk : (m.kind == m.kind) = true := beq_self_eq_true _
  go_wp2_with fail
  refine (HMK.out _ B4.out).mono ?_
  rintro e w4 ⟨rfl, b4⟩
  have B5 := Lib.hid (below_nx B4.out b4)
  clear b4
  go_wp2_with fail
  refine (HRK.out _).mono ?_
  rintro e w5 ⟨rfl, b5⟩
  have B6 := Lib.hid (below_nx B5.out b5)
  clear b5
  go_wp2_with fail
  refine (HAW.out _ B6.out).mono ?_
  rintro e w6 ⟨rfl, b6⟩
  have B7 := Lib.hid (below_nx B6.out b6)
  clear b6
  go_wp2_with fail
  go_ret
  exact ⟨rfl, B7.out⟩
end Go.Proofs.YtidfgjgbigedeaaGreatDoor
