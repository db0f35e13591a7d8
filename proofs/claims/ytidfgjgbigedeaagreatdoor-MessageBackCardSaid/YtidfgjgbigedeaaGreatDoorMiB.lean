/- The law MessageUnlike. -/
import Derived.Test.YtidfgjgbigedeaaGreatDoorMiA
import Derived.Test.YtidfgjgbigedeaaGreatDoorMhF
import Derived.Test.YtidfgjgbigedeaaGreatDoorMqF
namespace Go.Proofs.YtidfgjgbigedeaaGreatDoor
open Go.RowKit Go.Lib Go.Wq Go.Mq
set_option linter.unusedVariables false
set_option linter.unusedSimpArgs false
set_option maxRecDepth 100000

theorem encS_ok {s : List UInt8} {fs : List Fld} (h : (encSays s fs).2 = 0) : ∃ its, Go.Wq.shape s = some its ∧ encAll its fs = some (encSays s fs).1 ∧ (encSays s fs).1.length ≤ 65536 := by
  cases hx : Go.Wq.shape s with
  | none => unfold encSays at h; simp [hx] at h
  | some its =>
    cases he : encAll its fs with
    | none => unfold encSays at h; simp [hx, he] at h
    | some a =>
      by_cases hb : 65536 < a.length
      · unfold encSays at h; simp [hx, he, hb] at h
      · have e : encSays s fs = (a, 0) := by unfold encSays; simp [hx, he, hb]
        refine ⟨its, rfl, ?_, ?_⟩
        · rw [e]; exact he
        · rw [e]; simpa using hb
theorem encM_ok {m : Ms} (h : (encM m).2 = 0) : mayB m = true ∧ encAll (itsK m.kn) (fldsOf m) = some (encM m).1 ∧ (encM m).1.length ≤ 65536 := by
  cases hm : mayB m with
  | false => unfold encM at h; rw [hm] at h; simp at h
  | true =>
    have e : encM m = encSays (shpL m.kn) (fldsOf m) := by unfold encM; rw [hm, if_pos rfl, shp_kn hm]
    rw [e] at h ⊢
    obtain ⟨its, h1, h2, h3⟩ := encS_ok h
    obtain rfl := Option.some.inj ((shape_kn hm).symm.trans h1)
    exact ⟨rfl, h2, h3⟩
theorem encM_bad {m : Ms} (h : (encM m).2 ≠ 0) : (encM m).1 = [] := by
  unfold encM at h ⊢
  split
  · rename_i hm
    rw [if_pos hm] at h
    generalize (shp m.kind).data.toList = s at *
    generalize fldsOf m = fs at *
    cases hx : Go.Wq.shape s with
    | none => unfold encSays; simp [hx]
    | some its =>
      cases he : encAll its fs with
      | none => unfold encSays; simp [hx, he]
      | some a =>
        by_cases hb : 65536 < a.length
        · unfold encSays; simp [hx, he, hb]
        · unfold encSays at h; simp [hx, he, hb] at h
  · rfl
theorem decM_encM {m : Ms} (hf : m.Fit) (h : (encM m).2 = 0) : decM (encM m).1 = some m := by
  obtain ⟨h1, h2, h3⟩ := encM_ok h
  exact dec_enc h1 h2 (fun y hy => (fine_flds hf y hy).1) h3
theorem encM_decM {s : List UInt8} {m : Ms} (h : decM s = some m) : encM m = (s, 0) := by
  obtain ⟨h1, h2, h3, h4, -⟩ := dec_is h
  unfold encM
  rw [h1, if_pos rfl, shp_kn h1]
  unfold encSays
  rw [shape_kn h1]
  simp only [h3]
  rw [if_neg (by omega)]
theorem encM_inj {a b : Ms} (fa : a.Fit) (fb : b.Fit) (ha : (encM a).2 = 0) (hb : (encM b).2 = 0) (h : (encM a).1 = (encM b).1) : a = b := by
  have h1 := decM_encM fa ha
  rw [h, decM_encM fb hb] at h1
  exact (Option.some.inj h1).symm
theorem bytes_inj {x y : List UInt8} (h : (⟨x.toArray⟩ : ByteArray) = ⟨y.toArray⟩) : x = y := by
  have : x.toArray = y.toArray := by injection h
  simpa using this
theorem same_bytes {a b : Ms} (fa : a.Fit) (fb : b.Fit) (ha : (encM a).2 = 0) (hb : (encM b).2 = 0) {r : Bool} (hr : r = true ↔ a = b) : r = ((⟨(encM a).1.toArray⟩ : ByteArray).toList == (⟨(encM b).1.toArray⟩ : ByteArray).toList) := by
  by_cases h : a = b
  · subst h
    rw [hr.2 rfl]; exact (beq_self_eq_true _).symm
  · have h0 : r = false := by
      cases r with
      | false => rfl
      | true => exact absurd (hr.1 rfl) h
    rw [h0]
    exact (toList_ne (fun e => h (encM_inj fa fb ha hb (bytes_inj e)))).symm
theorem range_box (w : World) (cs : List Value) (t : TypeId) : (w.alloc (.cells cs.toArray t)).rangeAt w.heap.size 0 cs := by
  intro j v hj
  simp [go_sem, hj]
set_option maxHeartbeats 4000000 in
theorem msgLaw_unlike (cs ds : List Value) (hc : cs.length = 17) (hd : ds.length = 17) (s1 s2 : ByteArray) (c1 c2 : Int) (W : World)
    (HE1 : Hid (∀ w, Below W.heap.size W w → Calls Tryz.prog 8 #[.agg cs.toArray] w fun e w' => e = .returned (.tuple #[.string s1, .int .i64 c1]) ∧ Below w.heap.size w w'))
    (HE2 : Hid (∀ w, Below W.heap.size W w → Calls Tryz.prog 8 #[.agg ds.toArray] w fun e w' => e = .returned (.tuple #[.string s2, .int .i64 c2]) ∧ Below w.heap.size w w'))
    (HS : Hid (c1 = 0 → c2 = 0 → ∀ w, Below W.heap.size W w → Calls Tryz.prog 15 #[.agg cs.toArray, .agg ds.toArray] w fun e w' => e = .returned (.bool (s1.toList == s2.toList)) ∧ Below w.heap.size w w'))
    (HAW : Hid (∀ w, Below W.heap.size W w → Calls Tryz.prog 12 #[] w fun e w' => e = .returned (.bool true) ∧ Below w.heap.size w w')) :
    Calls Tryz.prog 6 #[.agg cs.toArray, .agg ds.toArray] W fun e w' => e = .returned (.bool true) ∧ Below W.heap.size W w' := by
  go_enter Tryz.func6, Tryz.ntmps6
  go_upto_region 1 with (fail)
  have R0 := range_box W cs 27
  have Q0 := range_box (W.alloc (.cells cs.toArray 27)) ds 27
  have R1 := World.rangeAt_alloc R0 (.cells ds.toArray 27)
  have hb0 : Below W.heap.size W ((W.alloc (.cells cs.toArray 27)).alloc (.cells ds.toArray 27)) := ((Below.refl _ _).alloc (Nat.le_refl _) _).alloc (by simp) _
  have hs0 : W.heap.size + 1 < ((W.alloc (.cells cs.toArray 27)).alloc (.cells ds.toArray 27)).heap.size := by simp
  rw [show (W.alloc (.cells cs.toArray 27)).heap.size = W.heap.size + 1 by simp] at Q0
  clear R0
  generalize ((W.alloc (.cells cs.toArray 27)).alloc (.cells ds.toArray 27)) = w0 at *
  refine wp_region_list ?_
  refine wpList_load_guard (by kernel_rfl) 27 (.tmp 2) rfl W.heap.size 0 rfl cs _ R1 Tryz.underlying27 (by rfl) (by rw [hc]; kernel_rfl) ?_
  (try simp only [Act.put, List.setIfInBounds_toArray, List.set_cons_zero, List.set_cons_succ, List.getElem_toArray, List.getElem_cons_succ, List.getElem_cons_zero])
  go_upto_region 2 with (go_at_call 8; refine (HE1.out _ hb0).mono ?_; rintro e w1 ⟨rfl, hb1⟩)
  have R2 := range_next R1 (by omega) hb1
  have Q2 := range_next Q0 hs0 hb1
  have hs1 : W.heap.size + 1 < w1.heap.size := Nat.lt_of_lt_of_le hs0 hb1.size
  have B1 := below_nx hb0 hb1
  clear hb1 hb0 R1 Q0
  refine wp_region_list ?_
  refine wpList_load_guard (by kernel_rfl) 27 (.tmp 3) rfl (W.heap.size + 1) 0 rfl ds _ Q2 Tryz.underlying27 (by rfl) (by rw [hd]; kernel_rfl) ?_
  (try simp only [Act.put, List.setIfInBounds_toArray, List.set_cons_zero, List.set_cons_succ, List.getElem_toArray, List.getElem_cons_succ, List.getElem_cons_zero])
  go_upto_region 3 with (go_at_call 8; refine (HE2.out _ B1).mono ?_; rintro e w2 ⟨rfl, hb2⟩)
  have R3 := range_next R2 (by omega) hb2
  have Q3 := range_next Q2 hs1 hb2
  have B2 := below_nx B1 hb2
  clear hb2 B1 R2 Q2 hs1 hs0
  have HB2 := Lib.hid B2
  clear B2
  by_cases h1 : c1 = 0
  · by_cases h2 : c2 = 0
    · subst h1 h2
      refine wp_region_list ?_
      refine wpList_step (fun K hK0 => ?_)
      have hK := Lib.hid hK0
      clear hK0
      go_simp
      refine hK.out _ _ ?_
      clear hK K
      (try simp only [Act.put, List.setIfInBounds_toArray, List.set_cons_zero, List.set_cons_succ, List.getElem_toArray, List.getElem_cons_succ, List.getElem_cons_zero])
      refine wpList_step (fun K hK0 => ?_)
      have hK := Lib.hid hK0
      clear hK0
      go_simp
      refine hK.out _ _ ?_
      clear hK K
      (try simp only [Act.put, List.setIfInBounds_toArray, List.set_cons_zero, List.set_cons_succ, List.getElem_toArray, List.getElem_cons_succ, List.getElem_cons_zero])
      refine wpList_step (fun K hK0 => ?_)
      have hK := Lib.hid hK0
      clear hK0
      go_simp
      refine hK.out _ _ ?_
      clear hK K
      (try simp only [Act.put, List.setIfInBounds_toArray, List.set_cons_zero, List.set_cons_succ, List.getElem_toArray, List.getElem_cons_succ, List.getElem_cons_zero])
      refine wpList_step (fun K hK0 => ?_)
      have hK := Lib.hid hK0
      clear hK0
      go_simp
      refine hK.out _ _ ?_
      clear hK K
      (try simp only [Act.put, List.setIfInBounds_toArray, List.set_cons_zero, List.set_cons_succ, List.getElem_toArray, List.getElem_cons_succ, List.getElem_cons_zero])
      refine wpList_step (fun K hK0 => ?_)
      have hK := Lib.hid hK0
      clear hK0
      go_simp
      refine hK.out _ _ ?_
      clear hK K
      (try simp only [Act.put, List.setIfInBounds_toArray, List.set_cons_zero, List.set_cons_succ, List.getElem_toArray, List.getElem_cons_succ, List.getElem_cons_zero])
      refine wpList_step (fun K hK0 => ?_)
      have hK := Lib.hid hK0
      clear hK0
      go_simp
      refine hK.out _ _ ?_
      clear hK K
      (try simp only [Act.put, List.setIfInBounds_toArray, List.set_cons_zero, List.set_cons_succ, List.getElem_toArray, List.getElem_cons_succ, List.getElem_cons_zero])
      refine wpList_step (fun K hK0 => ?_)
      have hK := Lib.hid hK0
      clear hK0
      go_simp
      refine hK.out _ _ ?_
      clear hK K
      (try simp only [Act.put, List.setIfInBounds_toArray, List.set_cons_zero, List.set_cons_succ, List.getElem_toArray, List.getElem_cons_succ, List.getElem_cons_zero])
      refine wpList_step (fun K hK0 => ?_)
      have hK := Lib.hid hK0
      clear hK0
      go_simp
      refine hK.out _ _ ?_
      clear hK K
      (try simp only [Act.put, List.setIfInBounds_toArray, List.set_cons_zero, List.set_cons_succ, List.getElem_toArray, List.getElem_cons_succ, List.getElem_cons_zero])
      refine wpList_step (fun K hK0 => ?_)
      have hK := Lib.hid hK0
      clear hK0
      go_simp
      refine hK.out _ _ ?_
      clear hK K
      (try simp only [Act.put, List.setIfInBounds_toArray, List.set_cons_zero, List.set_cons_succ, List.getElem_toArray, List.getElem_cons_succ, List.getElem_cons_zero])
      refine wpList_step (fun K hK0 => ?_)
      have hK := Lib.hid hK0
      clear hK0
      go_simp
      refine hK.out _ _ ?_
      clear hK K
      (try simp only [Act.put, List.setIfInBounds_toArray, List.set_cons_zero, List.set_cons_succ, List.getElem_toArray, List.getElem_cons_succ, List.getElem_cons_zero])
      refine wpList_load_guard (by kernel_rfl) 27 (.tmp 2) rfl W.heap.size 0 rfl cs _ R3 Tryz.underlying27 (by rfl) (by rw [hc]; kernel_rfl) ?_
      (try simp only [Act.put, List.setIfInBounds_toArray, List.set_cons_zero, List.set_cons_succ, List.getElem_toArray, List.getElem_cons_succ, List.getElem_cons_zero])
      refine wpList_load_guard (by kernel_rfl) 27 (.tmp 3) rfl (W.heap.size + 1) 0 rfl ds _ Q3 Tryz.underlying27 (by rfl) (by rw [hd]; kernel_rfl) ?_
      (try simp only [Act.put, List.setIfInBounds_toArray, List.set_cons_zero, List.set_cons_succ, List.getElem_toArray, List.getElem_cons_succ, List.getElem_cons_zero])
      refine wpList_step (fun K hK0 => ?_)
      have hK := Lib.hid hK0
      clear hK0
      go_simp
      refine (HS.out rfl rfl _ HB2.out).mono ?_
      rintro e w3 ⟨rfl, hb3⟩
      have HB3 := Lib.hid (below_nx HB2.out hb3)
      clear hb3
      go_wp2_with fail
      refine hK.out _ _ ?_
      clear hK K
      (try simp only [Act.put, List.setIfInBounds_toArray, List.set_cons_zero, List.set_cons_succ, List.getElem_toArray, List.getElem_cons_succ, List.getElem_cons_zero])
      have hbb : ((s1.toList == s2.toList) == (s1.toList == s2.toList)) = true := beq_self_eq_true _
      go_wp2_with fail
      refine (HAW.out _ HB3.out).mono ?_
      rintro e w5 ⟨rfl, b5⟩
      have HB5 := Lib.hid (below_nx HB3.out b5)
      clear b5
      go_wp2_with fail
      go_ret
      exact ⟨rfl, HB5.out⟩
    · have d2 : (c2 != 0) = true := by simp [h2]
      subst h1
      go_wp2_with fail
      refine (HAW.out _ HB2.out).mono ?_
      rintro e w5 ⟨rfl, b5⟩
      have HB5 := Lib.hid (below_nx HB2.out b5)
      clear b5
      go_wp2_with fail
      go_ret
      exact ⟨rfl, HB5.out⟩
  · have d1 : (c1 != 0) = true := by simp [h1]
    go_wp2_with fail
    refine (HAW.out _ HB2.out).mono ?_
    rintro e w5 ⟨rfl, b5⟩
    have HB5 := Lib.hid (below_nx HB2.out b5)
    clear b5
    go_wp2_with fail
    go_ret
    exact ⟨rfl, HB5.out⟩
theorem msgLaw_unlike_any (k : Int) (nn : Nat) (ec : Nat) (sq : Nat) (l : List Nw) (na : Option Addr) (nc : Nat) (kd : Int) (fr : Int) (bk : Int) (tw : Int) (hm : Int) (hp : Int) (sr : Nat) (cd : Int) (nm : ByteArray) (id : Int) (at_ : Int) (bd : ByteArray) (k2 : Int) (nn2 : Nat) (ec2 : Nat) (sq2 : Nat) (l2 : List Nw) (na2 : Option Addr) (nc2 : Nat) (kd2 : Int) (fr2 : Int) (bk2 : Int) (tw2 : Int) (hm2 : Int) (hp2 : Int) (sr2 : Nat) (cd2 : Int) (nm2 : ByteArray) (id2 : Int) (at_2 : Int) (bd2 : ByteArray) (W : World) (hin : NewsIn W W.heap.size l na) (hfit : Ms.Fit ⟨k, nn, ec, sq, l, ⟨kd, fr, bk, tw, hm, hp, sr, cd, nm, id, at_, bd⟩⟩) (hin2 : NewsIn W W.heap.size l2 na2) (hfit2 : Ms.Fit ⟨k2, nn2, ec2, sq2, l2, ⟨kd2, fr2, bk2, tw2, hm2, hp2, sr2, cd2, nm2, id2, at_2, bd2⟩⟩) (hg : Handle W) (hsh : Shps W) :
    Calls Tryz.prog 6 #[.agg #[.int .i64 k, .int .u64 (nn : Int), .int .u64 (ec : Int), .int .u64 (sq : Int), .slice na l.length nc, .int .i64 kd, .int .i64 fr, .int .i64 bk, .int .i64 tw, .int .i64 hm, .int .i64 hp, .int .u64 (sr : Int), .int .i64 cd, .string nm, .int .i64 id, .int .i64 at_, .string bd], .agg #[.int .i64 k2, .int .u64 (nn2 : Int), .int .u64 (ec2 : Int), .int .u64 (sq2 : Int), .slice na2 l2.length nc2, .int .i64 kd2, .int .i64 fr2, .int .i64 bk2, .int .i64 tw2, .int .i64 hm2, .int .i64 hp2, .int .u64 (sr2 : Int), .int .i64 cd2, .string nm2, .int .i64 id2, .int .i64 at_2, .string bd2]] W fun e w' => e = .returned (.bool true) ∧ Below W.heap.size W w' := by
  refine msgLaw_unlike [.int .i64 k, .int .u64 (nn : Int), .int .u64 (ec : Int), .int .u64 (sq : Int), .slice na l.length nc, .int .i64 kd, .int .i64 fr, .int .i64 bk, .int .i64 tw, .int .i64 hm, .int .i64 hp, .int .u64 (sr : Int), .int .i64 cd, .string nm, .int .i64 id, .int .i64 at_, .string bd] [.int .i64 k2, .int .u64 (nn2 : Int), .int .u64 (ec2 : Int), .int .u64 (sq2 : Int), .slice na2 l2.length nc2, .int .i64 kd2, .int .i64 fr2, .int .i64 bk2, .int .i64 tw2, .int .i64 hm2, .int .i64 hp2, .int .u64 (sr2 : Int), .int .i64 cd2, .string nm2, .int .i64 id2, .int .i64 at_2, .string bd2] rfl rfl ⟨(encM ⟨k, nn, ec, sq, l, ⟨kd, fr, bk, tw, hm, hp, sr, cd, nm, id, at_, bd⟩⟩).1.toArray⟩ ⟨(encM ⟨k2, nn2, ec2, sq2, l2, ⟨kd2, fr2, bk2, tw2, hm2, hp2, sr2, cd2, nm2, id2, at_2, bd2⟩⟩).1.toArray⟩ (encM ⟨k, nn, ec, sq, l, ⟨kd, fr, bk, tw, hm, hp, sr, cd, nm, id, at_, bd⟩⟩).2 (encM ⟨k2, nn2, ec2, sq2, l2, ⟨kd2, fr2, bk2, tw2, hm2, hp2, sr2, cd2, nm2, id2, at_2, bd2⟩⟩).2 W
    (Lib.hid (fun w h => mEncode_any k nn ec sq l na nc kd fr bk tw hm hp sr cd nm id at_ bd w (hg.below h) (hsh.below h) (hin.kept (fun i hi => h.block i hi) h.size) hfit))
    (Lib.hid (fun w h => mEncode_any k2 nn2 ec2 sq2 l2 na2 nc2 kd2 fr2 bk2 tw2 hm2 hp2 sr2 cd2 nm2 id2 at_2 bd2 w (hg.below h) (hsh.below h) (hin2.kept (fun i hi => h.block i hi) h.size) hfit2))
    (Lib.hid (fun h1 h2 w h => (rSame_any k nn ec sq l na nc kd fr bk tw hm hp sr cd nm id at_ bd k2 nn2 ec2 sq2 l2 na2 nc2 kd2 fr2 bk2 tw2 hm2 hp2 sr2 cd2 nm2 id2 at_2 bd2 W.heap.size w (hin.kept (fun i hi => h.block i hi) (Nat.le_refl _)) (hin2.kept (fun i hi => h.block i hi) (Nat.le_refl _)) h.size hfit.len).mono ?_))
    (Lib.hid (fun w h => msgAwake_any w (hg.below h) (hsh.below h)))
  rintro e w' ⟨⟨r, rfl, hr⟩, hb⟩
  exact ⟨by rw [same_bytes hfit hfit2 h1 h2 hr], hb⟩
end Go.Proofs.YtidfgjgbigedeaaGreatDoor
