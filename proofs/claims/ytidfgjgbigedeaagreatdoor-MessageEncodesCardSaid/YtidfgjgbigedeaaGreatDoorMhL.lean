/- Messages: awake; the law MessageEncodes. -/
import Derived.Test.YtidfgjgbigedeaaGreatDoorMhK
namespace Go.Proofs.YtidfgjgbigedeaaGreatDoor
open Go.RowKit Go.Lib Go.Wq Go.Mq
set_option linter.unusedVariables false
set_option linter.unusedSimpArgs false
set_option maxRecDepth 100000

theorem msgAwake_says : encM ⟨1, 5, 0, 0, [], ⟨0, 0, 0, 0, 0, 0, 0, 0, ⟨#[]⟩, 0, 0, ⟨#[]⟩⟩⟩ = ([1, 5, 0], 0) := by
  have h0 : mayB ⟨1, 5, 0, 0, [], ⟨0, 0, 0, 0, 0, 0, 0, 0, ⟨#[]⟩, 0, 0, ⟨#[]⟩⟩⟩ = true := by decide +kernel
  have h1 : Go.Wq.shape (shp 1).data.toList = some [.u, .u, .u] := by rfl
  have h2 : encAll [.u, .u, .u] [fU 1, fU 5, fU 0] = some [1, 5, 0] := by
    have e1 : encOne .u (fU 1) = some (vint 1) := rfl
    have e2 : encOne .u (fU 5) = some (vint 5) := rfl
    have e3 : encOne .u (fU 0) = some (vint 0) := rfl
    simp only [encAll, e1, e2, e3, vint_small (show (1 : Nat) < 128 by omega), vint_small (show (5 : Nat) < 128 by omega), vint_small (show (0 : Nat) < 128 by omega)]
    rfl
  unfold encM
  rw [h0]
  simp only [if_true]
  rw [flds_1]
  unfold encSays
  simp only [h1, List.map_cons, List.map_nil, h2]
  rfl

set_option maxHeartbeats 2000000 in
theorem msgAwake_any (w : World) (hg : Handle w) (hs : Shps w) : Calls Tryz.prog 12 #[] w fun e w' => e = .returned (.bool true) ∧ Below w.heap.size w w' := by
  have HE := mEncode_any 1 5 0 0 [] none 0 0 0 0 0 0 0 0 0 ⟨#[]⟩ 0 0 ⟨#[]⟩ w hg hs (Or.inl rfl) { k := by decide, n := by decide, e := by decide, s := by decide, news := by simp, len := by simp, pk := by decide, pf := by decide, pb := by decide, pt := by decide, ph := by decide, po := by decide, ps := by decide, pc := by decide, pi := by decide, pa := by decide, nm := by decide, bd := by decide }
  rw [msgAwake_says] at HE
  have HEN := Lib.hid HE
  clear HE hg hs
  go_enter Tryz.func12, Tryz.ntmps12
  go_wp2_with fail
  refine HEN.out.mono ?_
  rintro e w3 ⟨rfl, hb3⟩
  have HB3 := Lib.hid hb3
  clear hb3
  go_wp2_with fail
  go_ret
  exact ⟨rfl, HB3.out⟩

set_option maxHeartbeats 4000000 in
theorem msgLaw_encodes (k : Int) (nn ec sq : Nat) (l : List Nw) (na : Option Addr) (nc : Nat) (kd fr bk tw hm hp : Int) (sr : Nat) (cd : Int) (nm : ByteArray) (id at_ : Int) (bd : ByteArray) (W : World) (hin : NewsIn W W.heap.size l na) (hfit : Ms.Fit ⟨k, nn, ec, sq, l, ⟨kd, fr, bk, tw, hm, hp, sr, cd, nm, id, at_, bd⟩⟩) (hg : Handle W) (hsh : Shps W) :
    Calls Tryz.prog 3 #[.agg #[.int .i64 k, .int .u64 (nn : Int), .int .u64 (ec : Int), .int .u64 (sq : Int), .slice na l.length nc, .int .i64 kd, .int .i64 fr, .int .i64 bk, .int .i64 tw, .int .i64 hm, .int .i64 hp, .int .u64 (sr : Int), .int .i64 cd, .string nm, .int .i64 id, .int .i64 at_, .string bd]] W fun e w' => e = .returned (.bool true) ∧ Below W.heap.size W w' := by
  have HM := Lib.hid (fun w (h : Below W.heap.size W w) => mEncode_any k nn ec sq l na nc kd fr bk tw hm hp sr cd nm id at_ bd w (hg.below h) (hsh.below h) (hin.kept (fun i hi => h.block i hi) h.size) hfit)
  have HR := Lib.hid (fun w (h : Below W.heap.size W w) => rEncode_any k nn ec sq l na nc kd fr bk tw hm hp sr cd nm id at_ bd w (hin.kept (fun i hi => h.block i hi) h.size) hfit)
  have hnm := hfit.nm
  have HMC := Lib.hid (fun w (h : Below W.heap.size W w) => mCheck_any k nn ec sq l na nc kd fr bk tw hm hp sr cd nm id at_ bd (by simp at hnm; omega) w (hin.kept (fun i hi => h.block i hi) h.size) hfit.news)
  have HRC := Lib.hid (fun w (h : Below W.heap.size W w) => rCheck_any k nn ec sq l na nc kd fr bk tw hm hp sr cd nm id at_ bd (by simp at hnm; omega) w (hin.kept (fun i hi => h.block i hi) h.size) hfit.news hfit.len)
  have HAW := Lib.hid (fun w (h : Below W.heap.size W w) => msgAwake_any w (hg.below h) (hsh.below h))
  clear hin hfit hg hsh hnm
  generalize (encM ⟨k, nn, ec, sq, l, ⟨kd, fr, bk, tw, hm, hp, sr, cd, nm, id, at_, bd⟩⟩).2 = code at *
  generalize (encM ⟨k, nn, ec, sq, l, ⟨kd, fr, bk, tw, hm, hp, sr, cd, nm, id, at_, bd⟩⟩).1.toArray = bytes at *
  generalize (if mayB ⟨k, nn, ec, sq, l, ⟨kd, fr, bk, tw, hm, hp, sr, cd, nm, id, at_, bd⟩⟩ then (0 : Int) else 60) = ch at *
  go_enter Tryz.func3, Tryz.ntmps3
  go_upto_region 1 with (fail)
  have R0 := range_ms W 27 (.int .i64 k) (.int .u64 (nn : Int)) (.int .u64 (ec : Int)) (.int .u64 (sq : Int)) (.slice na l.length nc) (.int .i64 kd) (.int .i64 fr) (.int .i64 bk) (.int .i64 tw) (.int .i64 hm) (.int .i64 hp) (.int .u64 (sr : Int)) (.int .i64 cd) (.string nm) (.int .i64 id) (.int .i64 at_) (.string bd)
  obtain ⟨w0, hw0⟩ : ∃ w0, w0 = W.alloc (.cells #[.int .i64 k, .int .u64 (nn : Int), .int .u64 (ec : Int), .int .u64 (sq : Int), .slice na l.length nc, .int .i64 kd, .int .i64 fr, .int .i64 bk, .int .i64 tw, .int .i64 hm, .int .i64 hp, .int .u64 (sr : Int), .int .i64 cd, .string nm, .int .i64 id, .int .i64 at_, .string bd] 27) := ⟨_, rfl⟩
  have hb0 : Below W.heap.size W w0 := by rw [hw0]; exact (Below.refl _ _).alloc (Nat.le_refl _) _
  have hs0 : W.heap.size < w0.heap.size := by rw [hw0]; simp
  rw [← hw0] at R0 ⊢
  clear hw0
  have HR0 := Lib.hid R0
  have HB0 := Lib.hid hb0
  refine wp_region_list ?_
  refine wpList_load_guard (by kernel_rfl) 27 (.tmp 1) rfl W.heap.size 0 rfl [.int .i64 k, .int .u64 (nn : Int), .int .u64 (ec : Int), .int .u64 (sq : Int), .slice na l.length nc, .int .i64 kd, .int .i64 fr, .int .i64 bk, .int .i64 tw, .int .i64 hm, .int .i64 hp, .int .u64 (sr : Int), .int .i64 cd, .string nm, .int .i64 id, .int .i64 at_, .string bd] _ R0 Tryz.underlying27 (by rfl) (by kernel_rfl) ?_
  (try simp only [Act.put, List.setIfInBounds_toArray, List.set_cons_zero, List.set_cons_succ, List.getElem_toArray, List.getElem_cons_succ, List.getElem_cons_zero])
  go_upto_region 2 with (go_at_call 8; refine (HM.out _ HB0.out).mono ?_; rintro e w1 ⟨rfl, hb1⟩)
  have R1 := range_next HR0.out hs0 hb1
  have hs1 : W.heap.size < w1.heap.size := Nat.lt_of_lt_of_le hs0 hb1.size
  have HR1 := Lib.hid R1
  have HB1 := Lib.hid (HB0.out.trans (hb1.mono HB0.out.size))
  clear hb1
  refine wp_region_list ?_
  refine wpList_load_guard (by kernel_rfl) 27 (.tmp 1) rfl W.heap.size 0 rfl [.int .i64 k, .int .u64 (nn : Int), .int .u64 (ec : Int), .int .u64 (sq : Int), .slice na l.length nc, .int .i64 kd, .int .i64 fr, .int .i64 bk, .int .i64 tw, .int .i64 hm, .int .i64 hp, .int .u64 (sr : Int), .int .i64 cd, .string nm, .int .i64 id, .int .i64 at_, .string bd] _ R1 Tryz.underlying27 (by rfl) (by kernel_rfl) ?_
  (try simp only [Act.put, List.setIfInBounds_toArray, List.set_cons_zero, List.set_cons_succ, List.getElem_toArray, List.getElem_cons_succ, List.getElem_cons_zero])
  go_upto_region 3 with (go_at_call 9; refine (HR.out _ HB1.out).mono ?_; rintro e w2 ⟨rfl, hb2⟩)
  have HR2 := Lib.hid (range_next HR1.out hs1 hb2)
  have hs2 : W.heap.size < w2.heap.size := Nat.lt_of_lt_of_le hs1 hb2.size
  have HB2 := Lib.hid (HB1.out.trans (hb2.mono HB1.out.size))
  have KR : ∀ V, Below w2.heap.size w2 V → V.rangeAt W.heap.size 0 [.int .i64 k, .int .u64 (nn : Int), .int .u64 (ec : Int), .int .u64 (sq : Int), .slice na l.length nc, .int .i64 kd, .int .i64 fr, .int .i64 bk, .int .i64 tw, .int .i64 hm, .int .i64 hp, .int .u64 (sr : Int), .int .i64 cd, .string nm, .int .i64 id, .int .i64 at_, .string bd] := fun V h => range_next HR2.out hs2 h
  clear hb2 R1 R0 hb0
  refine wp_region_held_drew (S := fun w' => Below w2.heap.size w2 w') (by kernel_rfl) (Below.drew (Below.refl _ _)) (fun hHeld => ?_)
  have hbd := hHeld
  refine wpAnyH_take (i := 0) (oi := _) (v := ?_) rfl (by kernel_rfl) (by kernel_rfl) (by kernel_rfl) (fun _ _ _ h => h) (Or.inl ⟨by rfl, ?_⟩) (by assumption) ?_
  rotate_left
  · intro Wv hSw
    go_simp
    try with_reducible rfl
  (try simp only [Act.put, List.setIfInBounds_toArray, List.set_cons_zero, List.set_cons_succ, List.getElem_toArray, List.getElem_cons_succ, List.getElem_cons_zero])
  refine wpAnyH_take (i := 1) (oi := _) (v := ?_) rfl (by kernel_rfl) (by kernel_rfl) (by kernel_rfl) (fun _ _ _ h => h) (Or.inl ⟨by rfl, ?_⟩) (by assumption) ?_
  rotate_left
  · intro Wv hSw
    go_simp
    try with_reducible rfl
  (try simp only [Act.put, List.setIfInBounds_toArray, List.set_cons_zero, List.set_cons_succ, List.getElem_toArray, List.getElem_cons_succ, List.getElem_cons_zero])
  refine wpAnyH_take (i := 2) (oi := _) (v := ?_) rfl (by kernel_rfl) (by kernel_rfl) (by kernel_rfl) (fun _ _ _ h => h) (Or.inl ⟨by rfl, ?_⟩) (by assumption) ?_
  rotate_left
  · intro Wv hSw
    go_simp
    try with_reducible rfl
  (try simp only [Act.put, List.setIfInBounds_toArray, List.set_cons_zero, List.set_cons_succ, List.getElem_toArray, List.getElem_cons_succ, List.getElem_cons_zero])
  refine wpAnyH_take (i := 3) (oi := _) (v := ?_) rfl (by kernel_rfl) (by kernel_rfl) (by kernel_rfl) (fun _ _ _ h => h) (Or.inl ⟨by rfl, ?_⟩) (by assumption) ?_
  rotate_left
  · intro Wv hSw
    go_simp
    try with_reducible rfl
  (try simp only [Act.put, List.setIfInBounds_toArray, List.set_cons_zero, List.set_cons_succ, List.getElem_toArray, List.getElem_cons_succ, List.getElem_cons_zero])
  refine wpAnyH_take (i := 4) (oi := _) (v := ?_) rfl (by kernel_rfl) (by kernel_rfl) (by kernel_rfl) (fun _ _ _ h => h) (Or.inl ⟨by rfl, ?_⟩) (by assumption) ?_
  rotate_left
  · intro Wv hSw
    go_simp
    try with_reducible rfl
  (try simp only [Act.put, List.setIfInBounds_toArray, List.set_cons_zero, List.set_cons_succ, List.getElem_toArray, List.getElem_cons_succ, List.getElem_cons_zero])
  refine wpAnyH_take (i := 5) (oi := _) (v := ?_) rfl (by kernel_rfl) (by kernel_rfl) (by kernel_rfl) (fun _ _ _ h => h) (Or.inl ⟨by rfl, ?_⟩) (by assumption) ?_
  rotate_left
  · intro Wv hSw
    go_simp
    try with_reducible rfl
  (try simp only [Act.put, List.setIfInBounds_toArray, List.set_cons_zero, List.set_cons_succ, List.getElem_toArray, List.getElem_cons_succ, List.getElem_cons_zero])
  refine wpAnyH_take (i := 6) (oi := _) (v := ?_) rfl (by kernel_rfl) (by kernel_rfl) (by kernel_rfl) (fun _ _ _ h => h) (Or.inl ⟨by rfl, ?_⟩) (by assumption) ?_
  rotate_left
  · intro Wv hSw
    go_simp
    try with_reducible rfl
  (try simp only [Act.put, List.setIfInBounds_toArray, List.set_cons_zero, List.set_cons_succ, List.getElem_toArray, List.getElem_cons_succ, List.getElem_cons_zero])
  refine wpAnyH_take (i := 7) (oi := _) (v := ?_) rfl (by kernel_rfl) (by kernel_rfl) (by kernel_rfl) (fun _ _ _ h => h) (Or.inl ⟨by rfl, ?_⟩) (by assumption) ?_
  rotate_left
  · intro Wv hSw
    go_simp
    try with_reducible rfl
  (try simp only [Act.put, List.setIfInBounds_toArray, List.set_cons_zero, List.set_cons_succ, List.getElem_toArray, List.getElem_cons_succ, List.getElem_cons_zero])
  refine wpAnyH_take (i := 8) (oi := _) (v := ?_) rfl (by kernel_rfl) (by kernel_rfl) (by kernel_rfl) (fun _ _ _ h => h) (Or.inl ⟨by rfl, ?_⟩) (by assumption) ?_
  rotate_left
  · intro Wv hSw
    go_simp
    try with_reducible rfl
  (try simp only [Act.put, List.setIfInBounds_toArray, List.set_cons_zero, List.set_cons_succ, List.getElem_toArray, List.getElem_cons_succ, List.getElem_cons_zero])
  refine wpAnyH_take (i := 9) (oi := _) (v := .agg #[.int .i64 k, .int .u64 (nn : Int), .int .u64 (ec : Int), .int .u64 (sq : Int), .slice na l.length nc, .int .i64 kd, .int .i64 fr, .int .i64 bk, .int .i64 tw, .int .i64 hm, .int .i64 hp, .int .u64 (sr : Int), .int .i64 cd, .string nm, .int .i64 id, .int .i64 at_, .string bd]) rfl (by kernel_rfl) (by kernel_rfl) (by kernel_rfl) (fun _ _ _ h => h) (Or.inl ⟨by rfl, ?_⟩) (by assumption) ?_
  · intro Wv hSw
    have R1 := KR Wv hSw
    exact take_load 27 (.tmp 1) rfl W.heap.size 0 rfl _ Tryz.underlying27 Wv R1 rfl (by rfl) (by kernel_rfl)
  (try simp only [Act.put, List.setIfInBounds_toArray, List.set_cons_zero, List.set_cons_succ, List.getElem_toArray, List.getElem_cons_succ, List.getElem_cons_zero])
  refine wpAnyH_take (i := 11) (oi := _) (v := .agg #[.int .i64 k, .int .u64 (nn : Int), .int .u64 (ec : Int), .int .u64 (sq : Int), .slice na l.length nc, .int .i64 kd, .int .i64 fr, .int .i64 bk, .int .i64 tw, .int .i64 hm, .int .i64 hp, .int .u64 (sr : Int), .int .i64 cd, .string nm, .int .i64 id, .int .i64 at_, .string bd]) rfl (by kernel_rfl) (by kernel_rfl) (by kernel_rfl) (fun _ _ _ h => h) (Or.inl ⟨by rfl, ?_⟩) (by assumption) ?_
  · intro Wv hSw
    have R1 := KR Wv hSw
    exact take_load 27 (.tmp 1) rfl W.heap.size 0 rfl _ Tryz.underlying27 Wv R1 rfl (by rfl) (by kernel_rfl)
  (try simp only [Act.put, List.setIfInBounds_toArray, List.set_cons_zero, List.set_cons_succ, List.getElem_toArray, List.getElem_cons_succ, List.getElem_cons_zero])
  refine wpAnyH_ready (rs := [10]) (by kernel_rfl) (by simp) ?_
  refine AllReadyH.cons (o := _) rfl (fun K hK => ?_) AllReadyH.nil
  go_simp
  refine (HMC.out _ HB2.out.drew).mono ?_
  rintro e w3 ⟨rfl, hb3⟩
  have HBA := Lib.hid (below_nx hbd hb3)
  clear hb3
  go_wp2_with fail
  refine hK.out _ _ HBA.out (fun hHeld => ?_)
  clear hK K
  (try simp only [Act.put, List.setIfInBounds_toArray, List.set_cons_zero, List.set_cons_succ, List.getElem_toArray, List.getElem_cons_succ, List.getElem_cons_zero])
  refine wpAnyH_ready (rs := [12]) (by kernel_rfl) (by simp) ?_
  refine AllReadyH.cons (o := _) rfl (fun K hK => ?_) AllReadyH.nil
  go_simp
  refine (HRC.out w3 (HB2.out.trans (HBA.out.mono HB2.out.size))).mono ?_
  rintro e w4 ⟨rfl, hb4⟩
  have HBB := Lib.hid (below_nx HBA.out hb4)
  clear hb4
  go_wp2_with fail
  refine hK.out _ _ HBB.out (fun hHeld => ?_)
  clear hK K
  (try simp only [Act.put, List.setIfInBounds_toArray, List.set_cons_zero, List.set_cons_succ, List.getElem_toArray, List.getElem_cons_succ, List.getElem_cons_zero])
  refine wpAnyH_take (i := 13) (oi := _) (v := ?_) rfl (by kernel_rfl) (by kernel_rfl) (by kernel_rfl) (fun _ _ _ h => h) (Or.inl ⟨by rfl, ?_⟩) (by assumption) ?_
  rotate_left
  · intro Wv hSw
    go_simp
    try with_reducible rfl
  (try simp only [Act.put, List.setIfInBounds_toArray, List.set_cons_zero, List.set_cons_succ, List.getElem_toArray, List.getElem_cons_succ, List.getElem_cons_zero])
  refine wpAnyH_take (i := 14) (oi := _) (v := ?_) rfl (by kernel_rfl) (by kernel_rfl) (by kernel_rfl) (fun _ _ _ h => h) (Or.inl ⟨by rfl, ?_⟩) (by assumption) ?_
  rotate_left
  · intro Wv hSw
    go_simp
    try with_reducible rfl
  (try simp only [Act.put, List.setIfInBounds_toArray, List.set_cons_zero, List.set_cons_succ, List.getElem_toArray, List.getElem_cons_succ, List.getElem_cons_zero])
  refine wpAnyH_take (i := 15) (oi := _) (v := ?_) rfl (by kernel_rfl) (by kernel_rfl) (by kernel_rfl) (fun _ _ _ h => h) (Or.inl ⟨by rfl, ?_⟩) (by assumption) ?_
  rotate_left
  · intro Wv hSw
    go_simp
    try with_reducible rfl
  (try simp only [Act.put, List.setIfInBounds_toArray, List.set_cons_zero, List.set_cons_succ, List.getElem_toArray, List.getElem_cons_succ, List.getElem_cons_zero])
  refine wpAnyH_ready (rs := [16]) (by kernel_rfl) (by simp) ?_
  refine AllReadyH.cons (o := _) rfl (fun K hK => ?_) AllReadyH.nil
  go_simp
  refine (HAW.out w4 (HB2.out.trans (HBB.out.mono HB2.out.size))).mono ?_
  rintro e w5 ⟨rfl, hb5⟩
  have HBC := Lib.hid (below_nx HBB.out hb5)
  clear hb5
  go_wp2_with fail
  refine hK.out _ _ HBC.out (fun hHeld => ?_)
  clear hK K
  (try simp only [Act.put, List.setIfInBounds_toArray, List.set_cons_zero, List.set_cons_succ, List.getElem_toArray, List.getElem_cons_succ, List.getElem_cons_zero])
  refine wpAnyH_take (i := 17) (oi := _) (v := ?_) rfl (by kernel_rfl) (by kernel_rfl) (by kernel_rfl) (fun _ _ _ h => h) (Or.inl ⟨by rfl, ?_⟩) (by assumption) ?_
  rotate_left
  · intro Wv hSw
    go_simp
    try with_reducible rfl
  (try simp only [Act.put, List.setIfInBounds_toArray, List.set_cons_zero, List.set_cons_succ, List.getElem_toArray, List.getElem_cons_succ, List.getElem_cons_zero])
  refine wpAnyH_take (i := 18) (oi := _) (v := ?_) rfl (by kernel_rfl) (by kernel_rfl) (by kernel_rfl) (fun _ _ _ h => h) (Or.inl ⟨by rfl, ?_⟩) (by assumption) ?_
  rotate_left
  · intro Wv hSw
    go_simp
    try with_reducible rfl
  (try simp only [Act.put, List.setIfInBounds_toArray, List.set_cons_zero, List.set_cons_succ, List.getElem_toArray, List.getElem_cons_succ, List.getElem_cons_zero])
  refine wpAnyH_done (by kernel_rfl) ?_ _
  go_wp2_with fail
  go_ret
  exact ⟨rfl, HB2.out.trans (HBC.out.mono HB2.out.size)⟩
end Go.Proofs.YtidfgjgbigedeaaGreatDoor
