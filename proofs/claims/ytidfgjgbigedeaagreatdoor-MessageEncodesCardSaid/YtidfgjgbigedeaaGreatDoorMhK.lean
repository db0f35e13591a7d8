/- Messages: the document's Encode; both Encodes, whole. -/
import Derived.Test.YtidfgjgbigedeaaGreatDoorMhF
import Derived.Test.YtidfgjgbigedeaaGreatDoorMhA
import Derived.Test.YtidfgjgbigedeaaGreatDoorWrG
import Derived.Test.YtidfgjgbigedeaaGreatDoorMgL
namespace Go.Proofs.YtidfgjgbigedeaaGreatDoor
open Go.RowKit Go.Lib Go.Wq Go.Mq
set_option linter.unusedVariables false
set_option linter.unusedSimpArgs false
set_option maxRecDepth 100000

set_option maxHeartbeats 4000000 in
theorem rEncode_1 (nn ec sq : Nat) (l : List Nw) (na : Option Addr) (nc : Nat) (kd fr bk tw hm hp : Int) (sr : Nat) (cd : Int) (nm : ByteArray) (id at_ : Int) (bd : ByteArray) (fs : List Fld) (w : World) (hfine : ∀ y ∈ fs, Fine y)
    (HC : ∀ W, Below w.heap.size w W → Calls Tryz.prog 11 #[.agg #[.int .i64 1, .int .u64 (nn : Int), .int .u64 (ec : Int), .int .u64 (sq : Int), .slice na l.length nc, .int .i64 kd, .int .i64 fr, .int .i64 bk, .int .i64 tw, .int .i64 hm, .int .i64 hp, .int .u64 (sr : Int), .int .i64 cd, .string nm, .int .i64 id, .int .i64 at_, .string bd]] W fun e w' => e = .returned (.int .i64 0) ∧ Below W.heap.size W w')
    (HF : ∀ W, Below w.heap.size w W → Calls Tryz.prog 22 #[.agg #[.int .i64 1, .int .u64 (nn : Int), .int .u64 (ec : Int), .int .u64 (sq : Int), .slice na l.length nc, .int .i64 kd, .int .i64 fr, .int .i64 bk, .int .i64 tw, .int .i64 hm, .int .i64 hp, .int .u64 (sr : Int), .int .i64 cd, .string nm, .int .i64 id, .int .i64 at_, .string bd]] W (FldsEnds fs W)) :
    Calls Tryz.prog 9 #[.agg #[.int .i64 1, .int .u64 (nn : Int), .int .u64 (ec : Int), .int .u64 (sq : Int), .slice na l.length nc, .int .i64 kd, .int .i64 fr, .int .i64 bk, .int .i64 tw, .int .i64 hm, .int .i64 hp, .int .u64 (sr : Int), .int .i64 cd, .string nm, .int .i64 id, .int .i64 at_, .string bd]] w fun e w' => e = .returned (.tuple #[.string ⟨(encSays (shp 1).data.toList fs).1.toArray⟩, .int .i64 (encSays (shp 1).data.toList fs).2]) ∧ Below w.heap.size w w' := by
  have HC2 := Lib.hid HC
  have HF2 := Lib.hid HF
  have HE := Lib.hid (fun (W : World) (a : Option Addr) (c : Nat) (hfs : FldsIn W W.heap.size fs a fs.length) => refEncode_any (shp 1) (by decide) fs a c W hfs (fun y hy => (hfine y hy).1) (fun y hy => (hfine y hy).2.1))
  have HSH := Lib.hid (fun W => rShape_any 1 W (by omega))
  generalize (encSays (shp 1).data.toList fs).2 = code at *
  generalize (encSays (shp 1).data.toList fs).1.toArray = bytes at *
  clear HC HF hfine
  go_enter Tryz.func9, Tryz.ntmps9
  go_upto_region 1 with (fail)
  have R0 := range_ms w 27 (.int .i64 1) (.int .u64 (nn : Int)) (.int .u64 (ec : Int)) (.int .u64 (sq : Int)) (.slice na l.length nc) (.int .i64 kd) (.int .i64 fr) (.int .i64 bk) (.int .i64 tw) (.int .i64 hm) (.int .i64 hp) (.int .u64 (sr : Int)) (.int .i64 cd) (.string nm) (.int .i64 id) (.int .i64 at_) (.string bd)
  obtain ⟨w0, hw0⟩ : ∃ w0, w0 = w.alloc (.cells #[.int .i64 1, .int .u64 (nn : Int), .int .u64 (ec : Int), .int .u64 (sq : Int), .slice na l.length nc, .int .i64 kd, .int .i64 fr, .int .i64 bk, .int .i64 tw, .int .i64 hm, .int .i64 hp, .int .u64 (sr : Int), .int .i64 cd, .string nm, .int .i64 id, .int .i64 at_, .string bd] 27) := ⟨_, rfl⟩
  have hb0 : Below w.heap.size w w0 := by rw [hw0]; exact (Below.refl _ _).alloc (Nat.le_refl _) _
  have hs0 : w.heap.size < w0.heap.size := by rw [hw0]; simp
  rw [← hw0] at R0 ⊢
  clear hw0
  have HR0 := Lib.hid R0
  have HB0 := Lib.hid hb0
  refine wp_region_list ?_
  refine wpList_load_guard (by kernel_rfl) 27 (.tmp 1) rfl w.heap.size 0 rfl [.int .i64 1, .int .u64 (nn : Int), .int .u64 (ec : Int), .int .u64 (sq : Int), .slice na l.length nc, .int .i64 kd, .int .i64 fr, .int .i64 bk, .int .i64 tw, .int .i64 hm, .int .i64 hp, .int .u64 (sr : Int), .int .i64 cd, .string nm, .int .i64 id, .int .i64 at_, .string bd] _ R0 Tryz.underlying27 (by rfl) (by kernel_rfl) ?_
  (try simp only [Act.put, List.setIfInBounds_toArray, List.set_cons_zero, List.set_cons_succ, List.getElem_toArray, List.getElem_cons_succ, List.getElem_cons_zero])
  clear R0 hb0
  go_upto_region 4 with (go_at_call 11; refine (HC2.out _ HB0.out).mono ?_; rintro e W1 ⟨rfl, hb1⟩)
  have hs1 : w.heap.size < W1.heap.size := Nat.lt_of_lt_of_le hs0 hb1.size
  have HB1 := Lib.hid (HB0.out.trans (hb1.mono HB0.out.size))
  have KR : ∀ W, Below W1.heap.size W1 W → W.rangeAt w.heap.size 0 [.int .i64 1, .int .u64 (nn : Int), .int .u64 (ec : Int), .int .u64 (sq : Int), .slice na l.length nc, .int .i64 kd, .int .i64 fr, .int .i64 bk, .int .i64 tw, .int .i64 hm, .int .i64 hp, .int .u64 (sr : Int), .int .i64 cd, .string nm, .int .i64 id, .int .i64 at_, .string bd] := fun W h => range_next (range_next HR0.out hs0 hb1) hs1 h
  clear hb1
  refine wp_region_held_drew (S := fun w' => Below W1.heap.size W1 w') (by kernel_rfl) (Below.drew (Below.refl _ _)) (fun hHeld => ?_)
  have hbd := hHeld
  refine wpAnyH_take (i := 0) (oi := _) (v := ?_) rfl (by kernel_rfl) (by kernel_rfl) (by kernel_rfl) (fun _ _ _ h => h) (Or.inl ⟨by rfl, ?_⟩) (by assumption) ?_
  rotate_left
  · intro W hSw
    have k0 := KR W hSw 0 _ rfl
    go_simp
    try with_reducible rfl
  (try simp only [Act.put, List.setIfInBounds_toArray, List.set_cons_zero, List.set_cons_succ, List.getElem_toArray, List.getElem_cons_succ, List.getElem_cons_zero])
  refine wpAnyH_take (i := 1) (oi := _) (v := ?_) rfl (by kernel_rfl) (by kernel_rfl) (by kernel_rfl) (fun _ _ _ h => h) (Or.inl ⟨by rfl, ?_⟩) (by assumption) ?_
  rotate_left
  · intro W hSw
    have k0 := KR W hSw 0 _ rfl
    go_simp
    try with_reducible rfl
  (try simp only [Act.put, List.setIfInBounds_toArray, List.set_cons_zero, List.set_cons_succ, List.getElem_toArray, List.getElem_cons_succ, List.getElem_cons_zero])
  refine wpAnyH_take (i := 3) (oi := _) (v := .agg #[.int .i64 1, .int .u64 (nn : Int), .int .u64 (ec : Int), .int .u64 (sq : Int), .slice na l.length nc, .int .i64 kd, .int .i64 fr, .int .i64 bk, .int .i64 tw, .int .i64 hm, .int .i64 hp, .int .u64 (sr : Int), .int .i64 cd, .string nm, .int .i64 id, .int .i64 at_, .string bd]) rfl (by kernel_rfl) (by kernel_rfl) (by kernel_rfl) (fun _ _ _ h => h) (Or.inl ⟨by rfl, ?_⟩) (by assumption) ?_
  · intro W hSw
    have R1 := KR W hSw
    exact take_load 27 (.tmp 1) rfl w.heap.size 0 rfl _ Tryz.underlying27 W R1 rfl (by rfl) (by kernel_rfl)
  (try simp only [Act.put, List.setIfInBounds_toArray, List.set_cons_zero, List.set_cons_succ, List.getElem_toArray, List.getElem_cons_succ, List.getElem_cons_zero])
  refine wpAnyH_ready (rs := [2]) (by kernel_rfl) (by simp) ?_
  refine AllReadyH.cons (o := _) rfl (fun K hK => ?_) AllReadyH.nil
  go_simp
  refine (HSH.out _).mono ?_
  rintro e w2 ⟨rfl, rfl⟩
  go_wp2_with fail
  refine hK.out _ _ hbd (fun hHeld => ?_)
  clear hK K
  (try simp only [Act.put, List.setIfInBounds_toArray, List.set_cons_zero, List.set_cons_succ, List.getElem_toArray, List.getElem_cons_succ, List.getElem_cons_zero])
  refine wpAnyH_ready (rs := [4]) (by kernel_rfl) (by simp) ?_
  refine AllReadyH.cons (o := _) rfl (fun K hK => ?_) AllReadyH.nil
  go_simp
  refine (HF2.out _ (HB1.out.drew)).mono ?_
  rintro e w3 ⟨a3, c3, rfl, hf3, hb3⟩
  have HBA := Lib.hid (below_nx hbd hb3)
  have HF3 := Lib.hid hf3
  clear hb3 hf3
  go_wp2_with fail
  refine hK.out _ _ HBA.out (fun hHeld => ?_)
  clear hK K
  (try simp only [Act.put, List.setIfInBounds_toArray, List.set_cons_zero, List.set_cons_succ, List.getElem_toArray, List.getElem_cons_succ, List.getElem_cons_zero])
  refine wpAnyH_ready (rs := [5]) (by kernel_rfl) (by simp) ?_
  refine AllReadyH.cons (o := _) rfl (fun K hK => ?_) AllReadyH.nil
  go_simp
  refine (HE.out w3 a3 c3 HF3.out).mono ?_
  rintro e w4 ⟨rfl, hb4⟩
  have HBB := Lib.hid (below_nx HBA.out hb4)
  clear hb4
  go_wp2_with fail
  refine hK.out _ _ HBB.out (fun hHeld => ?_)
  clear hK K
  (try simp only [Act.put, List.setIfInBounds_toArray, List.set_cons_zero, List.set_cons_succ, List.getElem_toArray, List.getElem_cons_succ, List.getElem_cons_zero])
  refine wpAnyH_take (i := 6) (oi := _) (v := ?_) rfl (by kernel_rfl) (by kernel_rfl) (by kernel_rfl) (fun _ _ _ h => h) (Or.inl ⟨by rfl, ?_⟩) (by assumption) ?_
  rotate_left
  · intro W hSw
    go_simp
    try with_reducible rfl
  (try simp only [Act.put, List.setIfInBounds_toArray, List.set_cons_zero, List.set_cons_succ, List.getElem_toArray, List.getElem_cons_succ, List.getElem_cons_zero])
  refine wpAnyH_take (i := 7) (oi := _) (v := ?_) rfl (by kernel_rfl) (by kernel_rfl) (by kernel_rfl) (fun _ _ _ h => h) (Or.inl ⟨by rfl, ?_⟩) (by assumption) ?_
  rotate_left
  · intro W hSw
    go_simp
    try with_reducible rfl
  (try simp only [Act.put, List.setIfInBounds_toArray, List.set_cons_zero, List.set_cons_succ, List.getElem_toArray, List.getElem_cons_succ, List.getElem_cons_zero])
  refine wpAnyH_take (i := 8) (oi := _) (v := ?_) rfl (by kernel_rfl) (by kernel_rfl) (by kernel_rfl) (fun _ _ _ h => h) (Or.inl ⟨by rfl, ?_⟩) (by assumption) ?_
  rotate_left
  · intro W hSw
    go_simp
    try with_reducible rfl
  (try simp only [Act.put, List.setIfInBounds_toArray, List.set_cons_zero, List.set_cons_succ, List.getElem_toArray, List.getElem_cons_succ, List.getElem_cons_zero])
  refine wpAnyH_take (i := 9) (oi := _) (v := ?_) rfl (by kernel_rfl) (by kernel_rfl) (by kernel_rfl) (fun _ _ _ h => h) (Or.inl ⟨by rfl, ?_⟩) (by assumption) ?_
  rotate_left
  · intro W hSw
    go_simp
    try with_reducible rfl
  (try simp only [Act.put, List.setIfInBounds_toArray, List.set_cons_zero, List.set_cons_succ, List.getElem_toArray, List.getElem_cons_succ, List.getElem_cons_zero])
  refine wpAnyH_done (by kernel_rfl) ?_ _
  go_wp2_with fail
  refine bodyPost_ret (v := .tuple #[.string ⟨bytes⟩, .int .i64 code]) (by simp [results, Tryz.results9, go_sem]) rfl ?_
  exact ⟨rfl, HB1.out.trans (HBB.out.mono (Nat.le_of_lt hs1))⟩

set_option maxHeartbeats 4000000 in
theorem rEncode_2 (nn ec sq : Nat) (l : List Nw) (na : Option Addr) (nc : Nat) (kd fr bk tw hm hp : Int) (sr : Nat) (cd : Int) (nm : ByteArray) (id at_ : Int) (bd : ByteArray) (fs : List Fld) (w : World) (hfine : ∀ y ∈ fs, Fine y)
    (HC : ∀ W, Below w.heap.size w W → Calls Tryz.prog 11 #[.agg #[.int .i64 2, .int .u64 (nn : Int), .int .u64 (ec : Int), .int .u64 (sq : Int), .slice na l.length nc, .int .i64 kd, .int .i64 fr, .int .i64 bk, .int .i64 tw, .int .i64 hm, .int .i64 hp, .int .u64 (sr : Int), .int .i64 cd, .string nm, .int .i64 id, .int .i64 at_, .string bd]] W fun e w' => e = .returned (.int .i64 0) ∧ Below W.heap.size W w')
    (HF : ∀ W, Below w.heap.size w W → Calls Tryz.prog 22 #[.agg #[.int .i64 2, .int .u64 (nn : Int), .int .u64 (ec : Int), .int .u64 (sq : Int), .slice na l.length nc, .int .i64 kd, .int .i64 fr, .int .i64 bk, .int .i64 tw, .int .i64 hm, .int .i64 hp, .int .u64 (sr : Int), .int .i64 cd, .string nm, .int .i64 id, .int .i64 at_, .string bd]] W (FldsEnds fs W)) :
    Calls Tryz.prog 9 #[.agg #[.int .i64 2, .int .u64 (nn : Int), .int .u64 (ec : Int), .int .u64 (sq : Int), .slice na l.length nc, .int .i64 kd, .int .i64 fr, .int .i64 bk, .int .i64 tw, .int .i64 hm, .int .i64 hp, .int .u64 (sr : Int), .int .i64 cd, .string nm, .int .i64 id, .int .i64 at_, .string bd]] w fun e w' => e = .returned (.tuple #[.string ⟨(encSays (shp 2).data.toList fs).1.toArray⟩, .int .i64 (encSays (shp 2).data.toList fs).2]) ∧ Below w.heap.size w w' := by
  have HC2 := Lib.hid HC
  have HF2 := Lib.hid HF
  have HE := Lib.hid (fun (W : World) (a : Option Addr) (c : Nat) (hfs : FldsIn W W.heap.size fs a fs.length) => refEncode_any (shp 2) (by decide) fs a c W hfs (fun y hy => (hfine y hy).1) (fun y hy => (hfine y hy).2.1))
  have HSH := Lib.hid (fun W => rShape_any 2 W (by omega))
  generalize (encSays (shp 2).data.toList fs).2 = code at *
  generalize (encSays (shp 2).data.toList fs).1.toArray = bytes at *
  clear HC HF hfine
  go_enter Tryz.func9, Tryz.ntmps9
  go_upto_region 1 with (fail)
  have R0 := range_ms w 27 (.int .i64 2) (.int .u64 (nn : Int)) (.int .u64 (ec : Int)) (.int .u64 (sq : Int)) (.slice na l.length nc) (.int .i64 kd) (.int .i64 fr) (.int .i64 bk) (.int .i64 tw) (.int .i64 hm) (.int .i64 hp) (.int .u64 (sr : Int)) (.int .i64 cd) (.string nm) (.int .i64 id) (.int .i64 at_) (.string bd)
  obtain ⟨w0, hw0⟩ : ∃ w0, w0 = w.alloc (.cells #[.int .i64 2, .int .u64 (nn : Int), .int .u64 (ec : Int), .int .u64 (sq : Int), .slice na l.length nc, .int .i64 kd, .int .i64 fr, .int .i64 bk, .int .i64 tw, .int .i64 hm, .int .i64 hp, .int .u64 (sr : Int), .int .i64 cd, .string nm, .int .i64 id, .int .i64 at_, .string bd] 27) := ⟨_, rfl⟩
  have hb0 : Below w.heap.size w w0 := by rw [hw0]; exact (Below.refl _ _).alloc (Nat.le_refl _) _
  have hs0 : w.heap.size < w0.heap.size := by rw [hw0]; simp
  rw [← hw0] at R0 ⊢
  clear hw0
  have HR0 := Lib.hid R0
  have HB0 := Lib.hid hb0
  refine wp_region_list ?_
  refine wpList_load_guard (by kernel_rfl) 27 (.tmp 1) rfl w.heap.size 0 rfl [.int .i64 2, .int .u64 (nn : Int), .int .u64 (ec : Int), .int .u64 (sq : Int), .slice na l.length nc, .int .i64 kd, .int .i64 fr, .int .i64 bk, .int .i64 tw, .int .i64 hm, .int .i64 hp, .int .u64 (sr : Int), .int .i64 cd, .string nm, .int .i64 id, .int .i64 at_, .string bd] _ R0 Tryz.underlying27 (by rfl) (by kernel_rfl) ?_
  (try simp only [Act.put, List.setIfInBounds_toArray, List.set_cons_zero, List.set_cons_succ, List.getElem_toArray, List.getElem_cons_succ, List.getElem_cons_zero])
  clear R0 hb0
  go_upto_region 4 with (go_at_call 11; refine (HC2.out _ HB0.out).mono ?_; rintro e W1 ⟨rfl, hb1⟩)
  have hs1 : w.heap.size < W1.heap.size := Nat.lt_of_lt_of_le hs0 hb1.size
  have HB1 := Lib.hid (HB0.out.trans (hb1.mono HB0.out.size))
  have KR : ∀ W, Below W1.heap.size W1 W → W.rangeAt w.heap.size 0 [.int .i64 2, .int .u64 (nn : Int), .int .u64 (ec : Int), .int .u64 (sq : Int), .slice na l.length nc, .int .i64 kd, .int .i64 fr, .int .i64 bk, .int .i64 tw, .int .i64 hm, .int .i64 hp, .int .u64 (sr : Int), .int .i64 cd, .string nm, .int .i64 id, .int .i64 at_, .string bd] := fun W h => range_next (range_next HR0.out hs0 hb1) hs1 h
  clear hb1
  refine wp_region_held_drew (S := fun w' => Below W1.heap.size W1 w') (by kernel_rfl) (Below.drew (Below.refl _ _)) (fun hHeld => ?_)
  have hbd := hHeld
  refine wpAnyH_take (i := 0) (oi := _) (v := ?_) rfl (by kernel_rfl) (by kernel_rfl) (by kernel_rfl) (fun _ _ _ h => h) (Or.inl ⟨by rfl, ?_⟩) (by assumption) ?_
  rotate_left
  · intro W hSw
    have k0 := KR W hSw 0 _ rfl
    go_simp
    try with_reducible rfl
  (try simp only [Act.put, List.setIfInBounds_toArray, List.set_cons_zero, List.set_cons_succ, List.getElem_toArray, List.getElem_cons_succ, List.getElem_cons_zero])
  refine wpAnyH_take (i := 1) (oi := _) (v := ?_) rfl (by kernel_rfl) (by kernel_rfl) (by kernel_rfl) (fun _ _ _ h => h) (Or.inl ⟨by rfl, ?_⟩) (by assumption) ?_
  rotate_left
  · intro W hSw
    have k0 := KR W hSw 0 _ rfl
    go_simp
    try with_reducible rfl
  (try simp only [Act.put, List.setIfInBounds_toArray, List.set_cons_zero, List.set_cons_succ, List.getElem_toArray, List.getElem_cons_succ, List.getElem_cons_zero])
  refine wpAnyH_take (i := 3) (oi := _) (v := .agg #[.int .i64 2, .int .u64 (nn : Int), .int .u64 (ec : Int), .int .u64 (sq : Int), .slice na l.length nc, .int .i64 kd, .int .i64 fr, .int .i64 bk, .int .i64 tw, .int .i64 hm, .int .i64 hp, .int .u64 (sr : Int), .int .i64 cd, .string nm, .int .i64 id, .int .i64 at_, .string bd]) rfl (by kernel_rfl) (by kernel_rfl) (by kernel_rfl) (fun _ _ _ h => h) (Or.inl ⟨by rfl, ?_⟩) (by assumption) ?_
  · intro W hSw
    have R1 := KR W hSw
    exact take_load 27 (.tmp 1) rfl w.heap.size 0 rfl _ Tryz.underlying27 W R1 rfl (by rfl) (by kernel_rfl)
  (try simp only [Act.put, List.setIfInBounds_toArray, List.set_cons_zero, List.set_cons_succ, List.getElem_toArray, List.getElem_cons_succ, List.getElem_cons_zero])
  refine wpAnyH_ready (rs := [2]) (by kernel_rfl) (by simp) ?_
  refine AllReadyH.cons (o := _) rfl (fun K hK => ?_) AllReadyH.nil
  go_simp
  refine (HSH.out _).mono ?_
  rintro e w2 ⟨rfl, rfl⟩
  go_wp2_with fail
  refine hK.out _ _ hbd (fun hHeld => ?_)
  clear hK K
  (try simp only [Act.put, List.setIfInBounds_toArray, List.set_cons_zero, List.set_cons_succ, List.getElem_toArray, List.getElem_cons_succ, List.getElem_cons_zero])
  refine wpAnyH_ready (rs := [4]) (by kernel_rfl) (by simp) ?_
  refine AllReadyH.cons (o := _) rfl (fun K hK => ?_) AllReadyH.nil
  go_simp
  refine (HF2.out _ (HB1.out.drew)).mono ?_
  rintro e w3 ⟨a3, c3, rfl, hf3, hb3⟩
  have HBA := Lib.hid (below_nx hbd hb3)
  have HF3 := Lib.hid hf3
  clear hb3 hf3
  go_wp2_with fail
  refine hK.out _ _ HBA.out (fun hHeld => ?_)
  clear hK K
  (try simp only [Act.put, List.setIfInBounds_toArray, List.set_cons_zero, List.set_cons_succ, List.getElem_toArray, List.getElem_cons_succ, List.getElem_cons_zero])
  refine wpAnyH_ready (rs := [5]) (by kernel_rfl) (by simp) ?_
  refine AllReadyH.cons (o := _) rfl (fun K hK => ?_) AllReadyH.nil
  go_simp
  refine (HE.out w3 a3 c3 HF3.out).mono ?_
  rintro e w4 ⟨rfl, hb4⟩
  have HBB := Lib.hid (below_nx HBA.out hb4)
  clear hb4
  go_wp2_with fail
  refine hK.out _ _ HBB.out (fun hHeld => ?_)
  clear hK K
  (try simp only [Act.put, List.setIfInBounds_toArray, List.set_cons_zero, List.set_cons_succ, List.getElem_toArray, List.getElem_cons_succ, List.getElem_cons_zero])
  refine wpAnyH_take (i := 6) (oi := _) (v := ?_) rfl (by kernel_rfl) (by kernel_rfl) (by kernel_rfl) (fun _ _ _ h => h) (Or.inl ⟨by rfl, ?_⟩) (by assumption) ?_
  rotate_left
  · intro W hSw
    go_simp
    try with_reducible rfl
  (try simp only [Act.put, List.setIfInBounds_toArray, List.set_cons_zero, List.set_cons_succ, List.getElem_toArray, List.getElem_cons_succ, List.getElem_cons_zero])
  refine wpAnyH_take (i := 7) (oi := _) (v := ?_) rfl (by kernel_rfl) (by kernel_rfl) (by kernel_rfl) (fun _ _ _ h => h) (Or.inl ⟨by rfl, ?_⟩) (by assumption) ?_
  rotate_left
  · intro W hSw
    go_simp
    try with_reducible rfl
  (try simp only [Act.put, List.setIfInBounds_toArray, List.set_cons_zero, List.set_cons_succ, List.getElem_toArray, List.getElem_cons_succ, List.getElem_cons_zero])
  refine wpAnyH_take (i := 8) (oi := _) (v := ?_) rfl (by kernel_rfl) (by kernel_rfl) (by kernel_rfl) (fun _ _ _ h => h) (Or.inl ⟨by rfl, ?_⟩) (by assumption) ?_
  rotate_left
  · intro W hSw
    go_simp
    try with_reducible rfl
  (try simp only [Act.put, List.setIfInBounds_toArray, List.set_cons_zero, List.set_cons_succ, List.getElem_toArray, List.getElem_cons_succ, List.getElem_cons_zero])
  refine wpAnyH_take (i := 9) (oi := _) (v := ?_) rfl (by kernel_rfl) (by kernel_rfl) (by kernel_rfl) (fun _ _ _ h => h) (Or.inl ⟨by rfl, ?_⟩) (by assumption) ?_
  rotate_left
  · intro W hSw
    go_simp
    try with_reducible rfl
  (try simp only [Act.put, List.setIfInBounds_toArray, List.set_cons_zero, List.set_cons_succ, List.getElem_toArray, List.getElem_cons_succ, List.getElem_cons_zero])
  refine wpAnyH_done (by kernel_rfl) ?_ _
  go_wp2_with fail
  refine bodyPost_ret (v := .tuple #[.string ⟨bytes⟩, .int .i64 code]) (by simp [results, Tryz.results9, go_sem]) rfl ?_
  exact ⟨rfl, HB1.out.trans (HBB.out.mono (Nat.le_of_lt hs1))⟩

set_option maxHeartbeats 4000000 in
theorem rEncode_3 (nn ec sq : Nat) (l : List Nw) (na : Option Addr) (nc : Nat) (kd fr bk tw hm hp : Int) (sr : Nat) (cd : Int) (nm : ByteArray) (id at_ : Int) (bd : ByteArray) (fs : List Fld) (w : World) (hfine : ∀ y ∈ fs, Fine y)
    (HC : ∀ W, Below w.heap.size w W → Calls Tryz.prog 11 #[.agg #[.int .i64 3, .int .u64 (nn : Int), .int .u64 (ec : Int), .int .u64 (sq : Int), .slice na l.length nc, .int .i64 kd, .int .i64 fr, .int .i64 bk, .int .i64 tw, .int .i64 hm, .int .i64 hp, .int .u64 (sr : Int), .int .i64 cd, .string nm, .int .i64 id, .int .i64 at_, .string bd]] W fun e w' => e = .returned (.int .i64 0) ∧ Below W.heap.size W w')
    (HF : ∀ W, Below w.heap.size w W → Calls Tryz.prog 22 #[.agg #[.int .i64 3, .int .u64 (nn : Int), .int .u64 (ec : Int), .int .u64 (sq : Int), .slice na l.length nc, .int .i64 kd, .int .i64 fr, .int .i64 bk, .int .i64 tw, .int .i64 hm, .int .i64 hp, .int .u64 (sr : Int), .int .i64 cd, .string nm, .int .i64 id, .int .i64 at_, .string bd]] W (FldsEnds fs W)) :
    Calls Tryz.prog 9 #[.agg #[.int .i64 3, .int .u64 (nn : Int), .int .u64 (ec : Int), .int .u64 (sq : Int), .slice na l.length nc, .int .i64 kd, .int .i64 fr, .int .i64 bk, .int .i64 tw, .int .i64 hm, .int .i64 hp, .int .u64 (sr : Int), .int .i64 cd, .string nm, .int .i64 id, .int .i64 at_, .string bd]] w fun e w' => e = .returned (.tuple #[.string ⟨(encSays (shp 3).data.toList fs).1.toArray⟩, .int .i64 (encSays (shp 3).data.toList fs).2]) ∧ Below w.heap.size w w' := by
  have HC2 := Lib.hid HC
  have HF2 := Lib.hid HF
  have HE := Lib.hid (fun (W : World) (a : Option Addr) (c : Nat) (hfs : FldsIn W W.heap.size fs a fs.length) => refEncode_any (shp 3) (by decide) fs a c W hfs (fun y hy => (hfine y hy).1) (fun y hy => (hfine y hy).2.1))
  have HSH := Lib.hid (fun W => rShape_any 3 W (by omega))
  generalize (encSays (shp 3).data.toList fs).2 = code at *
  generalize (encSays (shp 3).data.toList fs).1.toArray = bytes at *
  clear HC HF hfine
  go_enter Tryz.func9, Tryz.ntmps9
  go_upto_region 1 with (fail)
  have R0 := range_ms w 27 (.int .i64 3) (.int .u64 (nn : Int)) (.int .u64 (ec : Int)) (.int .u64 (sq : Int)) (.slice na l.length nc) (.int .i64 kd) (.int .i64 fr) (.int .i64 bk) (.int .i64 tw) (.int .i64 hm) (.int .i64 hp) (.int .u64 (sr : Int)) (.int .i64 cd) (.string nm) (.int .i64 id) (.int .i64 at_) (.string bd)
  obtain ⟨w0, hw0⟩ : ∃ w0, w0 = w.alloc (.cells #[.int .i64 3, .int .u64 (nn : Int), .int .u64 (ec : Int), .int .u64 (sq : Int), .slice na l.length nc, .int .i64 kd, .int .i64 fr, .int .i64 bk, .int .i64 tw, .int .i64 hm, .int .i64 hp, .int .u64 (sr : Int), .int .i64 cd, .string nm, .int .i64 id, .int .i64 at_, .string bd] 27) := ⟨_, rfl⟩
  have hb0 : Below w.heap.size w w0 := by rw [hw0]; exact (Below.refl _ _).alloc (Nat.le_refl _) _
  have hs0 : w.heap.size < w0.heap.size := by rw [hw0]; simp
  rw [← hw0] at R0 ⊢
  clear hw0
  have HR0 := Lib.hid R0
  have HB0 := Lib.hid hb0
  refine wp_region_list ?_
  refine wpList_load_guard (by kernel_rfl) 27 (.tmp 1) rfl w.heap.size 0 rfl [.int .i64 3, .int .u64 (nn : Int), .int .u64 (ec : Int), .int .u64 (sq : Int), .slice na l.length nc, .int .i64 kd, .int .i64 fr, .int .i64 bk, .int .i64 tw, .int .i64 hm, .int .i64 hp, .int .u64 (sr : Int), .int .i64 cd, .string nm, .int .i64 id, .int .i64 at_, .string bd] _ R0 Tryz.underlying27 (by rfl) (by kernel_rfl) ?_
  (try simp only [Act.put, List.setIfInBounds_toArray, List.set_cons_zero, List.set_cons_succ, List.getElem_toArray, List.getElem_cons_succ, List.getElem_cons_zero])
  clear R0 hb0
  go_upto_region 4 with (go_at_call 11; refine (HC2.out _ HB0.out).mono ?_; rintro e W1 ⟨rfl, hb1⟩)
  have hs1 : w.heap.size < W1.heap.size := Nat.lt_of_lt_of_le hs0 hb1.size
  have HB1 := Lib.hid (HB0.out.trans (hb1.mono HB0.out.size))
  have KR : ∀ W, Below W1.heap.size W1 W → W.rangeAt w.heap.size 0 [.int .i64 3, .int .u64 (nn : Int), .int .u64 (ec : Int), .int .u64 (sq : Int), .slice na l.length nc, .int .i64 kd, .int .i64 fr, .int .i64 bk, .int .i64 tw, .int .i64 hm, .int .i64 hp, .int .u64 (sr : Int), .int .i64 cd, .string nm, .int .i64 id, .int .i64 at_, .string bd] := fun W h => range_next (range_next HR0.out hs0 hb1) hs1 h
  clear hb1
  refine wp_region_held_drew (S := fun w' => Below W1.heap.size W1 w') (by kernel_rfl) (Below.drew (Below.refl _ _)) (fun hHeld => ?_)
  have hbd := hHeld
  refine wpAnyH_take (i := 0) (oi := _) (v := ?_) rfl (by kernel_rfl) (by kernel_rfl) (by kernel_rfl) (fun _ _ _ h => h) (Or.inl ⟨by rfl, ?_⟩) (by assumption) ?_
  rotate_left
  · intro W hSw
    have k0 := KR W hSw 0 _ rfl
    go_simp
    try with_reducible rfl
  (try simp only [Act.put, List.setIfInBounds_toArray, List.set_cons_zero, List.set_cons_succ, List.getElem_toArray, List.getElem_cons_succ, List.getElem_cons_zero])
  refine wpAnyH_take (i := 1) (oi := _) (v := ?_) rfl (by kernel_rfl) (by kernel_rfl) (by kernel_rfl) (fun _ _ _ h => h) (Or.inl ⟨by rfl, ?_⟩) (by assumption) ?_
  rotate_left
  · intro W hSw
    have k0 := KR W hSw 0 _ rfl
    go_simp
    try with_reducible rfl
  (try simp only [Act.put, List.setIfInBounds_toArray, List.set_cons_zero, List.set_cons_succ, List.getElem_toArray, List.getElem_cons_succ, List.getElem_cons_zero])
  refine wpAnyH_take (i := 3) (oi := _) (v := .agg #[.int .i64 3, .int .u64 (nn : Int), .int .u64 (ec : Int), .int .u64 (sq : Int), .slice na l.length nc, .int .i64 kd, .int .i64 fr, .int .i64 bk, .int .i64 tw, .int .i64 hm, .int .i64 hp, .int .u64 (sr : Int), .int .i64 cd, .string nm, .int .i64 id, .int .i64 at_, .string bd]) rfl (by kernel_rfl) (by kernel_rfl) (by kernel_rfl) (fun _ _ _ h => h) (Or.inl ⟨by rfl, ?_⟩) (by assumption) ?_
  · intro W hSw
    have R1 := KR W hSw
    exact take_load 27 (.tmp 1) rfl w.heap.size 0 rfl _ Tryz.underlying27 W R1 rfl (by rfl) (by kernel_rfl)
  (try simp only [Act.put, List.setIfInBounds_toArray, List.set_cons_zero, List.set_cons_succ, List.getElem_toArray, List.getElem_cons_succ, List.getElem_cons_zero])
  refine wpAnyH_ready (rs := [2]) (by kernel_rfl) (by simp) ?_
  refine AllReadyH.cons (o := _) rfl (fun K hK => ?_) AllReadyH.nil
  go_simp
  refine (HSH.out _).mono ?_
  rintro e w2 ⟨rfl, rfl⟩
  go_wp2_with fail
  refine hK.out _ _ hbd (fun hHeld => ?_)
  clear hK K
  (try simp only [Act.put, List.setIfInBounds_toArray, List.set_cons_zero, List.set_cons_succ, List.getElem_toArray, List.getElem_cons_succ, List.getElem_cons_zero])
  refine wpAnyH_ready (rs := [4]) (by kernel_rfl) (by simp) ?_
  refine AllReadyH.cons (o := _) rfl (fun K hK => ?_) AllReadyH.nil
  go_simp
  refine (HF2.out _ (HB1.out.drew)).mono ?_
  rintro e w3 ⟨a3, c3, rfl, hf3, hb3⟩
  have HBA := Lib.hid (below_nx hbd hb3)
  have HF3 := Lib.hid hf3
  clear hb3 hf3
  go_wp2_with fail
  refine hK.out _ _ HBA.out (fun hHeld => ?_)
  clear hK K
  (try simp only [Act.put, List.setIfInBounds_toArray, List.set_cons_zero, List.set_cons_succ, List.getElem_toArray, List.getElem_cons_succ, List.getElem_cons_zero])
  refine wpAnyH_ready (rs := [5]) (by kernel_rfl) (by simp) ?_
  refine AllReadyH.cons (o := _) rfl (fun K hK => ?_) AllReadyH.nil
  go_simp
  refine (HE.out w3 a3 c3 HF3.out).mono ?_
  rintro e w4 ⟨rfl, hb4⟩
  have HBB := Lib.hid (below_nx HBA.out hb4)
  clear hb4
  go_wp2_with fail
  refine hK.out _ _ HBB.out (fun hHeld => ?_)
  clear hK K
  (try simp only [Act.put, List.setIfInBounds_toArray, List.set_cons_zero, List.set_cons_succ, List.getElem_toArray, List.getElem_cons_succ, List.getElem_cons_zero])
  refine wpAnyH_take (i := 6) (oi := _) (v := ?_) rfl (by kernel_rfl) (by kernel_rfl) (by kernel_rfl) (fun _ _ _ h => h) (Or.inl ⟨by rfl, ?_⟩) (by assumption) ?_
  rotate_left
  · intro W hSw
    go_simp
    try with_reducible rfl
  (try simp only [Act.put, List.setIfInBounds_toArray, List.set_cons_zero, List.set_cons_succ, List.getElem_toArray, List.getElem_cons_succ, List.getElem_cons_zero])
  refine wpAnyH_take (i := 7) (oi := _) (v := ?_) rfl (by kernel_rfl) (by kernel_rfl) (by kernel_rfl) (fun _ _ _ h => h) (Or.inl ⟨by rfl, ?_⟩) (by assumption) ?_
  rotate_left
  · intro W hSw
    go_simp
    try with_reducible rfl
  (try simp only [Act.put, List.setIfInBounds_toArray, List.set_cons_zero, List.set_cons_succ, List.getElem_toArray, List.getElem_cons_succ, List.getElem_cons_zero])
  refine wpAnyH_take (i := 8) (oi := _) (v := ?_) rfl (by kernel_rfl) (by kernel_rfl) (by kernel_rfl) (fun _ _ _ h => h) (Or.inl ⟨by rfl, ?_⟩) (by assumption) ?_
  rotate_left
  · intro W hSw
    go_simp
    try with_reducible rfl
  (try simp only [Act.put, List.setIfInBounds_toArray, List.set_cons_zero, List.set_cons_succ, List.getElem_toArray, List.getElem_cons_succ, List.getElem_cons_zero])
  refine wpAnyH_take (i := 9) (oi := _) (v := ?_) rfl (by kernel_rfl) (by kernel_rfl) (by kernel_rfl) (fun _ _ _ h => h) (Or.inl ⟨by rfl, ?_⟩) (by assumption) ?_
  rotate_left
  · intro W hSw
    go_simp
    try with_reducible rfl
  (try simp only [Act.put, List.setIfInBounds_toArray, List.set_cons_zero, List.set_cons_succ, List.getElem_toArray, List.getElem_cons_succ, List.getElem_cons_zero])
  refine wpAnyH_done (by kernel_rfl) ?_ _
  go_wp2_with fail
  refine bodyPost_ret (v := .tuple #[.string ⟨bytes⟩, .int .i64 code]) (by simp [results, Tryz.results9, go_sem]) rfl ?_
  exact ⟨rfl, HB1.out.trans (HBB.out.mono (Nat.le_of_lt hs1))⟩

set_option maxHeartbeats 4000000 in
theorem rEncode_4 (nn ec sq : Nat) (l : List Nw) (na : Option Addr) (nc : Nat) (kd fr bk tw hm hp : Int) (sr : Nat) (cd : Int) (nm : ByteArray) (id at_ : Int) (bd : ByteArray) (fs : List Fld) (w : World) (hfine : ∀ y ∈ fs, Fine y)
    (HC : ∀ W, Below w.heap.size w W → Calls Tryz.prog 11 #[.agg #[.int .i64 4, .int .u64 (nn : Int), .int .u64 (ec : Int), .int .u64 (sq : Int), .slice na l.length nc, .int .i64 kd, .int .i64 fr, .int .i64 bk, .int .i64 tw, .int .i64 hm, .int .i64 hp, .int .u64 (sr : Int), .int .i64 cd, .string nm, .int .i64 id, .int .i64 at_, .string bd]] W fun e w' => e = .returned (.int .i64 0) ∧ Below W.heap.size W w')
    (HF : ∀ W, Below w.heap.size w W → Calls Tryz.prog 22 #[.agg #[.int .i64 4, .int .u64 (nn : Int), .int .u64 (ec : Int), .int .u64 (sq : Int), .slice na l.length nc, .int .i64 kd, .int .i64 fr, .int .i64 bk, .int .i64 tw, .int .i64 hm, .int .i64 hp, .int .u64 (sr : Int), .int .i64 cd, .string nm, .int .i64 id, .int .i64 at_, .string bd]] W (FldsEnds fs W)) :
    Calls Tryz.prog 9 #[.agg #[.int .i64 4, .int .u64 (nn : Int), .int .u64 (ec : Int), .int .u64 (sq : Int), .slice na l.length nc, .int .i64 kd, .int .i64 fr, .int .i64 bk, .int .i64 tw, .int .i64 hm, .int .i64 hp, .int .u64 (sr : Int), .int .i64 cd, .string nm, .int .i64 id, .int .i64 at_, .string bd]] w fun e w' => e = .returned (.tuple #[.string ⟨(encSays (shp 4).data.toList fs).1.toArray⟩, .int .i64 (encSays (shp 4).data.toList fs).2]) ∧ Below w.heap.size w w' := by
  have HC2 := Lib.hid HC
  have HF2 := Lib.hid HF
  have HE := Lib.hid (fun (W : World) (a : Option Addr) (c : Nat) (hfs : FldsIn W W.heap.size fs a fs.length) => refEncode_any (shp 4) (by decide) fs a c W hfs (fun y hy => (hfine y hy).1) (fun y hy => (hfine y hy).2.1))
  have HSH := Lib.hid (fun W => rShape_any 4 W (by omega))
  generalize (encSays (shp 4).data.toList fs).2 = code at *
  generalize (encSays (shp 4).data.toList fs).1.toArray = bytes at *
  clear HC HF hfine
  go_enter Tryz.func9, Tryz.ntmps9
  go_upto_region 1 with (fail)
  have R0 := range_ms w 27 (.int .i64 4) (.int .u64 (nn : Int)) (.int .u64 (ec : Int)) (.int .u64 (sq : Int)) (.slice na l.length nc) (.int .i64 kd) (.int .i64 fr) (.int .i64 bk) (.int .i64 tw) (.int .i64 hm) (.int .i64 hp) (.int .u64 (sr : Int)) (.int .i64 cd) (.string nm) (.int .i64 id) (.int .i64 at_) (.string bd)
  obtain ⟨w0, hw0⟩ : ∃ w0, w0 = w.alloc (.cells #[.int .i64 4, .int .u64 (nn : Int), .int .u64 (ec : Int), .int .u64 (sq : Int), .slice na l.length nc, .int .i64 kd, .int .i64 fr, .int .i64 bk, .int .i64 tw, .int .i64 hm, .int .i64 hp, .int .u64 (sr : Int), .int .i64 cd, .string nm, .int .i64 id, .int .i64 at_, .string bd] 27) := ⟨_, rfl⟩
  have hb0 : Below w.heap.size w w0 := by rw [hw0]; exact (Below.refl _ _).alloc (Nat.le_refl _) _
  have hs0 : w.heap.size < w0.heap.size := by rw [hw0]; simp
  rw [← hw0] at R0 ⊢
  clear hw0
  have HR0 := Lib.hid R0
  have HB0 := Lib.hid hb0
  refine wp_region_list ?_
  refine wpList_load_guard (by kernel_rfl) 27 (.tmp 1) rfl w.heap.size 0 rfl [.int .i64 4, .int .u64 (nn : Int), .int .u64 (ec : Int), .int .u64 (sq : Int), .slice na l.length nc, .int .i64 kd, .int .i64 fr, .int .i64 bk, .int .i64 tw, .int .i64 hm, .int .i64 hp, .int .u64 (sr : Int), .int .i64 cd, .string nm, .int .i64 id, .int .i64 at_, .string bd] _ R0 Tryz.underlying27 (by rfl) (by kernel_rfl) ?_
  (try simp only [Act.put, List.setIfInBounds_toArray, List.set_cons_zero, List.set_cons_succ, List.getElem_toArray, List.getElem_cons_succ, List.getElem_cons_zero])
  clear R0 hb0
  go_upto_region 4 with (go_at_call 11; refine (HC2.out _ HB0.out).mono ?_; rintro e W1 ⟨rfl, hb1⟩)
  have hs1 : w.heap.size < W1.heap.size := Nat.lt_of_lt_of_le hs0 hb1.size
  have HB1 := Lib.hid (HB0.out.trans (hb1.mono HB0.out.size))
  have KR : ∀ W, Below W1.heap.size W1 W → W.rangeAt w.heap.size 0 [.int .i64 4, .int .u64 (nn : Int), .int .u64 (ec : Int), .int .u64 (sq : Int), .slice na l.length nc, .int .i64 kd, .int .i64 fr, .int .i64 bk, .int .i64 tw, .int .i64 hm, .int .i64 hp, .int .u64 (sr : Int), .int .i64 cd, .string nm, .int .i64 id, .int .i64 at_, .string bd] := fun W h => range_next (range_next HR0.out hs0 hb1) hs1 h
  clear hb1
  refine wp_region_held_drew (S := fun w' => Below W1.heap.size W1 w') (by kernel_rfl) (Below.drew (Below.refl _ _)) (fun hHeld => ?_)
  have hbd := hHeld
  refine wpAnyH_take (i := 0) (oi := _) (v := ?_) rfl (by kernel_rfl) (by kernel_rfl) (by kernel_rfl) (fun _ _ _ h => h) (Or.inl ⟨by rfl, ?_⟩) (by assumption) ?_
  rotate_left
  · intro W hSw
    have k0 := KR W hSw 0 _ rfl
    go_simp
    try with_reducible rfl
  (try simp only [Act.put, List.setIfInBounds_toArray, List.set_cons_zero, List.set_cons_succ, List.getElem_toArray, List.getElem_cons_succ, List.getElem_cons_zero])
  refine wpAnyH_take (i := 1) (oi := _) (v := ?_) rfl (by kernel_rfl) (by kernel_rfl) (by kernel_rfl) (fun _ _ _ h => h) (Or.inl ⟨by rfl, ?_⟩) (by assumption) ?_
  rotate_left
  · intro W hSw
    have k0 := KR W hSw 0 _ rfl
    go_simp
    try with_reducible rfl
  (try simp only [Act.put, List.setIfInBounds_toArray, List.set_cons_zero, List.set_cons_succ, List.getElem_toArray, List.getElem_cons_succ, List.getElem_cons_zero])
  refine wpAnyH_take (i := 3) (oi := _) (v := .agg #[.int .i64 4, .int .u64 (nn : Int), .int .u64 (ec : Int), .int .u64 (sq : Int), .slice na l.length nc, .int .i64 kd, .int .i64 fr, .int .i64 bk, .int .i64 tw, .int .i64 hm, .int .i64 hp, .int .u64 (sr : Int), .int .i64 cd, .string nm, .int .i64 id, .int .i64 at_, .string bd]) rfl (by kernel_rfl) (by kernel_rfl) (by kernel_rfl) (fun _ _ _ h => h) (Or.inl ⟨by rfl, ?_⟩) (by assumption) ?_
  · intro W hSw
    have R1 := KR W hSw
    exact take_load 27 (.tmp 1) rfl w.heap.size 0 rfl _ Tryz.underlying27 W R1 rfl (by rfl) (by kernel_rfl)
  (try simp only [Act.put, List.setIfInBounds_toArray, List.set_cons_zero, List.set_cons_succ, List.getElem_toArray, List.getElem_cons_succ, List.getElem_cons_zero])
  refine wpAnyH_ready (rs := [2]) (by kernel_rfl) (by simp) ?_
  refine AllReadyH.cons (o := _) rfl (fun K hK => ?_) AllReadyH.nil
  go_simp
  refine (HSH.out _).mono ?_
  rintro e w2 ⟨rfl, rfl⟩
  go_wp2_with fail
  refine hK.out _ _ hbd (fun hHeld => ?_)
  clear hK K
  (try simp only [Act.put, List.setIfInBounds_toArray, List.set_cons_zero, List.set_cons_succ, List.getElem_toArray, List.getElem_cons_succ, List.getElem_cons_zero])
  refine wpAnyH_ready (rs := [4]) (by kernel_rfl) (by simp) ?_
  refine AllReadyH.cons (o := _) rfl (fun K hK => ?_) AllReadyH.nil
  go_simp
  refine (HF2.out _ (HB1.out.drew)).mono ?_
  rintro e w3 ⟨a3, c3, rfl, hf3, hb3⟩
  have HBA := Lib.hid (below_nx hbd hb3)
  have HF3 := Lib.hid hf3
  clear hb3 hf3
  go_wp2_with fail
  refine hK.out _ _ HBA.out (fun hHeld => ?_)
  clear hK K
  (try simp only [Act.put, List.setIfInBounds_toArray, List.set_cons_zero, List.set_cons_succ, List.getElem_toArray, List.getElem_cons_succ, List.getElem_cons_zero])
  refine wpAnyH_ready (rs := [5]) (by kernel_rfl) (by simp) ?_
  refine AllReadyH.cons (o := _) rfl (fun K hK => ?_) AllReadyH.nil
  go_simp
  refine (HE.out w3 a3 c3 HF3.out).mono ?_
  rintro e w4 ⟨rfl, hb4⟩
  have HBB := Lib.hid (below_nx HBA.out hb4)
  clear hb4
  go_wp2_with fail
  refine hK.out _ _ HBB.out (fun hHeld => ?_)
  clear hK K
  (try simp only [Act.put, List.setIfInBounds_toArray, List.set_cons_zero, List.set_cons_succ, List.getElem_toArray, List.getElem_cons_succ, List.getElem_cons_zero])
  refine wpAnyH_take (i := 6) (oi := _) (v := ?_) rfl (by kernel_rfl) (by kernel_rfl) (by kernel_rfl) (fun _ _ _ h => h) (Or.inl ⟨by rfl, ?_⟩) (by assumption) ?_
  rotate_left
  · intro W hSw
    go_simp
    try with_reducible rfl
  (try simp only [Act.put, List.setIfInBounds_toArray, List.set_cons_zero, List.set_cons_succ, List.getElem_toArray, List.getElem_cons_succ, List.getElem_cons_zero])
  refine wpAnyH_take (i := 7) (oi := _) (v := ?_) rfl (by kernel_rfl) (by kernel_rfl) (by kernel_rfl) (fun _ _ _ h => h) (Or.inl ⟨by rfl, ?_⟩) (by assumption) ?_
  rotate_left
  · intro W hSw
    go_simp
    try with_reducible rfl
  (try simp only [Act.put, List.setIfInBounds_toArray, List.set_cons_zero, List.set_cons_succ, List.getElem_toArray, List.getElem_cons_succ, List.getElem_cons_zero])
  refine wpAnyH_take (i := 8) (oi := _) (v := ?_) rfl (by kernel_rfl) (by kernel_rfl) (by kernel_rfl) (fun _ _ _ h => h) (Or.inl ⟨by rfl, ?_⟩) (by assumption) ?_
  rotate_left
  · intro W hSw
    go_simp
    try with_reducible rfl
  (try simp only [Act.put, List.setIfInBounds_toArray, List.set_cons_zero, List.set_cons_succ, List.getElem_toArray, List.getElem_cons_succ, List.getElem_cons_zero])
  refine wpAnyH_take (i := 9) (oi := _) (v := ?_) rfl (by kernel_rfl) (by kernel_rfl) (by kernel_rfl) (fun _ _ _ h => h) (Or.inl ⟨by rfl, ?_⟩) (by assumption) ?_
  rotate_left
  · intro W hSw
    go_simp
    try with_reducible rfl
  (try simp only [Act.put, List.setIfInBounds_toArray, List.set_cons_zero, List.set_cons_succ, List.getElem_toArray, List.getElem_cons_succ, List.getElem_cons_zero])
  refine wpAnyH_done (by kernel_rfl) ?_ _
  go_wp2_with fail
  refine bodyPost_ret (v := .tuple #[.string ⟨bytes⟩, .int .i64 code]) (by simp [results, Tryz.results9, go_sem]) rfl ?_
  exact ⟨rfl, HB1.out.trans (HBB.out.mono (Nat.le_of_lt hs1))⟩

set_option maxHeartbeats 4000000 in
theorem mEncode_bad (k : Int) (nn ec sq : Nat) (l : List Nw) (na : Option Addr) (nc : Nat) (kd fr bk tw hm hp : Int) (sr : Nat) (cd : Int) (nm : ByteArray) (id at_ : Int) (bd : ByteArray) (w : World)
    (HC : ∀ W, Below w.heap.size w W → Calls Tryz.prog 10 #[.agg #[.int .i64 k, .int .u64 (nn : Int), .int .u64 (ec : Int), .int .u64 (sq : Int), .slice na l.length nc, .int .i64 kd, .int .i64 fr, .int .i64 bk, .int .i64 tw, .int .i64 hm, .int .i64 hp, .int .u64 (sr : Int), .int .i64 cd, .string nm, .int .i64 id, .int .i64 at_, .string bd]] W fun e w' => e = .returned (.int .i64 60) ∧ Below W.heap.size W w') :
    Calls Tryz.prog 8 #[.agg #[.int .i64 k, .int .u64 (nn : Int), .int .u64 (ec : Int), .int .u64 (sq : Int), .slice na l.length nc, .int .i64 kd, .int .i64 fr, .int .i64 bk, .int .i64 tw, .int .i64 hm, .int .i64 hp, .int .u64 (sr : Int), .int .i64 cd, .string nm, .int .i64 id, .int .i64 at_, .string bd]] w fun e w' => e = .returned (.tuple #[.string ⟨#[]⟩, .int .i64 60]) ∧ Below w.heap.size w w' := by
  have HC2 := Lib.hid HC
  clear HC
  go_enter Tryz.func8, Tryz.ntmps8
  go_upto_region 1 with (fail)
  have R0 := range_ms w 27 (.int .i64 k) (.int .u64 (nn : Int)) (.int .u64 (ec : Int)) (.int .u64 (sq : Int)) (.slice na l.length nc) (.int .i64 kd) (.int .i64 fr) (.int .i64 bk) (.int .i64 tw) (.int .i64 hm) (.int .i64 hp) (.int .u64 (sr : Int)) (.int .i64 cd) (.string nm) (.int .i64 id) (.int .i64 at_) (.string bd)
  obtain ⟨w0, hw0⟩ : ∃ w0, w0 = w.alloc (.cells #[.int .i64 k, .int .u64 (nn : Int), .int .u64 (ec : Int), .int .u64 (sq : Int), .slice na l.length nc, .int .i64 kd, .int .i64 fr, .int .i64 bk, .int .i64 tw, .int .i64 hm, .int .i64 hp, .int .u64 (sr : Int), .int .i64 cd, .string nm, .int .i64 id, .int .i64 at_, .string bd] 27) := ⟨_, rfl⟩
  have hb0 : Below w.heap.size w w0 := by rw [hw0]; exact (Below.refl _ _).alloc (Nat.le_refl _) _
  rw [← hw0] at R0 ⊢
  clear hw0
  have HB0 := Lib.hid hb0
  refine wp_region_list ?_
  refine wpList_load_guard (by kernel_rfl) 27 (.tmp 1) rfl w.heap.size 0 rfl [.int .i64 k, .int .u64 (nn : Int), .int .u64 (ec : Int), .int .u64 (sq : Int), .slice na l.length nc, .int .i64 kd, .int .i64 fr, .int .i64 bk, .int .i64 tw, .int .i64 hm, .int .i64 hp, .int .u64 (sr : Int), .int .i64 cd, .string nm, .int .i64 id, .int .i64 at_, .string bd] _ R0 Tryz.underlying27 (by rfl) (by kernel_rfl) ?_
  (try simp only [Act.put, List.setIfInBounds_toArray, List.set_cons_zero, List.set_cons_succ, List.getElem_toArray, List.getElem_cons_succ, List.getElem_cons_zero])
  clear R0 hb0
  go_wp2_with (go_at_call 10; refine (HC2.out _ HB0.out).mono ?_; rintro e W1 ⟨rfl, hb1⟩)
  refine bodyPost_ret (v := .tuple #[.string ⟨#[]⟩, .int .i64 60]) (by simp [results, Tryz.results8, go_sem]) rfl ?_
  exact ⟨rfl, HB0.out.trans (hb1.mono HB0.out.size)⟩

set_option maxHeartbeats 4000000 in
theorem rEncode_bad (k : Int) (nn ec sq : Nat) (l : List Nw) (na : Option Addr) (nc : Nat) (kd fr bk tw hm hp : Int) (sr : Nat) (cd : Int) (nm : ByteArray) (id at_ : Int) (bd : ByteArray) (w : World)
    (HC : ∀ W, Below w.heap.size w W → Calls Tryz.prog 11 #[.agg #[.int .i64 k, .int .u64 (nn : Int), .int .u64 (ec : Int), .int .u64 (sq : Int), .slice na l.length nc, .int .i64 kd, .int .i64 fr, .int .i64 bk, .int .i64 tw, .int .i64 hm, .int .i64 hp, .int .u64 (sr : Int), .int .i64 cd, .string nm, .int .i64 id, .int .i64 at_, .string bd]] W fun e w' => e = .returned (.int .i64 60) ∧ Below W.heap.size W w') :
    Calls Tryz.prog 9 #[.agg #[.int .i64 k, .int .u64 (nn : Int), .int .u64 (ec : Int), .int .u64 (sq : Int), .slice na l.length nc, .int .i64 kd, .int .i64 fr, .int .i64 bk, .int .i64 tw, .int .i64 hm, .int .i64 hp, .int .u64 (sr : Int), .int .i64 cd, .string nm, .int .i64 id, .int .i64 at_, .string bd]] w fun e w' => e = .returned (.tuple #[.string ⟨#[]⟩, .int .i64 60]) ∧ Below w.heap.size w w' := by
  have HC2 := Lib.hid HC
  clear HC
  go_enter Tryz.func9, Tryz.ntmps9
  go_upto_region 1 with (fail)
  have R0 := range_ms w 27 (.int .i64 k) (.int .u64 (nn : Int)) (.int .u64 (ec : Int)) (.int .u64 (sq : Int)) (.slice na l.length nc) (.int .i64 kd) (.int .i64 fr) (.int .i64 bk) (.int .i64 tw) (.int .i64 hm) (.int .i64 hp) (.int .u64 (sr : Int)) (.int .i64 cd) (.string nm) (.int .i64 id) (.int .i64 at_) (.string bd)
  obtain ⟨w0, hw0⟩ : ∃ w0, w0 = w.alloc (.cells #[.int .i64 k, .int .u64 (nn : Int), .int .u64 (ec : Int), .int .u64 (sq : Int), .slice na l.length nc, .int .i64 kd, .int .i64 fr, .int .i64 bk, .int .i64 tw, .int .i64 hm, .int .i64 hp, .int .u64 (sr : Int), .int .i64 cd, .string nm, .int .i64 id, .int .i64 at_, .string bd] 27) := ⟨_, rfl⟩
  have hb0 : Below w.heap.size w w0 := by rw [hw0]; exact (Below.refl _ _).alloc (Nat.le_refl _) _
  rw [← hw0] at R0 ⊢
  clear hw0
  have HB0 := Lib.hid hb0
  refine wp_region_list ?_
  refine wpList_load_guard (by kernel_rfl) 27 (.tmp 1) rfl w.heap.size 0 rfl [.int .i64 k, .int .u64 (nn : Int), .int .u64 (ec : Int), .int .u64 (sq : Int), .slice na l.length nc, .int .i64 kd, .int .i64 fr, .int .i64 bk, .int .i64 tw, .int .i64 hm, .int .i64 hp, .int .u64 (sr : Int), .int .i64 cd, .string nm, .int .i64 id, .int .i64 at_, .string bd] _ R0 Tryz.underlying27 (by rfl) (by kernel_rfl) ?_
  (try simp only [Act.put, List.setIfInBounds_toArray, List.set_cons_zero, List.set_cons_succ, List.getElem_toArray, List.getElem_cons_succ, List.getElem_cons_zero])
  clear R0 hb0
  go_wp2_with (go_at_call 11; refine (HC2.out _ HB0.out).mono ?_; rintro e W1 ⟨rfl, hb1⟩)
  refine bodyPost_ret (v := .tuple #[.string ⟨#[]⟩, .int .i64 60]) (by simp [results, Tryz.results9, go_sem]) rfl ?_
  exact ⟨rfl, HB0.out.trans (hb1.mono HB0.out.size)⟩

/-- What a message's bytes are, or that it may not be. -/
def encM (m : Ms) : List UInt8 × Int := if mayB m then encSays (shp m.kind).data.toList (fldsOf m) else ([], 60)
theorem may_kind {m : Ms} (h : mayB m = true) : m.kind = 1 ∨ m.kind = 2 ∨ m.kind = 3 ∨ m.kind = 4 := by
  unfold mayB at h
  by_cases h1 : m.kind = 1
  · exact Or.inl h1
  by_cases h2 : m.kind = 2
  · exact Or.inr (Or.inl h2)
  by_cases h3 : m.kind = 3
  · exact Or.inr (Or.inr (Or.inl h3))
  by_cases h4 : m.kind = 4
  · exact Or.inr (Or.inr (Or.inr h4))
  simp [h1, h2, h3, h4] at h
theorem may_len {m : Ms} (h : mayB m = true) (hk : m.kind = 2) : m.news.length ≤ 512 := by
  unfold mayB at h
  rw [hk] at h
  simp only [show ((2 : Int) == 1) = false from rfl, show ((2 : Int) == 2) = true from rfl, if_true, Bool.and_eq_true, toldB, decide_eq_true_eq] at h
  simp at h
  exact h.1.2.1
theorem flds_len (m : Ms) : (fldsOf m).length < 4611686018427387904 := by
  unfold fldsOf
  split
  · simp
  · split
    · simp [pkFlds, pkNums]
    · split
      · simp
      · simp

theorem mEncode_any (k : Int) (nn ec sq : Nat) (l : List Nw) (na : Option Addr) (nc : Nat) (kd fr bk tw hm hp : Int) (sr : Nat) (cd : Int) (nm : ByteArray) (id at_ : Int) (bd : ByteArray) (w : World) (hg : Handle w) (hs : Shps w) (hin : NewsIn w w.heap.size l na) (hfit : Ms.Fit ⟨k, nn, ec, sq, l, ⟨kd, fr, bk, tw, hm, hp, sr, cd, nm, id, at_, bd⟩⟩) :
    Calls Tryz.prog 8 #[.agg #[.int .i64 k, .int .u64 (nn : Int), .int .u64 (ec : Int), .int .u64 (sq : Int), .slice na l.length nc, .int .i64 kd, .int .i64 fr, .int .i64 bk, .int .i64 tw, .int .i64 hm, .int .i64 hp, .int .u64 (sr : Int), .int .i64 cd, .string nm, .int .i64 id, .int .i64 at_, .string bd]] w fun e w' => e = .returned (.tuple #[.string ⟨(encM ⟨k, nn, ec, sq, l, ⟨kd, fr, bk, tw, hm, hp, sr, cd, nm, id, at_, bd⟩⟩).1.toArray⟩, .int .i64 (encM ⟨k, nn, ec, sq, l, ⟨kd, fr, bk, tw, hm, hp, sr, cd, nm, id, at_, bd⟩⟩).2]) ∧ Below w.heap.size w w' := by
  have hnm := hfit.nm
  have HC : ∀ W, Below w.heap.size w W → Calls Tryz.prog 10 #[.agg #[.int .i64 k, .int .u64 (nn : Int), .int .u64 (ec : Int), .int .u64 (sq : Int), .slice na l.length nc, .int .i64 kd, .int .i64 fr, .int .i64 bk, .int .i64 tw, .int .i64 hm, .int .i64 hp, .int .u64 (sr : Int), .int .i64 cd, .string nm, .int .i64 id, .int .i64 at_, .string bd]] W fun e w' => e = .returned (.int .i64 (if mayB ⟨k, nn, ec, sq, l, ⟨kd, fr, bk, tw, hm, hp, sr, cd, nm, id, at_, bd⟩⟩ then 0 else 60)) ∧ Below W.heap.size W w' := fun W h => mCheck_any k nn ec sq l na nc kd fr bk tw hm hp sr cd nm id at_ bd (by simp at hnm; omega) W (hin.kept (fun i hi => h.block i hi) h.size) hfit.news
  have hfine := fine_flds hfit
  have hlen := flds_len ⟨k, nn, ec, sq, l, ⟨kd, fr, bk, tw, hm, hp, sr, cd, nm, id, at_, bd⟩⟩
  cases hB : mayB ⟨k, nn, ec, sq, l, ⟨kd, fr, bk, tw, hm, hp, sr, cd, nm, id, at_, bd⟩⟩ with
  | false =>
    rw [show encM ⟨k, nn, ec, sq, l, ⟨kd, fr, bk, tw, hm, hp, sr, cd, nm, id, at_, bd⟩⟩ = ([], 60) by unfold encM; rw [hB]; rfl]
    rw [hB] at HC
    exact mEncode_bad k nn ec sq l na nc kd fr bk tw hm hp sr cd nm id at_ bd w HC
  | true =>
    rw [show encM ⟨k, nn, ec, sq, l, ⟨kd, fr, bk, tw, hm, hp, sr, cd, nm, id, at_, bd⟩⟩ = encSays (shp k).data.toList (fldsOf ⟨k, nn, ec, sq, l, ⟨kd, fr, bk, tw, hm, hp, sr, cd, nm, id, at_, bd⟩⟩) by unfold encM; rw [hB]; rfl]
    rw [hB] at HC
    have hk := may_kind hB
    have hln := fun e => may_len hB e
    simp only at hk hln
    rcases hk with rfl | rfl | rfl | rfl
    · exact mEncode_1 nn ec sq l na nc kd fr bk tw hm hp sr cd nm id at_ bd _ w hg hs hfine hlen HC (fun W h => mFlds_1 nn ec sq l na nc kd fr bk tw hm hp sr cd nm id at_ bd W)
    · exact mEncode_2 nn ec sq l na nc kd fr bk tw hm hp sr cd nm id at_ bd _ w hg hs hfine hlen HC (fun W h => mFlds_2 nn ec sq l na nc kd fr bk tw hm hp sr cd nm id at_ bd W (hin.kept (fun i hi => h.block i hi) h.size) (by have := hln rfl; omega))
    · exact mEncode_3 nn ec sq l na nc kd fr bk tw hm hp sr cd nm id at_ bd _ w hg hs hfine hlen HC (fun W h => mFlds_3 nn ec sq l na nc kd fr bk tw hm hp sr cd nm id at_ bd W)
    · exact mEncode_4 nn ec sq l na nc kd fr bk tw hm hp sr cd nm id at_ bd _ w hg hs hfine hlen HC (fun W h => mFlds_4 nn ec sq l na nc kd fr bk tw hm hp sr cd nm id at_ bd W)

theorem rEncode_any (k : Int) (nn ec sq : Nat) (l : List Nw) (na : Option Addr) (nc : Nat) (kd fr bk tw hm hp : Int) (sr : Nat) (cd : Int) (nm : ByteArray) (id at_ : Int) (bd : ByteArray) (w : World) (hin : NewsIn w w.heap.size l na) (hfit : Ms.Fit ⟨k, nn, ec, sq, l, ⟨kd, fr, bk, tw, hm, hp, sr, cd, nm, id, at_, bd⟩⟩) :
    Calls Tryz.prog 9 #[.agg #[.int .i64 k, .int .u64 (nn : Int), .int .u64 (ec : Int), .int .u64 (sq : Int), .slice na l.length nc, .int .i64 kd, .int .i64 fr, .int .i64 bk, .int .i64 tw, .int .i64 hm, .int .i64 hp, .int .u64 (sr : Int), .int .i64 cd, .string nm, .int .i64 id, .int .i64 at_, .string bd]] w fun e w' => e = .returned (.tuple #[.string ⟨(encM ⟨k, nn, ec, sq, l, ⟨kd, fr, bk, tw, hm, hp, sr, cd, nm, id, at_, bd⟩⟩).1.toArray⟩, .int .i64 (encM ⟨k, nn, ec, sq, l, ⟨kd, fr, bk, tw, hm, hp, sr, cd, nm, id, at_, bd⟩⟩).2]) ∧ Below w.heap.size w w' := by
  have hnm := hfit.nm
  have HC : ∀ W, Below w.heap.size w W → Calls Tryz.prog 11 #[.agg #[.int .i64 k, .int .u64 (nn : Int), .int .u64 (ec : Int), .int .u64 (sq : Int), .slice na l.length nc, .int .i64 kd, .int .i64 fr, .int .i64 bk, .int .i64 tw, .int .i64 hm, .int .i64 hp, .int .u64 (sr : Int), .int .i64 cd, .string nm, .int .i64 id, .int .i64 at_, .string bd]] W fun e w' => e = .returned (.int .i64 (if mayB ⟨k, nn, ec, sq, l, ⟨kd, fr, bk, tw, hm, hp, sr, cd, nm, id, at_, bd⟩⟩ then 0 else 60)) ∧ Below W.heap.size W w' := fun W h => rCheck_any k nn ec sq l na nc kd fr bk tw hm hp sr cd nm id at_ bd (by simp at hnm; omega) W (hin.kept (fun i hi => h.block i hi) h.size) hfit.news hfit.len
  have hfine := fine_flds hfit
  have hlen := flds_len ⟨k, nn, ec, sq, l, ⟨kd, fr, bk, tw, hm, hp, sr, cd, nm, id, at_, bd⟩⟩
  cases hB : mayB ⟨k, nn, ec, sq, l, ⟨kd, fr, bk, tw, hm, hp, sr, cd, nm, id, at_, bd⟩⟩ with
  | false =>
    rw [show encM ⟨k, nn, ec, sq, l, ⟨kd, fr, bk, tw, hm, hp, sr, cd, nm, id, at_, bd⟩⟩ = ([], 60) by unfold encM; rw [hB]; rfl]
    rw [hB] at HC
    exact rEncode_bad k nn ec sq l na nc kd fr bk tw hm hp sr cd nm id at_ bd w HC
  | true =>
    rw [show encM ⟨k, nn, ec, sq, l, ⟨kd, fr, bk, tw, hm, hp, sr, cd, nm, id, at_, bd⟩⟩ = encSays (shp k).data.toList (fldsOf ⟨k, nn, ec, sq, l, ⟨kd, fr, bk, tw, hm, hp, sr, cd, nm, id, at_, bd⟩⟩) by unfold encM; rw [hB]; rfl]
    rw [hB] at HC
    have hk := may_kind hB
    have hln := fun e => may_len hB e
    simp only at hk hln
    rcases hk with rfl | rfl | rfl | rfl
    · exact rEncode_1 nn ec sq l na nc kd fr bk tw hm hp sr cd nm id at_ bd _ w hfine HC (fun W h => rFlds_1 nn ec sq l na nc kd fr bk tw hm hp sr cd nm id at_ bd W)
    · exact rEncode_2 nn ec sq l na nc kd fr bk tw hm hp sr cd nm id at_ bd _ w hfine HC (fun W h => rFlds_2 nn ec sq l na nc kd fr bk tw hm hp sr cd nm id at_ bd W (hin.kept (fun i hi => h.block i hi) h.size) (by have := hln rfl; omega))
    · exact rEncode_3 nn ec sq l na nc kd fr bk tw hm hp sr cd nm id at_ bd _ w hfine HC (fun W h => rFlds_3 nn ec sq l na nc kd fr bk tw hm hp sr cd nm id at_ bd W)
    · exact rEncode_4 nn ec sq l na nc kd fr bk tw hm hp sr cd nm id at_ bd _ w hfine HC (fun W h => rFlds_4 nn ec sq l na nc kd fr bk tw hm hp sr cd nm id at_ bd W)
end Go.Proofs.YtidfgjgbigedeaaGreatDoor
