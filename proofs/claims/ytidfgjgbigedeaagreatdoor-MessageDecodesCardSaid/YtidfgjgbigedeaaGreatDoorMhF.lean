/- Messages: the program's Encode. -/
import Derived.Test.YtidfgjgbigedeaaGreatDoorMhA
import Derived.Test.YtidfgjgbigedeaaGreatDoorWpH
import Derived.Test.YtidfgjgbigedeaaGreatDoorMgJ
namespace Go.Proofs.YtidfgjgbigedeaaGreatDoor
open Go.RowKit Go.Lib Go.Wq Go.Mq
set_option linter.unusedVariables false
set_option linter.unusedSimpArgs false
set_option maxRecDepth 100000

theorem take_load {ev : Operand → Value} {op : Oper} (ty : TypeId) (x : Operand) (ho : op.op = .load ty x) (b o : Nat) (hx : ev x = .pointer (some ⟨b, o, none⟩)) (cs : List Value) {d : TypeDesc} (hu : Tryz.prog.underlying ty = some d) (W : World) (hc : W.rangeAt b o cs) (hq : true = true)
    (hd : d.isRow = true) (hi : (Tryz.prog.info? ty).map (·.size) = some cs.length) : (execOp ev op).run Tryz.prog W = .ok (.value (.agg cs.toArray)) W := by
  unfold execOp
  simp only [ho, hx, run_loadAt_mid W b o ty cs d hc hu hd hi, Sem.run_bind, Sem.run_pure, Result.andThen_ok]

/-- The variable shapes holds what it was laid with. -/
def Shps (w : World) : Prop := 0 < w.heap.size ∧ w.cell? ⟨0, 1, none⟩ = some (.string (shp 1)) ∧ w.cell? ⟨0, 2, none⟩ = some (.string (shp 2)) ∧ w.cell? ⟨0, 3, none⟩ = some (.string (shp 3)) ∧ w.cell? ⟨0, 4, none⟩ = some (.string (shp 4))
theorem Shps.below {w w' : World} (h : Shps w) (b : Below w.heap.size w w') : Shps w' :=
  ⟨Nat.lt_of_lt_of_le h.1 b.size, (b.cell (p := ⟨0, 1, none⟩) h.1).trans h.2.1, (b.cell (p := ⟨0, 2, none⟩) h.1).trans h.2.2.1, (b.cell (p := ⟨0, 3, none⟩) h.1).trans h.2.2.2.1, (b.cell (p := ⟨0, 4, none⟩) h.1).trans h.2.2.2.2⟩

set_option maxHeartbeats 4000000 in
theorem mEncode_1 (nn ec sq : Nat) (l : List Nw) (na : Option Addr) (nc : Nat) (kd fr bk tw hm hp : Int) (sr : Nat) (cd : Int) (nm : ByteArray) (id at_ : Int) (bd : ByteArray) (fs : List Fld) (w : World) (hg : Handle w) (hs : Shps w) (hfine : ∀ y ∈ fs, Fine y) (hlen : fs.length < 4611686018427387904)
    (HC : ∀ W, Below w.heap.size w W → Calls Tryz.prog 10 #[.agg #[.int .i64 1, .int .u64 (nn : Int), .int .u64 (ec : Int), .int .u64 (sq : Int), .slice na l.length nc, .int .i64 kd, .int .i64 fr, .int .i64 bk, .int .i64 tw, .int .i64 hm, .int .i64 hp, .int .u64 (sr : Int), .int .i64 cd, .string nm, .int .i64 id, .int .i64 at_, .string bd]] W fun e w' => e = .returned (.int .i64 0) ∧ Below W.heap.size W w')
    (HF : ∀ W, Below w.heap.size w W → Calls Tryz.prog 19 #[.agg #[.int .i64 1, .int .u64 (nn : Int), .int .u64 (ec : Int), .int .u64 (sq : Int), .slice na l.length nc, .int .i64 kd, .int .i64 fr, .int .i64 bk, .int .i64 tw, .int .i64 hm, .int .i64 hp, .int .u64 (sr : Int), .int .i64 cd, .string nm, .int .i64 id, .int .i64 at_, .string bd]] W (FldsEnds fs W)) :
    Calls Tryz.prog 8 #[.agg #[.int .i64 1, .int .u64 (nn : Int), .int .u64 (ec : Int), .int .u64 (sq : Int), .slice na l.length nc, .int .i64 kd, .int .i64 fr, .int .i64 bk, .int .i64 tw, .int .i64 hm, .int .i64 hp, .int .u64 (sr : Int), .int .i64 cd, .string nm, .int .i64 id, .int .i64 at_, .string bd]] w fun e w' => e = .returned (.tuple #[.string ⟨(encSays (shp 1).data.toList fs).1.toArray⟩, .int .i64 (encSays (shp 1).data.toList fs).2]) ∧ Below w.heap.size w w' := by
  have HC2 := Lib.hid HC
  have HF2 := Lib.hid HF
  have HE := Lib.hid (fun (W : World) (a : Option Addr) (c : Nat) (hb : Below w.heap.size w W) (hfs : FldsIn W W.heap.size fs a fs.length) => wireEncode_any (shp 1) (by decide) fs a c W (hg.below hb) hfs hfine hlen)
  have HS := Lib.hid hs
  generalize (encSays (shp 1).data.toList fs).2 = code at *
  generalize (encSays (shp 1).data.toList fs).1.toArray = bytes at *
  clear HC HF hg hs hfine hlen
  go_enter Tryz.func8, Tryz.ntmps8
  go_upto_region 1 with (fail)
  have R0 := range_ms w 27 (.int .i64 1) (.int .u64 (nn : Int)) (.int .u64 (ec : Int)) (.int .u64 (sq : Int)) (.slice na l.length nc) (.int .i64 kd) (.int .i64 fr) (.int .i64 bk) (.int .i64 tw) (.int .i64 hm) (.int .i64 hp) (.int .u64 (sr : Int)) (.int .i64 cd) (.string nm) (.int .i64 id) (.int .i64 at_) (.string bd)
  obtain ⟨w0, hw0⟩ : ∃ w0, w0 = w.alloc (.cells #[.int .i64 1, .int .u64 (nn : Int), .int .u64 (ec : Int), .int .u64 (sq : Int), .slice na l.length nc, .int .i64 kd, .int .i64 fr, .int .i64 bk, .int .i64 tw, .int .i64 hm, .int .i64 hp, .int .u64 (sr : Int), .int .i64 cd, .string nm, .int .i64 id, .int .i64 at_, .string bd] 27) := ⟨_, rfl⟩
  have hb0 : Below w.heap.size w w0 := by rw [hw0]; exact (Below.refl _ _).alloc (Nat.le_refl _) _
  have hs0 : w.heap.size < w0.heap.size := by rw [hw0]; simp
  rw [← hw0] at R0 ⊢
  have k0 : w0.cell? ⟨w.heap.size, 0, none⟩ = some (.int .i64 1) := by rw [hw0]; simp [go_sem]
  clear hw0
  have HR0 := Lib.hid R0
  have HB0 := Lib.hid hb0
  refine wp_region_list ?_
  refine wpList_load_guard (by kernel_rfl) 27 (.tmp 1) rfl w.heap.size 0 rfl [.int .i64 1, .int .u64 (nn : Int), .int .u64 (ec : Int), .int .u64 (sq : Int), .slice na l.length nc, .int .i64 kd, .int .i64 fr, .int .i64 bk, .int .i64 tw, .int .i64 hm, .int .i64 hp, .int .u64 (sr : Int), .int .i64 cd, .string nm, .int .i64 id, .int .i64 at_, .string bd] _ R0 Tryz.underlying27 (by rfl) (by kernel_rfl) ?_
  (try simp only [Act.put, List.setIfInBounds_toArray, List.set_cons_zero, List.set_cons_succ, List.getElem_toArray, List.getElem_cons_succ, List.getElem_cons_zero])
  clear R0 hb0
  go_upto_region 4 with (go_at_call 10; refine (HC2.out _ HB0.out).mono ?_; rintro e W1 ⟨rfl, hb1⟩)
  have hs1 : w.heap.size < W1.heap.size := Nat.lt_of_lt_of_le hs0 hb1.size
  have HB1 := Lib.hid (HB0.out.trans (hb1.mono HB0.out.size))
  have HS1 := Lib.hid (HS.out.below HB1.out)
  have KR : ∀ W, Below W1.heap.size W1 W → W.rangeAt w.heap.size 0 [.int .i64 1, .int .u64 (nn : Int), .int .u64 (ec : Int), .int .u64 (sq : Int), .slice na l.length nc, .int .i64 kd, .int .i64 fr, .int .i64 bk, .int .i64 tw, .int .i64 hm, .int .i64 hp, .int .u64 (sr : Int), .int .i64 cd, .string nm, .int .i64 id, .int .i64 at_, .string bd] := fun W h => range_next (range_next HR0.out hs0 hb1) hs1 h
  have KA : ∀ W, Below W1.heap.size W1 W → W.cell? ⟨w.heap.size, 0, none⟩ = some (.int .i64 1) ∧ W.cell? ⟨0, 1, none⟩ = some (.string (shp 1)) := fun W h => ⟨KR W h 0 _ rfl, (HS1.out.below h).2.1⟩
  clear hb1 k0
  refine wp_region_held_drew (S := fun w' => Below W1.heap.size W1 w') (by kernel_rfl) (Below.drew (Below.refl _ _)) (fun hHeld => ?_)
  have hbd := hHeld
  refine wpAnyH_take (i := 0) (oi := _) (v := ?_) rfl (by kernel_rfl) (by kernel_rfl) (by kernel_rfl) (fun _ _ _ h => h) (Or.inl ⟨by rfl, ?_⟩) (by assumption) ?_
  rotate_left
  · intro W hSw
    obtain ⟨k0, k1⟩ := KA W hSw
    go_simp
    try with_reducible rfl
  (try simp only [Act.put, List.setIfInBounds_toArray, List.set_cons_zero, List.set_cons_succ, List.getElem_toArray, List.getElem_cons_succ, List.getElem_cons_zero])
  refine wpAnyH_take (i := 1) (oi := _) (v := ?_) rfl (by kernel_rfl) (by kernel_rfl) (by kernel_rfl) (fun _ _ _ h => h) (Or.inl ⟨by rfl, ?_⟩) (by assumption) ?_
  rotate_left
  · intro W hSw
    obtain ⟨k0, k1⟩ := KA W hSw
    go_simp
    try with_reducible rfl
  (try simp only [Act.put, List.setIfInBounds_toArray, List.set_cons_zero, List.set_cons_succ, List.getElem_toArray, List.getElem_cons_succ, List.getElem_cons_zero])
  refine wpAnyH_take (i := 2) (oi := _) (v := ?_) rfl (by kernel_rfl) (by kernel_rfl) (by kernel_rfl) (fun _ _ _ h => h) (Or.inl ⟨by rfl, ?_⟩) (by assumption) ?_
  rotate_left
  · intro W hSw
    obtain ⟨k0, k1⟩ := KA W hSw
    go_simp
    try with_reducible rfl
  (try simp only [Act.put, List.setIfInBounds_toArray, List.set_cons_zero, List.set_cons_succ, List.getElem_toArray, List.getElem_cons_succ, List.getElem_cons_zero])
  refine wpAnyH_take (i := 3) (oi := _) (v := ?_) rfl (by kernel_rfl) (by kernel_rfl) (by kernel_rfl) (fun _ _ _ h => h) (Or.inl ⟨by rfl, ?_⟩) (by assumption) ?_
  rotate_left
  · intro W hSw
    obtain ⟨k0, k1⟩ := KA W hSw
    go_simp
    try with_reducible rfl
  (try simp only [Act.put, List.setIfInBounds_toArray, List.set_cons_zero, List.set_cons_succ, List.getElem_toArray, List.getElem_cons_succ, List.getElem_cons_zero])
  refine wpAnyH_take (i := 4) (oi := _) (v := .agg #[.int .i64 1, .int .u64 (nn : Int), .int .u64 (ec : Int), .int .u64 (sq : Int), .slice na l.length nc, .int .i64 kd, .int .i64 fr, .int .i64 bk, .int .i64 tw, .int .i64 hm, .int .i64 hp, .int .u64 (sr : Int), .int .i64 cd, .string nm, .int .i64 id, .int .i64 at_, .string bd]) rfl (by kernel_rfl) (by kernel_rfl) (by kernel_rfl) (fun _ _ _ h => h) (Or.inl ⟨by rfl, ?_⟩) (by assumption) ?_
  · intro W hSw
    have R1 := KR W hSw
    exact take_load 27 (.tmp 1) rfl w.heap.size 0 rfl _ Tryz.underlying27 W R1 rfl (by rfl) (by kernel_rfl)
  (try simp only [Act.put, List.setIfInBounds_toArray, List.set_cons_zero, List.set_cons_succ, List.getElem_toArray, List.getElem_cons_succ, List.getElem_cons_zero])
  refine wpAnyH_ready (rs := [5]) (by kernel_rfl) (by simp) ?_
  refine AllReadyH.cons (o := _) rfl (fun K hK => ?_) AllReadyH.nil
  go_simp
  refine (HF2.out _ (HB1.out.drew)).mono ?_
  rintro e w3 ⟨a3, c3, rfl, hf3, hb3⟩
  have HBA := Lib.hid (below_nx hbd hb3)
  have HF3 := Lib.hid hf3
  clear hb3 hf3
  go_wp2_with fail
  refine hK.out _ _ HBA.out (fun hHeld => ?_)
  clear hK K
  (try simp only [Act.put, List.setIfInBounds_toArray, List.set_cons_zero, List.set_cons_succ, List.getElem_toArray, List.getElem_cons_succ, List.getElem_cons_zero])
  refine wpAnyH_ready (rs := [6]) (by kernel_rfl) (by simp) ?_
  refine AllReadyH.cons (o := _) rfl (fun K hK => ?_) AllReadyH.nil
  go_simp
  refine (HE.out w3 a3 c3 (HB1.out.trans (HBA.out.mono (Nat.le_of_lt hs1))) HF3.out).mono ?_
  rintro e w4 ⟨rfl, hb4⟩
  have HBB := Lib.hid (below_nx HBA.out hb4)
  clear hb4
  go_wp2_with fail
  refine hK.out _ _ HBB.out (fun hHeld => ?_)
  clear hK K
  (try simp only [Act.put, List.setIfInBounds_toArray, List.set_cons_zero, List.set_cons_succ, List.getElem_toArray, List.getElem_cons_succ, List.getElem_cons_zero])
  refine wpAnyH_take (i := 7) (oi := _) (v := ?_) rfl (by kernel_rfl) (by kernel_rfl) (by kernel_rfl) (fun _ _ _ h => h) (Or.inl ⟨by rfl, ?_⟩) (by assumption) ?_
  rotate_left
  · intro W hSw
    go_simp
    try with_reducible rfl
  (try simp only [Act.put, List.setIfInBounds_toArray, List.set_cons_zero, List.set_cons_succ, List.getElem_toArray, List.getElem_cons_succ, List.getElem_cons_zero])
  refine wpAnyH_take (i := 8) (oi := _) (v := ?_) rfl (by kernel_rfl) (by kernel_rfl) (by kernel_rfl) (fun _ _ _ h => h) (Or.inl ⟨by rfl, ?_⟩) (by assumption) ?_
  rotate_left
  · intro W hSw
    go_simp
    try with_reducible rfl
  (try simp only [Act.put, List.setIfInBounds_toArray, List.set_cons_zero, List.set_cons_succ, List.getElem_toArray, List.getElem_cons_succ, List.getElem_cons_zero])
  refine wpAnyH_take (i := 9) (oi := _) (v := ?_) rfl (by kernel_rfl) (by kernel_rfl) (by kernel_rfl) (fun _ _ _ h => h) (Or.inl ⟨by rfl, ?_⟩) (by assumption) ?_
  rotate_left
  · intro W hSw
    go_simp
    try with_reducible rfl
  (try simp only [Act.put, List.setIfInBounds_toArray, List.set_cons_zero, List.set_cons_succ, List.getElem_toArray, List.getElem_cons_succ, List.getElem_cons_zero])
  refine wpAnyH_take (i := 10) (oi := _) (v := ?_) rfl (by kernel_rfl) (by kernel_rfl) (by kernel_rfl) (fun _ _ _ h => h) (Or.inl ⟨by rfl, ?_⟩) (by assumption) ?_
  rotate_left
  · intro W hSw
    go_simp
    try with_reducible rfl
  (try simp only [Act.put, List.setIfInBounds_toArray, List.set_cons_zero, List.set_cons_succ, List.getElem_toArray, List.getElem_cons_succ, List.getElem_cons_zero])
  refine wpAnyH_done (by kernel_rfl) ?_ _
  go_wp2_with fail
  refine bodyPost_ret (v := .tuple #[.string ⟨bytes⟩, .int .i64 code]) (by simp [results, Tryz.results8, go_sem]) rfl ?_
  exact ⟨rfl, HB1.out.trans (HBB.out.mono (Nat.le_of_lt hs1))⟩

set_option maxHeartbeats 4000000 in
theorem mEncode_2 (nn ec sq : Nat) (l : List Nw) (na : Option Addr) (nc : Nat) (kd fr bk tw hm hp : Int) (sr : Nat) (cd : Int) (nm : ByteArray) (id at_ : Int) (bd : ByteArray) (fs : List Fld) (w : World) (hg : Handle w) (hs : Shps w) (hfine : ∀ y ∈ fs, Fine y) (hlen : fs.length < 4611686018427387904)
    (HC : ∀ W, Below w.heap.size w W → Calls Tryz.prog 10 #[.agg #[.int .i64 2, .int .u64 (nn : Int), .int .u64 (ec : Int), .int .u64 (sq : Int), .slice na l.length nc, .int .i64 kd, .int .i64 fr, .int .i64 bk, .int .i64 tw, .int .i64 hm, .int .i64 hp, .int .u64 (sr : Int), .int .i64 cd, .string nm, .int .i64 id, .int .i64 at_, .string bd]] W fun e w' => e = .returned (.int .i64 0) ∧ Below W.heap.size W w')
    (HF : ∀ W, Below w.heap.size w W → Calls Tryz.prog 19 #[.agg #[.int .i64 2, .int .u64 (nn : Int), .int .u64 (ec : Int), .int .u64 (sq : Int), .slice na l.length nc, .int .i64 kd, .int .i64 fr, .int .i64 bk, .int .i64 tw, .int .i64 hm, .int .i64 hp, .int .u64 (sr : Int), .int .i64 cd, .string nm, .int .i64 id, .int .i64 at_, .string bd]] W (FldsEnds fs W)) :
    Calls Tryz.prog 8 #[.agg #[.int .i64 2, .int .u64 (nn : Int), .int .u64 (ec : Int), .int .u64 (sq : Int), .slice na l.length nc, .int .i64 kd, .int .i64 fr, .int .i64 bk, .int .i64 tw, .int .i64 hm, .int .i64 hp, .int .u64 (sr : Int), .int .i64 cd, .string nm, .int .i64 id, .int .i64 at_, .string bd]] w fun e w' => e = .returned (.tuple #[.string ⟨(encSays (shp 2).data.toList fs).1.toArray⟩, .int .i64 (encSays (shp 2).data.toList fs).2]) ∧ Below w.heap.size w w' := by
  have HC2 := Lib.hid HC
  have HF2 := Lib.hid HF
  have HE := Lib.hid (fun (W : World) (a : Option Addr) (c : Nat) (hb : Below w.heap.size w W) (hfs : FldsIn W W.heap.size fs a fs.length) => wireEncode_any (shp 2) (by decide) fs a c W (hg.below hb) hfs hfine hlen)
  have HS := Lib.hid hs
  generalize (encSays (shp 2).data.toList fs).2 = code at *
  generalize (encSays (shp 2).data.toList fs).1.toArray = bytes at *
  clear HC HF hg hs hfine hlen
  go_enter Tryz.func8, Tryz.ntmps8
  go_upto_region 1 with (fail)
  have R0 := range_ms w 27 (.int .i64 2) (.int .u64 (nn : Int)) (.int .u64 (ec : Int)) (.int .u64 (sq : Int)) (.slice na l.length nc) (.int .i64 kd) (.int .i64 fr) (.int .i64 bk) (.int .i64 tw) (.int .i64 hm) (.int .i64 hp) (.int .u64 (sr : Int)) (.int .i64 cd) (.string nm) (.int .i64 id) (.int .i64 at_) (.string bd)
  obtain ⟨w0, hw0⟩ : ∃ w0, w0 = w.alloc (.cells #[.int .i64 2, .int .u64 (nn : Int), .int .u64 (ec : Int), .int .u64 (sq : Int), .slice na l.length nc, .int .i64 kd, .int .i64 fr, .int .i64 bk, .int .i64 tw, .int .i64 hm, .int .i64 hp, .int .u64 (sr : Int), .int .i64 cd, .string nm, .int .i64 id, .int .i64 at_, .string bd] 27) := ⟨_, rfl⟩
  have hb0 : Below w.heap.size w w0 := by rw [hw0]; exact (Below.refl _ _).alloc (Nat.le_refl _) _
  have hs0 : w.heap.size < w0.heap.size := by rw [hw0]; simp
  rw [← hw0] at R0 ⊢
  have k0 : w0.cell? ⟨w.heap.size, 0, none⟩ = some (.int .i64 2) := by rw [hw0]; simp [go_sem]
  clear hw0
  have HR0 := Lib.hid R0
  have HB0 := Lib.hid hb0
  refine wp_region_list ?_
  refine wpList_load_guard (by kernel_rfl) 27 (.tmp 1) rfl w.heap.size 0 rfl [.int .i64 2, .int .u64 (nn : Int), .int .u64 (ec : Int), .int .u64 (sq : Int), .slice na l.length nc, .int .i64 kd, .int .i64 fr, .int .i64 bk, .int .i64 tw, .int .i64 hm, .int .i64 hp, .int .u64 (sr : Int), .int .i64 cd, .string nm, .int .i64 id, .int .i64 at_, .string bd] _ R0 Tryz.underlying27 (by rfl) (by kernel_rfl) ?_
  (try simp only [Act.put, List.setIfInBounds_toArray, List.set_cons_zero, List.set_cons_succ, List.getElem_toArray, List.getElem_cons_succ, List.getElem_cons_zero])
  clear R0 hb0
  go_upto_region 4 with (go_at_call 10; refine (HC2.out _ HB0.out).mono ?_; rintro e W1 ⟨rfl, hb1⟩)
  have hs1 : w.heap.size < W1.heap.size := Nat.lt_of_lt_of_le hs0 hb1.size
  have HB1 := Lib.hid (HB0.out.trans (hb1.mono HB0.out.size))
  have HS1 := Lib.hid (HS.out.below HB1.out)
  have KR : ∀ W, Below W1.heap.size W1 W → W.rangeAt w.heap.size 0 [.int .i64 2, .int .u64 (nn : Int), .int .u64 (ec : Int), .int .u64 (sq : Int), .slice na l.length nc, .int .i64 kd, .int .i64 fr, .int .i64 bk, .int .i64 tw, .int .i64 hm, .int .i64 hp, .int .u64 (sr : Int), .int .i64 cd, .string nm, .int .i64 id, .int .i64 at_, .string bd] := fun W h => range_next (range_next HR0.out hs0 hb1) hs1 h
  have KA : ∀ W, Below W1.heap.size W1 W → W.cell? ⟨w.heap.size, 0, none⟩ = some (.int .i64 2) ∧ W.cell? ⟨0, 2, none⟩ = some (.string (shp 2)) := fun W h => ⟨KR W h 0 _ rfl, (HS1.out.below h).2.2.1⟩
  clear hb1 k0
  refine wp_region_held_drew (S := fun w' => Below W1.heap.size W1 w') (by kernel_rfl) (Below.drew (Below.refl _ _)) (fun hHeld => ?_)
  have hbd := hHeld
  refine wpAnyH_take (i := 0) (oi := _) (v := ?_) rfl (by kernel_rfl) (by kernel_rfl) (by kernel_rfl) (fun _ _ _ h => h) (Or.inl ⟨by rfl, ?_⟩) (by assumption) ?_
  rotate_left
  · intro W hSw
    obtain ⟨k0, k1⟩ := KA W hSw
    go_simp
    try with_reducible rfl
  (try simp only [Act.put, List.setIfInBounds_toArray, List.set_cons_zero, List.set_cons_succ, List.getElem_toArray, List.getElem_cons_succ, List.getElem_cons_zero])
  refine wpAnyH_take (i := 1) (oi := _) (v := ?_) rfl (by kernel_rfl) (by kernel_rfl) (by kernel_rfl) (fun _ _ _ h => h) (Or.inl ⟨by rfl, ?_⟩) (by assumption) ?_
  rotate_left
  · intro W hSw
    obtain ⟨k0, k1⟩ := KA W hSw
    go_simp
    try with_reducible rfl
  (try simp only [Act.put, List.setIfInBounds_toArray, List.set_cons_zero, List.set_cons_succ, List.getElem_toArray, List.getElem_cons_succ, List.getElem_cons_zero])
  refine wpAnyH_take (i := 2) (oi := _) (v := ?_) rfl (by kernel_rfl) (by kernel_rfl) (by kernel_rfl) (fun _ _ _ h => h) (Or.inl ⟨by rfl, ?_⟩) (by assumption) ?_
  rotate_left
  · intro W hSw
    obtain ⟨k0, k1⟩ := KA W hSw
    go_simp
    try with_reducible rfl
  (try simp only [Act.put, List.setIfInBounds_toArray, List.set_cons_zero, List.set_cons_succ, List.getElem_toArray, List.getElem_cons_succ, List.getElem_cons_zero])
  refine wpAnyH_take (i := 3) (oi := _) (v := ?_) rfl (by kernel_rfl) (by kernel_rfl) (by kernel_rfl) (fun _ _ _ h => h) (Or.inl ⟨by rfl, ?_⟩) (by assumption) ?_
  rotate_left
  · intro W hSw
    obtain ⟨k0, k1⟩ := KA W hSw
    go_simp
    try with_reducible rfl
  (try simp only [Act.put, List.setIfInBounds_toArray, List.set_cons_zero, List.set_cons_succ, List.getElem_toArray, List.getElem_cons_succ, List.getElem_cons_zero])
  refine wpAnyH_take (i := 4) (oi := _) (v := .agg #[.int .i64 2, .int .u64 (nn : Int), .int .u64 (ec : Int), .int .u64 (sq : Int), .slice na l.length nc, .int .i64 kd, .int .i64 fr, .int .i64 bk, .int .i64 tw, .int .i64 hm, .int .i64 hp, .int .u64 (sr : Int), .int .i64 cd, .string nm, .int .i64 id, .int .i64 at_, .string bd]) rfl (by kernel_rfl) (by kernel_rfl) (by kernel_rfl) (fun _ _ _ h => h) (Or.inl ⟨by rfl, ?_⟩) (by assumption) ?_
  · intro W hSw
    have R1 := KR W hSw
    exact take_load 27 (.tmp 1) rfl w.heap.size 0 rfl _ Tryz.underlying27 W R1 rfl (by rfl) (by kernel_rfl)
  (try simp only [Act.put, List.setIfInBounds_toArray, List.set_cons_zero, List.set_cons_succ, List.getElem_toArray, List.getElem_cons_succ, List.getElem_cons_zero])
  refine wpAnyH_ready (rs := [5]) (by kernel_rfl) (by simp) ?_
  refine AllReadyH.cons (o := _) rfl (fun K hK => ?_) AllReadyH.nil
  go_simp
  refine (HF2.out _ (HB1.out.drew)).mono ?_
  rintro e w3 ⟨a3, c3, rfl, hf3, hb3⟩
  have HBA := Lib.hid (below_nx hbd hb3)
  have HF3 := Lib.hid hf3
  clear hb3 hf3
  go_wp2_with fail
  refine hK.out _ _ HBA.out (fun hHeld => ?_)
  clear hK K
  (try simp only [Act.put, List.setIfInBounds_toArray, List.set_cons_zero, List.set_cons_succ, List.getElem_toArray, List.getElem_cons_succ, List.getElem_cons_zero])
  refine wpAnyH_ready (rs := [6]) (by kernel_rfl) (by simp) ?_
  refine AllReadyH.cons (o := _) rfl (fun K hK => ?_) AllReadyH.nil
  go_simp
  refine (HE.out w3 a3 c3 (HB1.out.trans (HBA.out.mono (Nat.le_of_lt hs1))) HF3.out).mono ?_
  rintro e w4 ⟨rfl, hb4⟩
  have HBB := Lib.hid (below_nx HBA.out hb4)
  clear hb4
  go_wp2_with fail
  refine hK.out _ _ HBB.out (fun hHeld => ?_)
  clear hK K
  (try simp only [Act.put, List.setIfInBounds_toArray, List.set_cons_zero, List.set_cons_succ, List.getElem_toArray, List.getElem_cons_succ, List.getElem_cons_zero])
  refine wpAnyH_take (i := 7) (oi := _) (v := ?_) rfl (by kernel_rfl) (by kernel_rfl) (by kernel_rfl) (fun _ _ _ h => h) (Or.inl ⟨by rfl, ?_⟩) (by assumption) ?_
  rotate_left
  · intro W hSw
    go_simp
    try with_reducible rfl
  (try simp only [Act.put, List.setIfInBounds_toArray, List.set_cons_zero, List.set_cons_succ, List.getElem_toArray, List.getElem_cons_succ, List.getElem_cons_zero])
  refine wpAnyH_take (i := 8) (oi := _) (v := ?_) rfl (by kernel_rfl) (by kernel_rfl) (by kernel_rfl) (fun _ _ _ h => h) (Or.inl ⟨by rfl, ?_⟩) (by assumption) ?_
  rotate_left
  · intro W hSw
    go_simp
    try with_reducible rfl
  (try simp only [Act.put, List.setIfInBounds_toArray, List.set_cons_zero, List.set_cons_succ, List.getElem_toArray, List.getElem_cons_succ, List.getElem_cons_zero])
  refine wpAnyH_take (i := 9) (oi := _) (v := ?_) rfl (by kernel_rfl) (by kernel_rfl) (by kernel_rfl) (fun _ _ _ h => h) (Or.inl ⟨by rfl, ?_⟩) (by assumption) ?_
  rotate_left
  · intro W hSw
    go_simp
    try with_reducible rfl
  (try simp only [Act.put, List.setIfInBounds_toArray, List.set_cons_zero, List.set_cons_succ, List.getElem_toArray, List.getElem_cons_succ, List.getElem_cons_zero])
  refine wpAnyH_take (i := 10) (oi := _) (v := ?_) rfl (by kernel_rfl) (by kernel_rfl) (by kernel_rfl) (fun _ _ _ h => h) (Or.inl ⟨by rfl, ?_⟩) (by assumption) ?_
  rotate_left
  · intro W hSw
    go_simp
    try with_reducible rfl
  (try simp only [Act.put, List.setIfInBounds_toArray, List.set_cons_zero, List.set_cons_succ, List.getElem_toArray, List.getElem_cons_succ, List.getElem_cons_zero])
  refine wpAnyH_done (by kernel_rfl) ?_ _
  go_wp2_with fail
  refine bodyPost_ret (v := .tuple #[.string ⟨bytes⟩, .int .i64 code]) (by simp [results, Tryz.results8, go_sem]) rfl ?_
  exact ⟨rfl, HB1.out.trans (HBB.out.mono (Nat.le_of_lt hs1))⟩

set_option maxHeartbeats 4000000 in
theorem mEncode_3 (nn ec sq : Nat) (l : List Nw) (na : Option Addr) (nc : Nat) (kd fr bk tw hm hp : Int) (sr : Nat) (cd : Int) (nm : ByteArray) (id at_ : Int) (bd : ByteArray) (fs : List Fld) (w : World) (hg : Handle w) (hs : Shps w) (hfine : ∀ y ∈ fs, Fine y) (hlen : fs.length < 4611686018427387904)
    (HC : ∀ W, Below w.heap.size w W → Calls Tryz.prog 10 #[.agg #[.int .i64 3, .int .u64 (nn : Int), .int .u64 (ec : Int), .int .u64 (sq : Int), .slice na l.length nc, .int .i64 kd, .int .i64 fr, .int .i64 bk, .int .i64 tw, .int .i64 hm, .int .i64 hp, .int .u64 (sr : Int), .int .i64 cd, .string nm, .int .i64 id, .int .i64 at_, .string bd]] W fun e w' => e = .returned (.int .i64 0) ∧ Below W.heap.size W w')
    (HF : ∀ W, Below w.heap.size w W → Calls Tryz.prog 19 #[.agg #[.int .i64 3, .int .u64 (nn : Int), .int .u64 (ec : Int), .int .u64 (sq : Int), .slice na l.length nc, .int .i64 kd, .int .i64 fr, .int .i64 bk, .int .i64 tw, .int .i64 hm, .int .i64 hp, .int .u64 (sr : Int), .int .i64 cd, .string nm, .int .i64 id, .int .i64 at_, .string bd]] W (FldsEnds fs W)) :
    Calls Tryz.prog 8 #[.agg #[.int .i64 3, .int .u64 (nn : Int), .int .u64 (ec : Int), .int .u64 (sq : Int), .slice na l.length nc, .int .i64 kd, .int .i64 fr, .int .i64 bk, .int .i64 tw, .int .i64 hm, .int .i64 hp, .int .u64 (sr : Int), .int .i64 cd, .string nm, .int .i64 id, .int .i64 at_, .string bd]] w fun e w' => e = .returned (.tuple #[.string ⟨(encSays (shp 3).data.toList fs).1.toArray⟩, .int .i64 (encSays (shp 3).data.toList fs).2]) ∧ Below w.heap.size w w' := by
  have HC2 := Lib.hid HC
  have HF2 := Lib.hid HF
  have HE := Lib.hid (fun (W : World) (a : Option Addr) (c : Nat) (hb : Below w.heap.size w W) (hfs : FldsIn W W.heap.size fs a fs.length) => wireEncode_any (shp 3) (by decide) fs a c W (hg.below hb) hfs hfine hlen)
  have HS := Lib.hid hs
  generalize (encSays (shp 3).data.toList fs).2 = code at *
  generalize (encSays (shp 3).data.toList fs).1.toArray = bytes at *
  clear HC HF hg hs hfine hlen
  go_enter Tryz.func8, Tryz.ntmps8
  go_upto_region 1 with (fail)
  have R0 := range_ms w 27 (.int .i64 3) (.int .u64 (nn : Int)) (.int .u64 (ec : Int)) (.int .u64 (sq : Int)) (.slice na l.length nc) (.int .i64 kd) (.int .i64 fr) (.int .i64 bk) (.int .i64 tw) (.int .i64 hm) (.int .i64 hp) (.int .u64 (sr : Int)) (.int .i64 cd) (.string nm) (.int .i64 id) (.int .i64 at_) (.string bd)
  obtain ⟨w0, hw0⟩ : ∃ w0, w0 = w.alloc (.cells #[.int .i64 3, .int .u64 (nn : Int), .int .u64 (ec : Int), .int .u64 (sq : Int), .slice na l.length nc, .int .i64 kd, .int .i64 fr, .int .i64 bk, .int .i64 tw, .int .i64 hm, .int .i64 hp, .int .u64 (sr : Int), .int .i64 cd, .string nm, .int .i64 id, .int .i64 at_, .string bd] 27) := ⟨_, rfl⟩
  have hb0 : Below w.heap.size w w0 := by rw [hw0]; exact (Below.refl _ _).alloc (Nat.le_refl _) _
  have hs0 : w.heap.size < w0.heap.size := by rw [hw0]; simp
  rw [← hw0] at R0 ⊢
  have k0 : w0.cell? ⟨w.heap.size, 0, none⟩ = some (.int .i64 3) := by rw [hw0]; simp [go_sem]
  clear hw0
  have HR0 := Lib.hid R0
  have HB0 := Lib.hid hb0
  refine wp_region_list ?_
  refine wpList_load_guard (by kernel_rfl) 27 (.tmp 1) rfl w.heap.size 0 rfl [.int .i64 3, .int .u64 (nn : Int), .int .u64 (ec : Int), .int .u64 (sq : Int), .slice na l.length nc, .int .i64 kd, .int .i64 fr, .int .i64 bk, .int .i64 tw, .int .i64 hm, .int .i64 hp, .int .u64 (sr : Int), .int .i64 cd, .string nm, .int .i64 id, .int .i64 at_, .string bd] _ R0 Tryz.underlying27 (by rfl) (by kernel_rfl) ?_
  (try simp only [Act.put, List.setIfInBounds_toArray, List.set_cons_zero, List.set_cons_succ, List.getElem_toArray, List.getElem_cons_succ, List.getElem_cons_zero])
  clear R0 hb0
  go_upto_region 4 with (go_at_call 10; refine (HC2.out _ HB0.out).mono ?_; rintro e W1 ⟨rfl, hb1⟩)
  have hs1 : w.heap.size < W1.heap.size := Nat.lt_of_lt_of_le hs0 hb1.size
  have HB1 := Lib.hid (HB0.out.trans (hb1.mono HB0.out.size))
  have HS1 := Lib.hid (HS.out.below HB1.out)
  have KR : ∀ W, Below W1.heap.size W1 W → W.rangeAt w.heap.size 0 [.int .i64 3, .int .u64 (nn : Int), .int .u64 (ec : Int), .int .u64 (sq : Int), .slice na l.length nc, .int .i64 kd, .int .i64 fr, .int .i64 bk, .int .i64 tw, .int .i64 hm, .int .i64 hp, .int .u64 (sr : Int), .int .i64 cd, .string nm, .int .i64 id, .int .i64 at_, .string bd] := fun W h => range_next (range_next HR0.out hs0 hb1) hs1 h
  have KA : ∀ W, Below W1.heap.size W1 W → W.cell? ⟨w.heap.size, 0, none⟩ = some (.int .i64 3) ∧ W.cell? ⟨0, 3, none⟩ = some (.string (shp 3)) := fun W h => ⟨KR W h 0 _ rfl, (HS1.out.below h).2.2.2.1⟩
  clear hb1 k0
  refine wp_region_held_drew (S := fun w' => Below W1.heap.size W1 w') (by kernel_rfl) (Below.drew (Below.refl _ _)) (fun hHeld => ?_)
  have hbd := hHeld
  refine wpAnyH_take (i := 0) (oi := _) (v := ?_) rfl (by kernel_rfl) (by kernel_rfl) (by kernel_rfl) (fun _ _ _ h => h) (Or.inl ⟨by rfl, ?_⟩) (by assumption) ?_
  rotate_left
  · intro W hSw
    obtain ⟨k0, k1⟩ := KA W hSw
    go_simp
    try with_reducible rfl
  (try simp only [Act.put, List.setIfInBounds_toArray, List.set_cons_zero, List.set_cons_succ, List.getElem_toArray, List.getElem_cons_succ, List.getElem_cons_zero])
  refine wpAnyH_take (i := 1) (oi := _) (v := ?_) rfl (by kernel_rfl) (by kernel_rfl) (by kernel_rfl) (fun _ _ _ h => h) (Or.inl ⟨by rfl, ?_⟩) (by assumption) ?_
  rotate_left
  · intro W hSw
    obtain ⟨k0, k1⟩ := KA W hSw
    go_simp
    try with_reducible rfl
  (try simp only [Act.put, List.setIfInBounds_toArray, List.set_cons_zero, List.set_cons_succ, List.getElem_toArray, List.getElem_cons_succ, List.getElem_cons_zero])
  refine wpAnyH_take (i := 2) (oi := _) (v := ?_) rfl (by kernel_rfl) (by kernel_rfl) (by kernel_rfl) (fun _ _ _ h => h) (Or.inl ⟨by rfl, ?_⟩) (by assumption) ?_
  rotate_left
  · intro W hSw
    obtain ⟨k0, k1⟩ := KA W hSw
    go_simp
    try with_reducible rfl
  (try simp only [Act.put, List.setIfInBounds_toArray, List.set_cons_zero, List.set_cons_succ, List.getElem_toArray, List.getElem_cons_succ, List.getElem_cons_zero])
  refine wpAnyH_take (i := 3) (oi := _) (v := ?_) rfl (by kernel_rfl) (by kernel_rfl) (by kernel_rfl) (fun _ _ _ h => h) (Or.inl ⟨by rfl, ?_⟩) (by assumption) ?_
  rotate_left
  · intro W hSw
    obtain ⟨k0, k1⟩ := KA W hSw
    go_simp
    try with_reducible rfl
  (try simp only [Act.put, List.setIfInBounds_toArray, List.set_cons_zero, List.set_cons_succ, List.getElem_toArray, List.getElem_cons_succ, List.getElem_cons_zero])
  refine wpAnyH_take (i := 4) (oi := _) (v := .agg #[.int .i64 3, .int .u64 (nn : Int), .int .u64 (ec : Int), .int .u64 (sq : Int), .slice na l.length nc, .int .i64 kd, .int .i64 fr, .int .i64 bk, .int .i64 tw, .int .i64 hm, .int .i64 hp, .int .u64 (sr : Int), .int .i64 cd, .string nm, .int .i64 id, .int .i64 at_, .string bd]) rfl (by kernel_rfl) (by kernel_rfl) (by kernel_rfl) (fun _ _ _ h => h) (Or.inl ⟨by rfl, ?_⟩) (by assumption) ?_
  · intro W hSw
    have R1 := KR W hSw
    exact take_load 27 (.tmp 1) rfl w.heap.size 0 rfl _ Tryz.underlying27 W R1 rfl (by rfl) (by kernel_rfl)
  (try simp only [Act.put, List.setIfInBounds_toArray, List.set_cons_zero, List.set_cons_succ, List.getElem_toArray, List.getElem_cons_succ, List.getElem_cons_zero])
  refine wpAnyH_ready (rs := [5]) (by kernel_rfl) (by simp) ?_
  refine AllReadyH.cons (o := _) rfl (fun K hK => ?_) AllReadyH.nil
  go_simp
  refine (HF2.out _ (HB1.out.drew)).mono ?_
  rintro e w3 ⟨a3, c3, rfl, hf3, hb3⟩
  have HBA := Lib.hid (below_nx hbd hb3)
  have HF3 := Lib.hid hf3
  clear hb3 hf3
  go_wp2_with fail
  refine hK.out _ _ HBA.out (fun hHeld => ?_)
  clear hK K
  (try simp only [Act.put, List.setIfInBounds_toArray, List.set_cons_zero, List.set_cons_succ, List.getElem_toArray, List.getElem_cons_succ, List.getElem_cons_zero])
  refine wpAnyH_ready (rs := [6]) (by kernel_rfl) (by simp) ?_
  refine AllReadyH.cons (o := _) rfl (fun K hK => ?_) AllReadyH.nil
  go_simp
  refine (HE.out w3 a3 c3 (HB1.out.trans (HBA.out.mono (Nat.le_of_lt hs1))) HF3.out).mono ?_
  rintro e w4 ⟨rfl, hb4⟩
  have HBB := Lib.hid (below_nx HBA.out hb4)
  clear hb4
  go_wp2_with fail
  refine hK.out _ _ HBB.out (fun hHeld => ?_)
  clear hK K
  (try simp only [Act.put, List.setIfInBounds_toArray, List.set_cons_zero, List.set_cons_succ, List.getElem_toArray, List.getElem_cons_succ, List.getElem_cons_zero])
  refine wpAnyH_take (i := 7) (oi := _) (v := ?_) rfl (by kernel_rfl) (by kernel_rfl) (by kernel_rfl) (fun _ _ _ h => h) (Or.inl ⟨by rfl, ?_⟩) (by assumption) ?_
  rotate_left
  · intro W hSw
    go_simp
    try with_reducible rfl
  (try simp only [Act.put, List.setIfInBounds_toArray, List.set_cons_zero, List.set_cons_succ, List.getElem_toArray, List.getElem_cons_succ, List.getElem_cons_zero])
  refine wpAnyH_take (i := 8) (oi := _) (v := ?_) rfl (by kernel_rfl) (by kernel_rfl) (by kernel_rfl) (fun _ _ _ h => h) (Or.inl ⟨by rfl, ?_⟩) (by assumption) ?_
  rotate_left
  · intro W hSw
    go_simp
    try with_reducible rfl
  (try simp only [Act.put, List.setIfInBounds_toArray, List.set_cons_zero, List.set_cons_succ, List.getElem_toArray, List.getElem_cons_succ, List.getElem_cons_zero])
  refine wpAnyH_take (i := 9) (oi := _) (v := ?_) rfl (by kernel_rfl) (by kernel_rfl) (by kernel_rfl) (fun _ _ _ h => h) (Or.inl ⟨by rfl, ?_⟩) (by assumption) ?_
  rotate_left
  · intro W hSw
    go_simp
    try with_reducible rfl
  (try simp only [Act.put, List.setIfInBounds_toArray, List.set_cons_zero, List.set_cons_succ, List.getElem_toArray, List.getElem_cons_succ, List.getElem_cons_zero])
  refine wpAnyH_take (i := 10) (oi := _) (v := ?_) rfl (by kernel_rfl) (by kernel_rfl) (by kernel_rfl) (fun _ _ _ h => h) (Or.inl ⟨by rfl, ?_⟩) (by assumption) ?_
  rotate_left
  · intro W hSw
    go_simp
    try with_reducible rfl
  (try simp only [Act.put, List.setIfInBounds_toArray, List.set_cons_zero, List.set_cons_succ, List.getElem_toArray, List.getElem_cons_succ, List.getElem_cons_zero])
  refine wpAnyH_done (by kernel_rfl) ?_ _
  go_wp2_with fail
  refine bodyPost_ret (v := .tuple #[.string ⟨bytes⟩, .int .i64 code]) (by simp [results, Tryz.results8, go_sem]) rfl ?_
  exact ⟨rfl, HB1.out.trans (HBB.out.mono (Nat.le_of_lt hs1))⟩

set_option maxHeartbeats 4000000 in
theorem mEncode_4 (nn ec sq : Nat) (l : List Nw) (na : Option Addr) (nc : Nat) (kd fr bk tw hm hp : Int) (sr : Nat) (cd : Int) (nm : ByteArray) (id at_ : Int) (bd : ByteArray) (fs : List Fld) (w : World) (hg : Handle w) (hs : Shps w) (hfine : ∀ y ∈ fs, Fine y) (hlen : fs.length < 4611686018427387904)
    (HC : ∀ W, Below w.heap.size w W → Calls Tryz.prog 10 #[.agg #[.int .i64 4, .int .u64 (nn : Int), .int .u64 (ec : Int), .int .u64 (sq : Int), .slice na l.length nc, .int .i64 kd, .int .i64 fr, .int .i64 bk, .int .i64 tw, .int .i64 hm, .int .i64 hp, .int .u64 (sr : Int), .int .i64 cd, .string nm, .int .i64 id, .int .i64 at_, .string bd]] W fun e w' => e = .returned (.int .i64 0) ∧ Below W.heap.size W w')
    (HF : ∀ W, Below w.heap.size w W → Calls Tryz.prog 19 #[.agg #[.int .i64 4, .int .u64 (nn : Int), .int .u64 (ec : Int), .int .u64 (sq : Int), .slice na l.length nc, .int .i64 kd, .int .i64 fr, .int .i64 bk, .int .i64 tw, .int .i64 hm, .int .i64 hp, .int .u64 (sr : Int), .int .i64 cd, .string nm, .int .i64 id, .int .i64 at_, .string bd]] W (FldsEnds fs W)) :
    Calls Tryz.prog 8 #[.agg #[.int .i64 4, .int .u64 (nn : Int), .int .u64 (ec : Int), .int .u64 (sq : Int), .slice na l.length nc, .int .i64 kd, .int .i64 fr, .int .i64 bk, .int .i64 tw, .int .i64 hm, .int .i64 hp, .int .u64 (sr : Int), .int .i64 cd, .string nm, .int .i64 id, .int .i64 at_, .string bd]] w fun e w' => e = .returned (.tuple #[.string ⟨(encSays (shp 4).data.toList fs).1.toArray⟩, .int .i64 (encSays (shp 4).data.toList fs).2]) ∧ Below w.heap.size w w' := by
  have HC2 := Lib.hid HC
  have HF2 := Lib.hid HF
  have HE := Lib.hid (fun (W : World) (a : Option Addr) (c : Nat) (hb : Below w.heap.size w W) (hfs : FldsIn W W.heap.size fs a fs.length) => wireEncode_any (shp 4) (by decide) fs a c W (hg.below hb) hfs hfine hlen)
  have HS := Lib.hid hs
  generalize (encSays (shp 4).data.toList fs).2 = code at *
  generalize (encSays (shp 4).data.toList fs).1.toArray = bytes at *
  clear HC HF hg hs hfine hlen
  go_enter Tryz.func8, Tryz.ntmps8
  go_upto_region 1 with (fail)
  have R0 := range_ms w 27 (.int .i64 4) (.int .u64 (nn : Int)) (.int .u64 (ec : Int)) (.int .u64 (sq : Int)) (.slice na l.length nc) (.int .i64 kd) (.int .i64 fr) (.int .i64 bk) (.int .i64 tw) (.int .i64 hm) (.int .i64 hp) (.int .u64 (sr : Int)) (.int .i64 cd) (.string nm) (.int .i64 id) (.int .i64 at_) (.string bd)
  obtain ⟨w0, hw0⟩ : ∃ w0, w0 = w.alloc (.cells #[.int .i64 4, .int .u64 (nn : Int), .int .u64 (ec : Int), .int .u64 (sq : Int), .slice na l.length nc, .int .i64 kd, .int .i64 fr, .int .i64 bk, .int .i64 tw, .int .i64 hm, .int .i64 hp, .int .u64 (sr : Int), .int .i64 cd, .string nm, .int .i64 id, .int .i64 at_, .string bd] 27) := ⟨_, rfl⟩
  have hb0 : Below w.heap.size w w0 := by rw [hw0]; exact (Below.refl _ _).alloc (Nat.le_refl _) _
  have hs0 : w.heap.size < w0.heap.size := by rw [hw0]; simp
  rw [← hw0] at R0 ⊢
  have k0 : w0.cell? ⟨w.heap.size, 0, none⟩ = some (.int .i64 4) := by rw [hw0]; simp [go_sem]
  clear hw0
  have HR0 := Lib.hid R0
  have HB0 := Lib.hid hb0
  refine wp_region_list ?_
  refine wpList_load_guard (by kernel_rfl) 27 (.tmp 1) rfl w.heap.size 0 rfl [.int .i64 4, .int .u64 (nn : Int), .int .u64 (ec : Int), .int .u64 (sq : Int), .slice na l.length nc, .int .i64 kd, .int .i64 fr, .int .i64 bk, .int .i64 tw, .int .i64 hm, .int .i64 hp, .int .u64 (sr : Int), .int .i64 cd, .string nm, .int .i64 id, .int .i64 at_, .string bd] _ R0 Tryz.underlying27 (by rfl) (by kernel_rfl) ?_
  (try simp only [Act.put, List.setIfInBounds_toArray, List.set_cons_zero, List.set_cons_succ, List.getElem_toArray, List.getElem_cons_succ, List.getElem_cons_zero])
  clear R0 hb0
  go_upto_region 4 with (go_at_call 10; refine (HC2.out _ HB0.out).mono ?_; rintro e W1 ⟨rfl, hb1⟩)
  have hs1 : w.heap.size < W1.heap.size := Nat.lt_of_lt_of_le hs0 hb1.size
  have HB1 := Lib.hid (HB0.out.trans (hb1.mono HB0.out.size))
  have HS1 := Lib.hid (HS.out.below HB1.out)
  have KR : ∀ W, Below W1.heap.size W1 W → W.rangeAt w.heap.size 0 [.int .i64 4, .int .u64 (nn : Int), .int .u64 (ec : Int), .int .u64 (sq : Int), .slice na l.length nc, .int .i64 kd, .int .i64 fr, .int .i64 bk, .int .i64 tw, .int .i64 hm, .int .i64 hp, .int .u64 (sr : Int), .int .i64 cd, .string nm, .int .i64 id, .int .i64 at_, .string bd] := fun W h => range_next (range_next HR0.out hs0 hb1) hs1 h
  have KA : ∀ W, Below W1.heap.size W1 W → W.cell? ⟨w.heap.size, 0, none⟩ = some (.int .i64 4) ∧ W.cell? ⟨0, 4, none⟩ = some (.string (shp 4)) := fun W h => ⟨KR W h 0 _ rfl, (HS1.out.below h).2.2.2.2⟩
  clear hb1 k0
  refine wp_region_held_drew (S := fun w' => Below W1.heap.size W1 w') (by kernel_rfl) (Below.drew (Below.refl _ _)) (fun hHeld => ?_)
  have hbd := hHeld
  refine wpAnyH_take (i := 0) (oi := _) (v := ?_) rfl (by kernel_rfl) (by kernel_rfl) (by kernel_rfl) (fun _ _ _ h => h) (Or.inl ⟨by rfl, ?_⟩) (by assumption) ?_
  rotate_left
  · intro W hSw
    obtain ⟨k0, k1⟩ := KA W hSw
    go_simp
    try with_reducible rfl
  (try simp only [Act.put, List.setIfInBounds_toArray, List.set_cons_zero, List.set_cons_succ, List.getElem_toArray, List.getElem_cons_succ, List.getElem_cons_zero])
  refine wpAnyH_take (i := 1) (oi := _) (v := ?_) rfl (by kernel_rfl) (by kernel_rfl) (by kernel_rfl) (fun _ _ _ h => h) (Or.inl ⟨by rfl, ?_⟩) (by assumption) ?_
  rotate_left
  · intro W hSw
    obtain ⟨k0, k1⟩ := KA W hSw
    go_simp
    try with_reducible rfl
  (try simp only [Act.put, List.setIfInBounds_toArray, List.set_cons_zero, List.set_cons_succ, List.getElem_toArray, List.getElem_cons_succ, List.getElem_cons_zero])
  refine wpAnyH_take (i := 2) (oi := _) (v := ?_) rfl (by kernel_rfl) (by kernel_rfl) (by kernel_rfl) (fun _ _ _ h => h) (Or.inl ⟨by rfl, ?_⟩) (by assumption) ?_
  rotate_left
  · intro W hSw
    obtain ⟨k0, k1⟩ := KA W hSw
    go_simp
    try with_reducible rfl
  (try simp only [Act.put, List.setIfInBounds_toArray, List.set_cons_zero, List.set_cons_succ, List.getElem_toArray, List.getElem_cons_succ, List.getElem_cons_zero])
  refine wpAnyH_take (i := 3) (oi := _) (v := ?_) rfl (by kernel_rfl) (by kernel_rfl) (by kernel_rfl) (fun _ _ _ h => h) (Or.inl ⟨by rfl, ?_⟩) (by assumption) ?_
  rotate_left
  · intro W hSw
    obtain ⟨k0, k1⟩ := KA W hSw
    go_simp
    try with_reducible rfl
  (try simp only [Act.put, List.setIfInBounds_toArray, List.set_cons_zero, List.set_cons_succ, List.getElem_toArray, List.getElem_cons_succ, List.getElem_cons_zero])
  refine wpAnyH_take (i := 4) (oi := _) (v := .agg #[.int .i64 4, .int .u64 (nn : Int), .int .u64 (ec : Int), .int .u64 (sq : Int), .slice na l.length nc, .int .i64 kd, .int .i64 fr, .int .i64 bk, .int .i64 tw, .int .i64 hm, .int .i64 hp, .int .u64 (sr : Int), .int .i64 cd, .string nm, .int .i64 id, .int .i64 at_, .string bd]) rfl (by kernel_rfl) (by kernel_rfl) (by kernel_rfl) (fun _ _ _ h => h) (Or.inl ⟨by rfl, ?_⟩) (by assumption) ?_
  · intro W hSw
    have R1 := KR W hSw
    exact take_load 27 (.tmp 1) rfl w.heap.size 0 rfl _ Tryz.underlying27 W R1 rfl (by rfl) (by kernel_rfl)
  (try simp only [Act.put, List.setIfInBounds_toArray, List.set_cons_zero, List.set_cons_succ, List.getElem_toArray, List.getElem_cons_succ, List.getElem_cons_zero])
  refine wpAnyH_ready (rs := [5]) (by kernel_rfl) (by simp) ?_
  refine AllReadyH.cons (o := _) rfl (fun K hK => ?_) AllReadyH.nil
  go_simp
  refine (HF2.out _ (HB1.out.drew)).mono ?_
  rintro e w3 ⟨a3, c3, rfl, hf3, hb3⟩
  have HBA := Lib.hid (below_nx hbd hb3)
  have HF3 := Lib.hid hf3
  clear hb3 hf3
  go_wp2_with fail
  refine hK.out _ _ HBA.out (fun hHeld => ?_)
  clear hK K
  (try simp only [Act.put, List.setIfInBounds_toArray, List.set_cons_zero, List.set_cons_succ, List.getElem_toArray, List.getElem_cons_succ, List.getElem_cons_zero])
  refine wpAnyH_ready (rs := [6]) (by kernel_rfl) (by simp) ?_
  refine AllReadyH.cons (o := _) rfl (fun K hK => ?_) AllReadyH.nil
  go_simp
  refine (HE.out w3 a3 c3 (HB1.out.trans (HBA.out.mono (Nat.le_of_lt hs1))) HF3.out).mono ?_
  rintro e w4 ⟨rfl, hb4⟩
  have HBB := Lib.hid (below_nx HBA.out hb4)
  clear hb4
  go_wp2_with fail
  refine hK.out _ _ HBB.out (fun hHeld => ?_)
  clear hK K
  (try simp only [Act.put, List.setIfInBounds_toArray, List.set_cons_zero, List.set_cons_succ, List.getElem_toArray, List.getElem_cons_succ, List.getElem_cons_zero])
  refine wpAnyH_take (i := 7) (oi := _) (v := ?_) rfl (by kernel_rfl) (by kernel_rfl) (by kernel_rfl) (fun _ _ _ h => h) (Or.inl ⟨by rfl, ?_⟩) (by assumption) ?_
  rotate_left
  · intro W hSw
    go_simp
    try with_reducible rfl
  (try simp only [Act.put, List.setIfInBounds_toArray, List.set_cons_zero, List.set_cons_succ, List.getElem_toArray, List.getElem_cons_succ, List.getElem_cons_zero])
  refine wpAnyH_take (i := 8) (oi := _) (v := ?_) rfl (by kernel_rfl) (by kernel_rfl) (by kernel_rfl) (fun _ _ _ h => h) (Or.inl ⟨by rfl, ?_⟩) (by assumption) ?_
  rotate_left
  · intro W hSw
    go_simp
    try with_reducible rfl
  (try simp only [Act.put, List.setIfInBounds_toArray, List.set_cons_zero, List.set_cons_succ, List.getElem_toArray, List.getElem_cons_succ, List.getElem_cons_zero])
  refine wpAnyH_take (i := 9) (oi := _) (v := ?_) rfl (by kernel_rfl) (by kernel_rfl) (by kernel_rfl) (fun _ _ _ h => h) (Or.inl ⟨by rfl, ?_⟩) (by assumption) ?_
  rotate_left
  · intro W hSw
    go_simp
    try with_reducible rfl
  (try simp only [Act.put, List.setIfInBounds_toArray, List.set_cons_zero, List.set_cons_succ, List.getElem_toArray, List.getElem_cons_succ, List.getElem_cons_zero])
  refine wpAnyH_take (i := 10) (oi := _) (v := ?_) rfl (by kernel_rfl) (by kernel_rfl) (by kernel_rfl) (fun _ _ _ h => h) (Or.inl ⟨by rfl, ?_⟩) (by assumption) ?_
  rotate_left
  · intro W hSw
    go_simp
    try with_reducible rfl
  (try simp only [Act.put, List.setIfInBounds_toArray, List.set_cons_zero, List.set_cons_succ, List.getElem_toArray, List.getElem_cons_succ, List.getElem_cons_zero])
  refine wpAnyH_done (by kernel_rfl) ?_ _
  go_wp2_with fail
  refine bodyPost_ret (v := .tuple #[.string ⟨bytes⟩, .int .i64 code]) (by simp [results, Tryz.results8, go_sem]) rfl ?_
  exact ⟨rfl, HB1.out.trans (HBB.out.mono (Nat.le_of_lt hs1))⟩
set_option maxHeartbeats 4000000 in
theorem mEncode_bad (k : Int) (nn ec sq : Nat) (l : List Nw) (na : Option Addr) (nc : Nat) (kd fr bk tw hm hp : Int) (sr : Nat) (cd : Int) (nm : ByteArray) (id at_ : Int) (bd : ByteArray) (w : World)
    (HC : ∀ W, Below w.heap.size w W → Calls Tryz.prog 10 #[.agg #[.int .i64 k, .int .u64 (nn : Int), .int .u64 (ec : Int), .int .u64 (sq : Int), .slice na l.length nc, .int .i64 kd, .int .i64 fr, .int .i64 bk, .int .i64 tw, .int .i64 hm, .int .i64 hp, .int .u64 (sr : Int), .int .i64 cd, .string nm, .int .i64 id, .int .i64 at_, .string bd]] W fun e w' => e = .returned (.int .i64 60) ∧ Below W.heap.size W w') :
    Calls Tryz.prog 8 #[.agg #[.int .i64 k, .int .u64 (nn : Int), .int .u64 (ec : Int), .int .u64 (sq : Int), .slice na l.length nc, .int .i64 kd, .int .i64 fr, .int .i64 bk, .int .i64 tw, .int .i64 hm, .int .i64 hp, .int .u64 (sr : Int), .int .i64 cd, .string nm, .int .i64 id, .int .i64 at_, .string bd]] w fun e w' => e = .returned (.tuple #[.string ⟨#[]⟩, .int .i64 60]) ∧ Below w.heap.size w w' := by
  have HC2 := Lib.hid HC
  clear HC
  go_enter Tryz.func8, Tryz.ntmps8
  go_upto_region 1 with (fail)
  have R0 := range_ms w 27 (.int .i64 k) (.int .u64 (nn : Int)) (.int .u64 (ec : Int)) (.int .u64 (sq : Int)) (.slice na l.length nc) (.int .i64 kd) (.int .i64 fr) (.int .i64 bk) (.int .i64 tw) (.int .i64 hm) (.int .i64 hp) (.int .u64 (sr : Int)) (.int .i64 cd) (.string nm) (.int .i64 id) (.int .i64 at_) (.string bd)
  obtain ⟨w0, hw0⟩ : ∃ w0, w0 = w.alloc (.cells #[.int .i64 k, .int .u64 (nn : Int), .int .u64 (ec : Int), .int .u64 (sq : Int), .slice na l.length nc, .int .i64 kd, .int .i64 fr, .int .i64 bk, .int .i64 tw, .int .i64 hm, .int .i64 hp, .int .u64 (sr : Int), .int .i64 cd, .string nm, .int .i64 id, .int .i64 at_, .string bd] 27) := ⟨_, rfl⟩
  have hb0 : Below w.heap.size w w0 := by rw [hw0]; exact (Below.refl _ _).alloc (Nat.le_refl _) _
  rw [← hw0] at R0 ⊢
  clear hw0
  have HB0 := Lib.hid hb0
  refine wp_region_list ?_
  refine wpList_load_guard (by kernel_rfl) 27 (.tmp 1) rfl w.heap.size 0 rfl [.int .i64 k, .int .u64 (nn : Int), .int .u64 (ec : Int), .int .u64 (sq : Int), .slice na l.length nc, .int .i64 kd, .int .i64 fr, .int .i64 bk, .int .i64 tw, .int .i64 hm, .int .i64 hp, .int .u64 (sr : Int), .int .i64 cd, .string nm, .int .i64 id, .int .i64 at_, .string bd] _ R0 Tryz.underlying27 (by rfl) (by kernel_rfl) ?_
  (try simp only [Act.put, List.setIfInBounds_toArray, List.set_cons_zero, List.set_cons_succ, List.getElem_toArray, List.getElem_cons_succ, List.getElem_cons_zero])
  clear R0 hb0
  go_wp2_with (go_at_call 10; refine (HC2.out _ HB0.out).mono ?_; rintro e W1 ⟨rfl, hb1⟩)
  refine bodyPost_ret (v := .tuple #[.string ⟨#[]⟩, .int .i64 60]) (by simp [results, Tryz.results8, go_sem]) rfl ?_
  exact ⟨rfl, HB0.out.trans (hb1.mono HB0.out.size)⟩

/-- What a message's bytes are, or that it may not be. -/
def encM (m : Ms) : List UInt8 × Int := if mayB m then encSays (shp m.kind).data.toList (fldsOf m) else ([], 60)
theorem kind_of {m : Ms} (h : mayB m = true) : m.kind = 1 ∨ m.kind = 2 ∨ m.kind = 3 ∨ m.kind = 4 := by
  unfold mayB at h
  by_cases h1 : m.kind = 1
  · exact Or.inl h1
  by_cases h2 : m.kind = 2
  · exact Or.inr (Or.inl h2)
  by_cases h3 : m.kind = 3
  · exact Or.inr (Or.inr (Or.inl h3))
  by_cases h4 : m.kind = 4
  · exact Or.inr (Or.inr (Or.inr h4))
  simp [h1, h2, h3, h4] at h
theorem may_len {m : Ms} (h : mayB m = true) (hk : m.kind = 2) : m.news.length ≤ 512 := by
  unfold mayB at h
  rw [hk] at h
  simp only [show ((2 : Int) == 1) = false from rfl, show ((2 : Int) == 2) = true from rfl, if_true, Bool.and_eq_true, toldB, decide_eq_true_eq] at h
  simp at h
  exact h.1.2.1
theorem flds_len (m : Ms) : (fldsOf m).length < 4611686018427387904 := by
  unfold fldsOf
  split
  · simp
  · split
    · simp [pkFlds, pkNums]
    · split
      · simp
      · simp

theorem mEncode_any (k : Int) (nn ec sq : Nat) (l : List Nw) (na : Option Addr) (nc : Nat) (kd fr bk tw hm hp : Int) (sr : Nat) (cd : Int) (nm : ByteArray) (id at_ : Int) (bd : ByteArray) (w : World) (hg : Handle w) (hs : Shps w) (hin : NewsIn w w.heap.size l na) (hfit : Ms.Fit ⟨k, nn, ec, sq, l, ⟨kd, fr, bk, tw, hm, hp, sr, cd, nm, id, at_, bd⟩⟩) :
    Calls Tryz.prog 8 #[.agg #[.int .i64 k, .int .u64 (nn : Int), .int .u64 (ec : Int), .int .u64 (sq : Int), .slice na l.length nc, .int .i64 kd, .int .i64 fr, .int .i64 bk, .int .i64 tw, .int .i64 hm, .int .i64 hp, .int .u64 (sr : Int), .int .i64 cd, .string nm, .int .i64 id, .int .i64 at_, .string bd]] w fun e w' => e = .returned (.tuple #[.string ⟨(encM ⟨k, nn, ec, sq, l, ⟨kd, fr, bk, tw, hm, hp, sr, cd, nm, id, at_, bd⟩⟩).1.toArray⟩, .int .i64 (encM ⟨k, nn, ec, sq, l, ⟨kd, fr, bk, tw, hm, hp, sr, cd, nm, id, at_, bd⟩⟩).2]) ∧ Below w.heap.size w w' := by
  have hnm := hfit.nm
  have HC : ∀ W, Below w.heap.size w W → Calls Tryz.prog 10 #[.agg #[.int .i64 k, .int .u64 (nn : Int), .int .u64 (ec : Int), .int .u64 (sq : Int), .slice na l.length nc, .int .i64 kd, .int .i64 fr, .int .i64 bk, .int .i64 tw, .int .i64 hm, .int .i64 hp, .int .u64 (sr : Int), .int .i64 cd, .string nm, .int .i64 id, .int .i64 at_, .string bd]] W fun e w' => e = .returned (.int .i64 (if mayB ⟨k, nn, ec, sq, l, ⟨kd, fr, bk, tw, hm, hp, sr, cd, nm, id, at_, bd⟩⟩ then 0 else 60)) ∧ Below W.heap.size W w' := fun W h => mCheck_any k nn ec sq l na nc kd fr bk tw hm hp sr cd nm id at_ bd (by simp at hnm; omega) W (hin.kept (fun i hi => h.block i hi) h.size) hfit.news
  have hfine := fine_flds hfit
  have hlen := flds_len ⟨k, nn, ec, sq, l, ⟨kd, fr, bk, tw, hm, hp, sr, cd, nm, id, at_, bd⟩⟩
  cases hB : mayB ⟨k, nn, ec, sq, l, ⟨kd, fr, bk, tw, hm, hp, sr, cd, nm, id, at_, bd⟩⟩ with
  | false =>
    rw [show encM ⟨k, nn, ec, sq, l, ⟨kd, fr, bk, tw, hm, hp, sr, cd, nm, id, at_, bd⟩⟩ = ([], 60) by unfold encM; rw [hB]; rfl]
    rw [hB] at HC
    exact mEncode_bad k nn ec sq l na nc kd fr bk tw hm hp sr cd nm id at_ bd w HC
  | true =>
    rw [show encM ⟨k, nn, ec, sq, l, ⟨kd, fr, bk, tw, hm, hp, sr, cd, nm, id, at_, bd⟩⟩ = encSays (shp k).data.toList (fldsOf ⟨k, nn, ec, sq, l, ⟨kd, fr, bk, tw, hm, hp, sr, cd, nm, id, at_, bd⟩⟩) by unfold encM; rw [hB]; rfl]
    rw [hB] at HC
    have hk := kind_of hB
    have hln := fun e => may_len hB e
    simp only at hk hln
    rcases hk with rfl | rfl | rfl | rfl
    · exact mEncode_1 nn ec sq l na nc kd fr bk tw hm hp sr cd nm id at_ bd _ w hg hs hfine hlen HC (fun W h => mFlds_1 nn ec sq l na nc kd fr bk tw hm hp sr cd nm id at_ bd W)
    · exact mEncode_2 nn ec sq l na nc kd fr bk tw hm hp sr cd nm id at_ bd _ w hg hs hfine hlen HC (fun W h => mFlds_2 nn ec sq l na nc kd fr bk tw hm hp sr cd nm id at_ bd W (hin.kept (fun i hi => h.block i hi) h.size) (by have := hln rfl; omega))
    · exact mEncode_3 nn ec sq l na nc kd fr bk tw hm hp sr cd nm id at_ bd _ w hg hs hfine hlen HC (fun W h => mFlds_3 nn ec sq l na nc kd fr bk tw hm hp sr cd nm id at_ bd W)
    · exact mEncode_4 nn ec sq l na nc kd fr bk tw hm hp sr cd nm id at_ bd _ w hg hs hfine hlen HC (fun W h => mFlds_4 nn ec sq l na nc kd fr bk tw hm hp sr cd nm id at_ bd W)

theorem msgAwake_says : encM ⟨1, 5, 0, 0, [], ⟨0, 0, 0, 0, 0, 0, 0, 0, ⟨#[]⟩, 0, 0, ⟨#[]⟩⟩⟩ = ([1, 5, 0], 0) := by
  have h0 : mayB ⟨1, 5, 0, 0, [], ⟨0, 0, 0, 0, 0, 0, 0, 0, ⟨#[]⟩, 0, 0, ⟨#[]⟩⟩⟩ = true := by decide +kernel
  have h1 : Go.Wq.shape (shp 1).data.toList = some [.u, .u, .u] := by rfl
  have h2 : encAll [.u, .u, .u] [fU 1, fU 5, fU 0] = some [1, 5, 0] := by
    have e1 : encOne .u (fU 1) = some (vint 1) := rfl
    have e2 : encOne .u (fU 5) = some (vint 5) := rfl
    have e3 : encOne .u (fU 0) = some (vint 0) := rfl
    simp only [encAll, e1, e2, e3, vint_small (show (1 : Nat) < 128 by omega), vint_small (show (5 : Nat) < 128 by omega), vint_small (show (0 : Nat) < 128 by omega)]
    rfl
  unfold encM
  rw [h0]
  simp only [if_true]
  rw [flds_1]
  unfold encSays
  simp only [h1, List.map_cons, List.map_nil, h2]
  rfl

set_option maxHeartbeats 2000000 in
theorem msgAwake_any (w : World) (hg : Handle w) (hs : Shps w) : Calls Tryz.prog 12 #[] w fun e w' => e = .returned (.bool true) ∧ Below w.heap.size w w' := by
  have HE := mEncode_any 1 5 0 0 [] none 0 0 0 0 0 0 0 0 0 ⟨#[]⟩ 0 0 ⟨#[]⟩ w hg hs (Or.inl rfl) { k := by decide, n := by decide, e := by decide, s := by decide, news := by simp, len := by simp, pk := by decide, pf := by decide, pb := by decide, pt := by decide, ph := by decide, po := by decide, ps := by decide, pc := by decide, pi := by decide, pa := by decide, nm := by decide, bd := by decide }
  rw [msgAwake_says] at HE
  have HEN := Lib.hid HE
  clear HE hg hs
  go_enter Tryz.func12, Tryz.ntmps12
  go_wp2_with fail
  refine HEN.out.mono ?_
  rintro e w3 ⟨rfl, hb3⟩
  have HB3 := Lib.hid hb3
  clear hb3
  go_wp2_with fail
  go_ret
  exact ⟨rfl, HB3.out⟩

end Go.Proofs.YtidfgjgbigedeaaGreatDoor
