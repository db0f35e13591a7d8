/- Messages: may one be: the program's isMessage and Check. -/
import Derived.Test.YtfnmfmelcghjbaaMgI
import Derived.Test.YtfnmfmelcghjbaaMgD
import Derived.Test.YtfnmfmelcghjbaaMgG
namespace Go.Proofs.Ytfnmfmelcghjbaa
open Go.Fq Go.RowKit Go.Mq
set_option linter.unusedVariables false
set_option linter.unusedSimpArgs false
set_option maxRecDepth 100000

theorem range_next {W W' : World} {b : Nat} {cs : List Value} (h : W.rangeAt b 0 cs) (hb : b < W.heap.size) (k : Below W.heap.size W W') : W'.rangeAt b 0 cs := fun j v hj => (k.cell (p := ⟨b, 0 + j, none⟩) hb).trans (h j v hj)
theorem bel_next {w W W' : World} {b : Nat} (h : Below w.heap.size w W ∧ b < W.heap.size) (k : Below W.heap.size W W') : Below w.heap.size w W' ∧ b < W'.heap.size := ⟨below_nx h.1 k, Nat.lt_of_lt_of_le h.2 k.size⟩

set_option maxHeartbeats 4000000 in
theorem mMay_0 (k : Int) (nn ec sq : Nat) (l : List Nw) (na : Option Addr) (nc : Nat) (kd fr bk tw hm hp : Int) (sr : Nat) (cd : Int) (nm : ByteArray) (id at_ : Int) (bd : ByteArray) (hn : nm.size ≤ 9223372036854775807) (w : World) (hin : NewsIn w w.heap.size l na) (hfit : ∀ n ∈ l, n.Fit) (k1 : (k == 1) = false) (k2 : (k == 2) = false) (k3 : (k == 3) = false) (k4 : (k == 4) = false) : Calls Try.prog 71 #[.agg #[.int .i64 k, .int .u64 (nn : Int), .int .u64 (ec : Int), .int .u64 (sq : Int), .slice na l.length nc, .int .i64 kd, .int .i64 fr, .int .i64 bk, .int .i64 tw, .int .i64 hm, .int .i64 hp, .int .u64 (sr : Int), .int .i64 cd, .string nm, .int .i64 id, .int .i64 at_, .string bd]] w fun e w' => e = .returned (.bool (false)) ∧ Below w.heap.size w w' := by
  clear hin hfit hn
  go_enter Try.func71, Try.ntmps71
  go_wp2_with fail
  go_ret
  exact ⟨rfl, below_al _ _⟩
set_option maxHeartbeats 4000000 in
theorem mMay_1 (k : Int) (nn ec sq : Nat) (l : List Nw) (na : Option Addr) (nc : Nat) (kd fr bk tw hm hp : Int) (sr : Nat) (cd : Int) (nm : ByteArray) (id at_ : Int) (bd : ByteArray) (hn : nm.size ≤ 9223372036854775807) (w : World) (hin : NewsIn w w.heap.size l na) (hfit : ∀ n ∈ l, n.Fit) (k1 : (k == 1) = true) : Calls Try.prog 71 #[.agg #[.int .i64 k, .int .u64 (nn : Int), .int .u64 (ec : Int), .int .u64 (sq : Int), .slice na l.length nc, .int .i64 kd, .int .i64 fr, .int .i64 bk, .int .i64 tw, .int .i64 hm, .int .i64 hp, .int .u64 (sr : Int), .int .i64 cd, .string nm, .int .i64 id, .int .i64 at_, .string bd]] w fun e w' => e = .returned (.bool (decide ((1 : Int) ≤ (nn : Int)) && ((sq : Int) == 0) && ((l.length : Int) == 0) && zeroPk ⟨kd, fr, bk, tw, hm, hp, sr, cd, nm, id, at_, bd⟩)) ∧ Below w.heap.size w w' := by
  have HN := Lib.hid (mNoNews_any k nn ec sq na l.length nc kd fr bk tw hm hp sr cd nm id at_ bd)
  have HZ := Lib.hid (mNoPk_any k nn ec sq na l.length nc kd fr bk tw hm hp sr cd nm id at_ bd)
  clear hin hfit hn
  generalize zeroPk ⟨kd, fr, bk, tw, hm, hp, sr, cd, nm, id, at_, bd⟩ = Z at *
  generalize ((l.length : Int) == 0) = N at *
  cases h1 : (decide ((1 : Int) ≤ (nn : Int)))
  · skip
    go_enter Try.func71, Try.ntmps71
    go_upto_region 3 with (fail)
    have B0 : Below w.heap.size w (w.alloc (.cells #[.int .i64 k, .int .u64 (nn : Int), .int .u64 (ec : Int), .int .u64 (sq : Int), .slice na l.length nc, .int .i64 kd, .int .i64 fr, .int .i64 bk, .int .i64 tw, .int .i64 hm, .int .i64 hp, .int .u64 (sr : Int), .int .i64 cd, .string nm, .int .i64 id, .int .i64 at_, .string bd] 89)) ∧ w.heap.size < (w.alloc (.cells #[.int .i64 k, .int .u64 (nn : Int), .int .u64 (ec : Int), .int .u64 (sq : Int), .slice na l.length nc, .int .i64 kd, .int .i64 fr, .int .i64 bk, .int .i64 tw, .int .i64 hm, .int .i64 hp, .int .u64 (sr : Int), .int .i64 cd, .string nm, .int .i64 id, .int .i64 at_, .string bd] 89)).heap.size := ⟨below_al _ _, by simp⟩
    have R0 := range_ms w 89 (.int .i64 k) (.int .u64 (nn : Int)) (.int .u64 (ec : Int)) (.int .u64 (sq : Int)) (.slice na l.length nc) (.int .i64 kd) (.int .i64 fr) (.int .i64 bk) (.int .i64 tw) (.int .i64 hm) (.int .i64 hp) (.int .u64 (sr : Int)) (.int .i64 cd) (.string nm) (.int .i64 id) (.int .i64 at_) (.string bd)
    refine wp_region_list ?_
    iterate 17 (refine wpList_step (fun K hK0 => ?_); have hK := Lib.hid hK0; clear hK0; go_simp; refine hK.out _ _ ?_; clear hK K; (try simp only [Act.put, List.setIfInBounds_toArray, List.set_cons_zero, List.set_cons_succ, List.getElem_toArray, List.getElem_cons_succ, List.getElem_cons_zero]))
    refine wpList_nil ?_
    go_wp2_with fail
    go_ret
    exact ⟨ret_bool (by first | rfl | (simp [*]; done)), B0.1⟩
  · skip
    cases h2 : ((sq : Int) == 0)
    · skip
      go_enter Try.func71, Try.ntmps71
      go_upto_region 3 with (fail)
      have B0 : Below w.heap.size w (w.alloc (.cells #[.int .i64 k, .int .u64 (nn : Int), .int .u64 (ec : Int), .int .u64 (sq : Int), .slice na l.length nc, .int .i64 kd, .int .i64 fr, .int .i64 bk, .int .i64 tw, .int .i64 hm, .int .i64 hp, .int .u64 (sr : Int), .int .i64 cd, .string nm, .int .i64 id, .int .i64 at_, .string bd] 89)) ∧ w.heap.size < (w.alloc (.cells #[.int .i64 k, .int .u64 (nn : Int), .int .u64 (ec : Int), .int .u64 (sq : Int), .slice na l.length nc, .int .i64 kd, .int .i64 fr, .int .i64 bk, .int .i64 tw, .int .i64 hm, .int .i64 hp, .int .u64 (sr : Int), .int .i64 cd, .string nm, .int .i64 id, .int .i64 at_, .string bd] 89)).heap.size := ⟨below_al _ _, by simp⟩
      have R0 := range_ms w 89 (.int .i64 k) (.int .u64 (nn : Int)) (.int .u64 (ec : Int)) (.int .u64 (sq : Int)) (.slice na l.length nc) (.int .i64 kd) (.int .i64 fr) (.int .i64 bk) (.int .i64 tw) (.int .i64 hm) (.int .i64 hp) (.int .u64 (sr : Int)) (.int .i64 cd) (.string nm) (.int .i64 id) (.int .i64 at_) (.string bd)
      refine wp_region_list ?_
      iterate 17 (refine wpList_step (fun K hK0 => ?_); have hK := Lib.hid hK0; clear hK0; go_simp; refine hK.out _ _ ?_; clear hK K; (try simp only [Act.put, List.setIfInBounds_toArray, List.set_cons_zero, List.set_cons_succ, List.getElem_toArray, List.getElem_cons_succ, List.getElem_cons_zero]))
      refine wpList_nil ?_
      go_wp2_with fail
      go_ret
      exact ⟨ret_bool (by first | rfl | (simp [*]; done)), B0.1⟩
    · skip
      cases N
      · skip
        go_enter Try.func71, Try.ntmps71
        go_upto_region 3 with (fail)
        have B0 : Below w.heap.size w (w.alloc (.cells #[.int .i64 k, .int .u64 (nn : Int), .int .u64 (ec : Int), .int .u64 (sq : Int), .slice na l.length nc, .int .i64 kd, .int .i64 fr, .int .i64 bk, .int .i64 tw, .int .i64 hm, .int .i64 hp, .int .u64 (sr : Int), .int .i64 cd, .string nm, .int .i64 id, .int .i64 at_, .string bd] 89)) ∧ w.heap.size < (w.alloc (.cells #[.int .i64 k, .int .u64 (nn : Int), .int .u64 (ec : Int), .int .u64 (sq : Int), .slice na l.length nc, .int .i64 kd, .int .i64 fr, .int .i64 bk, .int .i64 tw, .int .i64 hm, .int .i64 hp, .int .u64 (sr : Int), .int .i64 cd, .string nm, .int .i64 id, .int .i64 at_, .string bd] 89)).heap.size := ⟨below_al _ _, by simp⟩
        have R0 := range_ms w 89 (.int .i64 k) (.int .u64 (nn : Int)) (.int .u64 (ec : Int)) (.int .u64 (sq : Int)) (.slice na l.length nc) (.int .i64 kd) (.int .i64 fr) (.int .i64 bk) (.int .i64 tw) (.int .i64 hm) (.int .i64 hp) (.int .u64 (sr : Int)) (.int .i64 cd) (.string nm) (.int .i64 id) (.int .i64 at_) (.string bd)
        refine wp_region_list ?_
        iterate 9 (refine wpList_step (fun K hK0 => ?_); have hK := Lib.hid hK0; clear hK0; go_simp; refine hK.out _ _ ?_; clear hK K; (try simp only [Act.put, List.setIfInBounds_toArray, List.set_cons_zero, List.set_cons_succ, List.getElem_toArray, List.getElem_cons_succ, List.getElem_cons_zero]))
        refine wpList_load_guard (by kernel_rfl) 89 (.tmp 1) rfl w.heap.size 0 rfl [.int .i64 k, .int .u64 (nn : Int), .int .u64 (ec : Int), .int .u64 (sq : Int), .slice na l.length nc, .int .i64 kd, .int .i64 fr, .int .i64 bk, .int .i64 tw, .int .i64 hm, .int .i64 hp, .int .u64 (sr : Int), .int .i64 cd, .string nm, .int .i64 id, .int .i64 at_, .string bd] _ R0 Try.underlying89 (by rfl) (by kernel_rfl) ?_
        (try simp only [Act.put, List.setIfInBounds_toArray, List.set_cons_zero, List.set_cons_succ, List.getElem_toArray, List.getElem_cons_succ, List.getElem_cons_zero])
        refine wpList_step (fun K hK0 => ?_)
        have hK := Lib.hid hK0
        clear hK0
        go_simp
        refine (HN.out _).mono ?_
        rintro e w3 ⟨rfl, hb3⟩
        have R3 := range_next R0 B0.2 hb3
        have B3 := bel_next B0 hb3
        go_wp2_with fail
        refine hK.out _ _ ?_
        clear hK K
        (try simp only [Act.put, List.setIfInBounds_toArray, List.set_cons_zero, List.set_cons_succ, List.getElem_toArray, List.getElem_cons_succ, List.getElem_cons_zero])
        iterate 6 (refine wpList_step (fun K hK0 => ?_); have hK := Lib.hid hK0; clear hK0; go_simp; refine hK.out _ _ ?_; clear hK K; (try simp only [Act.put, List.setIfInBounds_toArray, List.set_cons_zero, List.set_cons_succ, List.getElem_toArray, List.getElem_cons_succ, List.getElem_cons_zero]))
        refine wpList_nil ?_
        go_wp2_with fail
        go_ret
        exact ⟨ret_bool (by first | rfl | (simp [*]; done)), B3.1⟩
      · skip
        cases Z
        · skip
          go_enter Try.func71, Try.ntmps71
          go_upto_region 3 with (fail)
          have B0 : Below w.heap.size w (w.alloc (.cells #[.int .i64 k, .int .u64 (nn : Int), .int .u64 (ec : Int), .int .u64 (sq : Int), .slice na l.length nc, .int .i64 kd, .int .i64 fr, .int .i64 bk, .int .i64 tw, .int .i64 hm, .int .i64 hp, .int .u64 (sr : Int), .int .i64 cd, .string nm, .int .i64 id, .int .i64 at_, .string bd] 89)) ∧ w.heap.size < (w.alloc (.cells #[.int .i64 k, .int .u64 (nn : Int), .int .u64 (ec : Int), .int .u64 (sq : Int), .slice na l.length nc, .int .i64 kd, .int .i64 fr, .int .i64 bk, .int .i64 tw, .int .i64 hm, .int .i64 hp, .int .u64 (sr : Int), .int .i64 cd, .string nm, .int .i64 id, .int .i64 at_, .string bd] 89)).heap.size := ⟨below_al _ _, by simp⟩
          have R0 := range_ms w 89 (.int .i64 k) (.int .u64 (nn : Int)) (.int .u64 (ec : Int)) (.int .u64 (sq : Int)) (.slice na l.length nc) (.int .i64 kd) (.int .i64 fr) (.int .i64 bk) (.int .i64 tw) (.int .i64 hm) (.int .i64 hp) (.int .u64 (sr : Int)) (.int .i64 cd) (.string nm) (.int .i64 id) (.int .i64 at_) (.string bd)
          refine wp_region_list ?_
          iterate 9 (refine wpList_step (fun K hK0 => ?_); have hK := Lib.hid hK0; clear hK0; go_simp; refine hK.out _ _ ?_; clear hK K; (try simp only [Act.put, List.setIfInBounds_toArray, List.set_cons_zero, List.set_cons_succ, List.getElem_toArray, List.getElem_cons_succ, List.getElem_cons_zero]))
          refine wpList_load_guard (by kernel_rfl) 89 (.tmp 1) rfl w.heap.size 0 rfl [.int .i64 k, .int .u64 (nn : Int), .int .u64 (ec : Int), .int .u64 (sq : Int), .slice na l.length nc, .int .i64 kd, .int .i64 fr, .int .i64 bk, .int .i64 tw, .int .i64 hm, .int .i64 hp, .int .u64 (sr : Int), .int .i64 cd, .string nm, .int .i64 id, .int .i64 at_, .string bd] _ R0 Try.underlying89 (by rfl) (by kernel_rfl) ?_
          (try simp only [Act.put, List.setIfInBounds_toArray, List.set_cons_zero, List.set_cons_succ, List.getElem_toArray, List.getElem_cons_succ, List.getElem_cons_zero])
          refine wpList_step (fun K hK0 => ?_)
          have hK := Lib.hid hK0
          clear hK0
          go_simp
          refine (HN.out _).mono ?_
          rintro e w3 ⟨rfl, hb3⟩
          have R3 := range_next R0 B0.2 hb3
          have B3 := bel_next B0 hb3
          go_wp2_with fail
          refine hK.out _ _ ?_
          clear hK K
          (try simp only [Act.put, List.setIfInBounds_toArray, List.set_cons_zero, List.set_cons_succ, List.getElem_toArray, List.getElem_cons_succ, List.getElem_cons_zero])
          iterate 2 (refine wpList_step (fun K hK0 => ?_); have hK := Lib.hid hK0; clear hK0; go_simp; refine hK.out _ _ ?_; clear hK K; (try simp only [Act.put, List.setIfInBounds_toArray, List.set_cons_zero, List.set_cons_succ, List.getElem_toArray, List.getElem_cons_succ, List.getElem_cons_zero]))
          refine wpList_load_guard (by kernel_rfl) 89 (.tmp 1) rfl w.heap.size 0 rfl [.int .i64 k, .int .u64 (nn : Int), .int .u64 (ec : Int), .int .u64 (sq : Int), .slice na l.length nc, .int .i64 kd, .int .i64 fr, .int .i64 bk, .int .i64 tw, .int .i64 hm, .int .i64 hp, .int .u64 (sr : Int), .int .i64 cd, .string nm, .int .i64 id, .int .i64 at_, .string bd] _ R3 Try.underlying89 (by rfl) (by kernel_rfl) ?_
          (try simp only [Act.put, List.setIfInBounds_toArray, List.set_cons_zero, List.set_cons_succ, List.getElem_toArray, List.getElem_cons_succ, List.getElem_cons_zero])
          refine wpList_step (fun K hK0 => ?_)
          have hK := Lib.hid hK0
          clear hK0
          go_simp
          refine (HZ.out _).mono ?_
          rintro e w4 ⟨rfl, hb4⟩
          have R4 := range_next R3 B3.2 hb4
          have B4 := bel_next B3 hb4
          go_wp2_with fail
          refine hK.out _ _ ?_
          clear hK K
          (try simp only [Act.put, List.setIfInBounds_toArray, List.set_cons_zero, List.set_cons_succ, List.getElem_toArray, List.getElem_cons_succ, List.getElem_cons_zero])
          iterate 2 (refine wpList_step (fun K hK0 => ?_); have hK := Lib.hid hK0; clear hK0; go_simp; refine hK.out _ _ ?_; clear hK K; (try simp only [Act.put, List.setIfInBounds_toArray, List.set_cons_zero, List.set_cons_succ, List.getElem_toArray, List.getElem_cons_succ, List.getElem_cons_zero]))
          refine wpList_nil ?_
          go_wp2_with fail
          go_ret
          exact ⟨ret_bool (by first | rfl | (simp [*]; done)), B4.1⟩
        · skip
          go_enter Try.func71, Try.ntmps71
          go_upto_region 3 with (fail)
          have B0 : Below w.heap.size w (w.alloc (.cells #[.int .i64 k, .int .u64 (nn : Int), .int .u64 (ec : Int), .int .u64 (sq : Int), .slice na l.length nc, .int .i64 kd, .int .i64 fr, .int .i64 bk, .int .i64 tw, .int .i64 hm, .int .i64 hp, .int .u64 (sr : Int), .int .i64 cd, .string nm, .int .i64 id, .int .i64 at_, .string bd] 89)) ∧ w.heap.size < (w.alloc (.cells #[.int .i64 k, .int .u64 (nn : Int), .int .u64 (ec : Int), .int .u64 (sq : Int), .slice na l.length nc, .int .i64 kd, .int .i64 fr, .int .i64 bk, .int .i64 tw, .int .i64 hm, .int .i64 hp, .int .u64 (sr : Int), .int .i64 cd, .string nm, .int .i64 id, .int .i64 at_, .string bd] 89)).heap.size := ⟨below_al _ _, by simp⟩
          have R0 := range_ms w 89 (.int .i64 k) (.int .u64 (nn : Int)) (.int .u64 (ec : Int)) (.int .u64 (sq : Int)) (.slice na l.length nc) (.int .i64 kd) (.int .i64 fr) (.int .i64 bk) (.int .i64 tw) (.int .i64 hm) (.int .i64 hp) (.int .u64 (sr : Int)) (.int .i64 cd) (.string nm) (.int .i64 id) (.int .i64 at_) (.string bd)
          refine wp_region_list ?_
          iterate 9 (refine wpList_step (fun K hK0 => ?_); have hK := Lib.hid hK0; clear hK0; go_simp; refine hK.out _ _ ?_; clear hK K; (try simp only [Act.put, List.setIfInBounds_toArray, List.set_cons_zero, List.set_cons_succ, List.getElem_toArray, List.getElem_cons_succ, List.getElem_cons_zero]))
          refine wpList_load_guard (by kernel_rfl) 89 (.tmp 1) rfl w.heap.size 0 rfl [.int .i64 k, .int .u64 (nn : Int), .int .u64 (ec : Int), .int .u64 (sq : Int), .slice na l.length nc, .int .i64 kd, .int .i64 fr, .int .i64 bk, .int .i64 tw, .int .i64 hm, .int .i64 hp, .int .u64 (sr : Int), .int .i64 cd, .string nm, .int .i64 id, .int .i64 at_, .string bd] _ R0 Try.underlying89 (by rfl) (by kernel_rfl) ?_
          (try simp only [Act.put, List.setIfInBounds_toArray, List.set_cons_zero, List.set_cons_succ, List.getElem_toArray, List.getElem_cons_succ, List.getElem_cons_zero])
          refine wpList_step (fun K hK0 => ?_)
          have hK := Lib.hid hK0
          clear hK0
          go_simp
          refine (HN.out _).mono ?_
          rintro e w3 ⟨rfl, hb3⟩
          have R3 := range_next R0 B0.2 hb3
          have B3 := bel_next B0 hb3
          go_wp2_with fail
          refine hK.out _ _ ?_
          clear hK K
          (try simp only [Act.put, List.setIfInBounds_toArray, List.set_cons_zero, List.set_cons_succ, List.getElem_toArray, List.getElem_cons_succ, List.getElem_cons_zero])
          iterate 2 (refine wpList_step (fun K hK0 => ?_); have hK := Lib.hid hK0; clear hK0; go_simp; refine hK.out _ _ ?_; clear hK K; (try simp only [Act.put, List.setIfInBounds_toArray, List.set_cons_zero, List.set_cons_succ, List.getElem_toArray, List.getElem_cons_succ, List.getElem_cons_zero]))
          refine wpList_load_guard (by kernel_rfl) 89 (.tmp 1) rfl w.heap.size 0 rfl [.int .i64 k, .int .u64 (nn : Int), .int .u64 (ec : Int), .int .u64 (sq : Int), .slice na l.length nc, .int .i64 kd, .int .i64 fr, .int .i64 bk, .int .i64 tw, .int .i64 hm, .int .i64 hp, .int .u64 (sr : Int), .int .i64 cd, .string nm, .int .i64 id, .int .i64 at_, .string bd] _ R3 Try.underlying89 (by rfl) (by kernel_rfl) ?_
          (try simp only [Act.put, List.setIfInBounds_toArray, List.set_cons_zero, List.set_cons_succ, List.getElem_toArray, List.getElem_cons_succ, List.getElem_cons_zero])
          refine wpList_step (fun K hK0 => ?_)
          have hK := Lib.hid hK0
          clear hK0
          go_simp
          refine (HZ.out _).mono ?_
          rintro e w4 ⟨rfl, hb4⟩
          have R4 := range_next R3 B3.2 hb4
          have B4 := bel_next B3 hb4
          go_wp2_with fail
          refine hK.out _ _ ?_
          clear hK K
          (try simp only [Act.put, List.setIfInBounds_toArray, List.set_cons_zero, List.set_cons_succ, List.getElem_toArray, List.getElem_cons_succ, List.getElem_cons_zero])
          iterate 2 (refine wpList_step (fun K hK0 => ?_); have hK := Lib.hid hK0; clear hK0; go_simp; refine hK.out _ _ ?_; clear hK K; (try simp only [Act.put, List.setIfInBounds_toArray, List.set_cons_zero, List.set_cons_succ, List.getElem_toArray, List.getElem_cons_succ, List.getElem_cons_zero]))
          refine wpList_nil ?_
          go_wp2_with fail
          go_ret
          exact ⟨ret_bool (by first | rfl | (simp [*]; done)), B4.1⟩
set_option maxHeartbeats 4000000 in
theorem mMay_2 (k : Int) (nn ec sq : Nat) (l : List Nw) (na : Option Addr) (nc : Nat) (kd fr bk tw hm hp : Int) (sr : Nat) (cd : Int) (nm : ByteArray) (id at_ : Int) (bd : ByteArray) (hn : nm.size ≤ 9223372036854775807) (w : World) (hin : NewsIn w w.heap.size l na) (hfit : ∀ n ∈ l, n.Fit) (k1 : (k == 1) = false) (k2 : (k == 2) = true) : Calls Try.prog 71 #[.agg #[.int .i64 k, .int .u64 (nn : Int), .int .u64 (ec : Int), .int .u64 (sq : Int), .slice na l.length nc, .int .i64 kd, .int .i64 fr, .int .i64 bk, .int .i64 tw, .int .i64 hm, .int .i64 hp, .int .u64 (sr : Int), .int .i64 cd, .string nm, .int .i64 id, .int .i64 at_, .string bd]] w fun e w' => e = .returned (.bool (decide ((1 : Int) ≤ (nn : Int)) && decide ((1 : Int) ≤ (ec : Int)) && decide ((1 : Int) ≤ (sq : Int)) && toldB l && zeroPk ⟨kd, fr, bk, tw, hm, hp, sr, cd, nm, id, at_, bd⟩)) ∧ Below w.heap.size w w' := by
  have HA := Lib.hid (mNums_any k nn ec sq na l.length nc kd fr bk tw hm hp sr cd nm id at_ bd)
  have HL := Lib.hid (fun (W : World) (h : Below w.heap.size w W) => mList_any l na nc W (hin.kept (fun i hi => h.block i hi) h.size) hfit)
  have HZ := Lib.hid (mNoPk_any k nn ec sq na l.length nc kd fr bk tw hm hp sr cd nm id at_ bd)
  clear hin hfit hn
  generalize zeroPk ⟨kd, fr, bk, tw, hm, hp, sr, cd, nm, id, at_, bd⟩ = Z at *
  generalize toldB l = L at *
  generalize (decide ((1 : Int) ≤ (nn : Int)) && decide ((1 : Int) ≤ (ec : Int)) && decide ((1 : Int) ≤ (sq : Int))) = A at *
  cases A
  · skip
    go_enter Try.func71, Try.ntmps71
    go_upto_region 5 with (fail)
    have B0 : Below w.heap.size w (w.alloc (.cells #[.int .i64 k, .int .u64 (nn : Int), .int .u64 (ec : Int), .int .u64 (sq : Int), .slice na l.length nc, .int .i64 kd, .int .i64 fr, .int .i64 bk, .int .i64 tw, .int .i64 hm, .int .i64 hp, .int .u64 (sr : Int), .int .i64 cd, .string nm, .int .i64 id, .int .i64 at_, .string bd] 89)) ∧ w.heap.size < (w.alloc (.cells #[.int .i64 k, .int .u64 (nn : Int), .int .u64 (ec : Int), .int .u64 (sq : Int), .slice na l.length nc, .int .i64 kd, .int .i64 fr, .int .i64 bk, .int .i64 tw, .int .i64 hm, .int .i64 hp, .int .u64 (sr : Int), .int .i64 cd, .string nm, .int .i64 id, .int .i64 at_, .string bd] 89)).heap.size := ⟨below_al _ _, by simp⟩
    have R0 := range_ms w 89 (.int .i64 k) (.int .u64 (nn : Int)) (.int .u64 (ec : Int)) (.int .u64 (sq : Int)) (.slice na l.length nc) (.int .i64 kd) (.int .i64 fr) (.int .i64 bk) (.int .i64 tw) (.int .i64 hm) (.int .i64 hp) (.int .u64 (sr : Int)) (.int .i64 cd) (.string nm) (.int .i64 id) (.int .i64 at_) (.string bd)
    refine wp_region_list ?_
    refine wpList_load_guard (by kernel_rfl) 89 (.tmp 1) rfl w.heap.size 0 rfl [.int .i64 k, .int .u64 (nn : Int), .int .u64 (ec : Int), .int .u64 (sq : Int), .slice na l.length nc, .int .i64 kd, .int .i64 fr, .int .i64 bk, .int .i64 tw, .int .i64 hm, .int .i64 hp, .int .u64 (sr : Int), .int .i64 cd, .string nm, .int .i64 id, .int .i64 at_, .string bd] _ R0 Try.underlying89 (by rfl) (by kernel_rfl) ?_
    (try simp only [Act.put, List.setIfInBounds_toArray, List.set_cons_zero, List.set_cons_succ, List.getElem_toArray, List.getElem_cons_succ, List.getElem_cons_zero])
    refine wpList_step (fun K hK0 => ?_)
    have hK := Lib.hid hK0
    clear hK0
    go_simp
    refine (HA.out _).mono ?_
    rintro e w3 ⟨rfl, hb3⟩
    have R3 := range_next R0 B0.2 hb3
    have B3 := bel_next B0 hb3
    go_wp2_with fail
    refine hK.out _ _ ?_
    clear hK K
    (try simp only [Act.put, List.setIfInBounds_toArray, List.set_cons_zero, List.set_cons_succ, List.getElem_toArray, List.getElem_cons_succ, List.getElem_cons_zero])
    iterate 10 (refine wpList_step (fun K hK0 => ?_); have hK := Lib.hid hK0; clear hK0; go_simp; refine hK.out _ _ ?_; clear hK K; (try simp only [Act.put, List.setIfInBounds_toArray, List.set_cons_zero, List.set_cons_succ, List.getElem_toArray, List.getElem_cons_succ, List.getElem_cons_zero]))
    refine wpList_nil ?_
    go_wp2_with fail
    go_ret
    exact ⟨ret_bool (by first | rfl | (simp [*]; done)), B3.1⟩
  · skip
    cases L
    · skip
      go_enter Try.func71, Try.ntmps71
      go_upto_region 5 with (fail)
      have B0 : Below w.heap.size w (w.alloc (.cells #[.int .i64 k, .int .u64 (nn : Int), .int .u64 (ec : Int), .int .u64 (sq : Int), .slice na l.length nc, .int .i64 kd, .int .i64 fr, .int .i64 bk, .int .i64 tw, .int .i64 hm, .int .i64 hp, .int .u64 (sr : Int), .int .i64 cd, .string nm, .int .i64 id, .int .i64 at_, .string bd] 89)) ∧ w.heap.size < (w.alloc (.cells #[.int .i64 k, .int .u64 (nn : Int), .int .u64 (ec : Int), .int .u64 (sq : Int), .slice na l.length nc, .int .i64 kd, .int .i64 fr, .int .i64 bk, .int .i64 tw, .int .i64 hm, .int .i64 hp, .int .u64 (sr : Int), .int .i64 cd, .string nm, .int .i64 id, .int .i64 at_, .string bd] 89)).heap.size := ⟨below_al _ _, by simp⟩
      have R0 := range_ms w 89 (.int .i64 k) (.int .u64 (nn : Int)) (.int .u64 (ec : Int)) (.int .u64 (sq : Int)) (.slice na l.length nc) (.int .i64 kd) (.int .i64 fr) (.int .i64 bk) (.int .i64 tw) (.int .i64 hm) (.int .i64 hp) (.int .u64 (sr : Int)) (.int .i64 cd) (.string nm) (.int .i64 id) (.int .i64 at_) (.string bd)
      refine wp_region_list ?_
      refine wpList_load_guard (by kernel_rfl) 89 (.tmp 1) rfl w.heap.size 0 rfl [.int .i64 k, .int .u64 (nn : Int), .int .u64 (ec : Int), .int .u64 (sq : Int), .slice na l.length nc, .int .i64 kd, .int .i64 fr, .int .i64 bk, .int .i64 tw, .int .i64 hm, .int .i64 hp, .int .u64 (sr : Int), .int .i64 cd, .string nm, .int .i64 id, .int .i64 at_, .string bd] _ R0 Try.underlying89 (by rfl) (by kernel_rfl) ?_
      (try simp only [Act.put, List.setIfInBounds_toArray, List.set_cons_zero, List.set_cons_succ, List.getElem_toArray, List.getElem_cons_succ, List.getElem_cons_zero])
      refine wpList_step (fun K hK0 => ?_)
      have hK := Lib.hid hK0
      clear hK0
      go_simp
      refine (HA.out _).mono ?_
      rintro e w3 ⟨rfl, hb3⟩
      have R3 := range_next R0 B0.2 hb3
      have B3 := bel_next B0 hb3
      go_wp2_with fail
      refine hK.out _ _ ?_
      clear hK K
      (try simp only [Act.put, List.setIfInBounds_toArray, List.set_cons_zero, List.set_cons_succ, List.getElem_toArray, List.getElem_cons_succ, List.getElem_cons_zero])
      iterate 2 (refine wpList_step (fun K hK0 => ?_); have hK := Lib.hid hK0; clear hK0; go_simp; refine hK.out _ _ ?_; clear hK K; (try simp only [Act.put, List.setIfInBounds_toArray, List.set_cons_zero, List.set_cons_succ, List.getElem_toArray, List.getElem_cons_succ, List.getElem_cons_zero]))
      have c4 : w3.cell? ⟨w.heap.size, 4, none⟩ = some (.slice na l.length nc) := R3 4 _ rfl
      refine wpList_step (fun K hK0 => ?_)
      have hK := Lib.hid hK0
      clear hK0
      go_simp
      refine hK.out _ _ ?_
      clear hK K
      (try simp only [Act.put, List.setIfInBounds_toArray, List.set_cons_zero, List.set_cons_succ, List.getElem_toArray, List.getElem_cons_succ, List.getElem_cons_zero])
      refine wpList_step (fun K hK0 => ?_)
      have hK := Lib.hid hK0
      clear hK0
      go_simp
      refine (HL.out _ B3.1).mono ?_
      rintro e w4 ⟨rfl, hb4⟩
      have R4 := range_next R3 B3.2 hb4
      have B4 := bel_next B3 hb4
      go_wp2_with fail
      refine hK.out _ _ ?_
      clear hK K
      (try simp only [Act.put, List.setIfInBounds_toArray, List.set_cons_zero, List.set_cons_succ, List.getElem_toArray, List.getElem_cons_succ, List.getElem_cons_zero])
      iterate 6 (refine wpList_step (fun K hK0 => ?_); have hK := Lib.hid hK0; clear hK0; go_simp; refine hK.out _ _ ?_; clear hK K; (try simp only [Act.put, List.setIfInBounds_toArray, List.set_cons_zero, List.set_cons_succ, List.getElem_toArray, List.getElem_cons_succ, List.getElem_cons_zero]))
      refine wpList_nil ?_
      go_wp2_with fail
      go_ret
      exact ⟨ret_bool (by first | rfl | (simp [*]; done)), B4.1⟩
    · skip
      cases Z
      · skip
        go_enter Try.func71, Try.ntmps71
        go_upto_region 5 with (fail)
        have B0 : Below w.heap.size w (w.alloc (.cells #[.int .i64 k, .int .u64 (nn : Int), .int .u64 (ec : Int), .int .u64 (sq : Int), .slice na l.length nc, .int .i64 kd, .int .i64 fr, .int .i64 bk, .int .i64 tw, .int .i64 hm, .int .i64 hp, .int .u64 (sr : Int), .int .i64 cd, .string nm, .int .i64 id, .int .i64 at_, .string bd] 89)) ∧ w.heap.size < (w.alloc (.cells #[.int .i64 k, .int .u64 (nn : Int), .int .u64 (ec : Int), .int .u64 (sq : Int), .slice na l.length nc, .int .i64 kd, .int .i64 fr, .int .i64 bk, .int .i64 tw, .int .i64 hm, .int .i64 hp, .int .u64 (sr : Int), .int .i64 cd, .string nm, .int .i64 id, .int .i64 at_, .string bd] 89)).heap.size := ⟨below_al _ _, by simp⟩
        have R0 := range_ms w 89 (.int .i64 k) (.int .u64 (nn : Int)) (.int .u64 (ec : Int)) (.int .u64 (sq : Int)) (.slice na l.length nc) (.int .i64 kd) (.int .i64 fr) (.int .i64 bk) (.int .i64 tw) (.int .i64 hm) (.int .i64 hp) (.int .u64 (sr : Int)) (.int .i64 cd) (.string nm) (.int .i64 id) (.int .i64 at_) (.string bd)
        refine wp_region_list ?_
        refine wpList_load_guard (by kernel_rfl) 89 (.tmp 1) rfl w.heap.size 0 rfl [.int .i64 k, .int .u64 (nn : Int), .int .u64 (ec : Int), .int .u64 (sq : Int), .slice na l.length nc, .int .i64 kd, .int .i64 fr, .int .i64 bk, .int .i64 tw, .int .i64 hm, .int .i64 hp, .int .u64 (sr : Int), .int .i64 cd, .string nm, .int .i64 id, .int .i64 at_, .string bd] _ R0 Try.underlying89 (by rfl) (by kernel_rfl) ?_
        (try simp only [Act.put, List.setIfInBounds_toArray, List.set_cons_zero, List.set_cons_succ, List.getElem_toArray, List.getElem_cons_succ, List.getElem_cons_zero])
        refine wpList_step (fun K hK0 => ?_)
        have hK := Lib.hid hK0
        clear hK0
        go_simp
        refine (HA.out _).mono ?_
        rintro e w3 ⟨rfl, hb3⟩
        have R3 := range_next R0 B0.2 hb3
        have B3 := bel_next B0 hb3
        go_wp2_with fail
        refine hK.out _ _ ?_
        clear hK K
        (try simp only [Act.put, List.setIfInBounds_toArray, List.set_cons_zero, List.set_cons_succ, List.getElem_toArray, List.getElem_cons_succ, List.getElem_cons_zero])
        iterate 2 (refine wpList_step (fun K hK0 => ?_); have hK := Lib.hid hK0; clear hK0; go_simp; refine hK.out _ _ ?_; clear hK K; (try simp only [Act.put, List.setIfInBounds_toArray, List.set_cons_zero, List.set_cons_succ, List.getElem_toArray, List.getElem_cons_succ, List.getElem_cons_zero]))
        have c4 : w3.cell? ⟨w.heap.size, 4, none⟩ = some (.slice na l.length nc) := R3 4 _ rfl
        refine wpList_step (fun K hK0 => ?_)
        have hK := Lib.hid hK0
        clear hK0
        go_simp
        refine hK.out _ _ ?_
        clear hK K
        (try simp only [Act.put, List.setIfInBounds_toArray, List.set_cons_zero, List.set_cons_succ, List.getElem_toArray, List.getElem_cons_succ, List.getElem_cons_zero])
        refine wpList_step (fun K hK0 => ?_)
        have hK := Lib.hid hK0
        clear hK0
        go_simp
        refine (HL.out _ B3.1).mono ?_
        rintro e w4 ⟨rfl, hb4⟩
        have R4 := range_next R3 B3.2 hb4
        have B4 := bel_next B3 hb4
        go_wp2_with fail
        refine hK.out _ _ ?_
        clear hK K
        (try simp only [Act.put, List.setIfInBounds_toArray, List.set_cons_zero, List.set_cons_succ, List.getElem_toArray, List.getElem_cons_succ, List.getElem_cons_zero])
        iterate 2 (refine wpList_step (fun K hK0 => ?_); have hK := Lib.hid hK0; clear hK0; go_simp; refine hK.out _ _ ?_; clear hK K; (try simp only [Act.put, List.setIfInBounds_toArray, List.set_cons_zero, List.set_cons_succ, List.getElem_toArray, List.getElem_cons_succ, List.getElem_cons_zero]))
        refine wpList_load_guard (by kernel_rfl) 89 (.tmp 1) rfl w.heap.size 0 rfl [.int .i64 k, .int .u64 (nn : Int), .int .u64 (ec : Int), .int .u64 (sq : Int), .slice na l.length nc, .int .i64 kd, .int .i64 fr, .int .i64 bk, .int .i64 tw, .int .i64 hm, .int .i64 hp, .int .u64 (sr : Int), .int .i64 cd, .string nm, .int .i64 id, .int .i64 at_, .string bd] _ R4 Try.underlying89 (by rfl) (by kernel_rfl) ?_
        (try simp only [Act.put, List.setIfInBounds_toArray, List.set_cons_zero, List.set_cons_succ, List.getElem_toArray, List.getElem_cons_succ, List.getElem_cons_zero])
        refine wpList_step (fun K hK0 => ?_)
        have hK := Lib.hid hK0
        clear hK0
        go_simp
        refine (HZ.out _).mono ?_
        rintro e w5 ⟨rfl, hb5⟩
        have R5 := range_next R4 B4.2 hb5
        have B5 := bel_next B4 hb5
        go_wp2_with fail
        refine hK.out _ _ ?_
        clear hK K
        (try simp only [Act.put, List.setIfInBounds_toArray, List.set_cons_zero, List.set_cons_succ, List.getElem_toArray, List.getElem_cons_succ, List.getElem_cons_zero])
        iterate 2 (refine wpList_step (fun K hK0 => ?_); have hK := Lib.hid hK0; clear hK0; go_simp; refine hK.out _ _ ?_; clear hK K; (try simp only [Act.put, List.setIfInBounds_toArray, List.set_cons_zero, List.set_cons_succ, List.getElem_toArray, List.getElem_cons_succ, List.getElem_cons_zero]))
        refine wpList_nil ?_
        go_wp2_with fail
        go_ret
        exact ⟨ret_bool (by first | rfl | (simp [*]; done)), B5.1⟩
      · skip
        go_enter Try.func71, Try.ntmps71
        go_upto_region 5 with (fail)
        have B0 : Below w.heap.size w (w.alloc (.cells #[.int .i64 k, .int .u64 (nn : Int), .int .u64 (ec : Int), .int .u64 (sq : Int), .slice na l.length nc, .int .i64 kd, .int .i64 fr, .int .i64 bk, .int .i64 tw, .int .i64 hm, .int .i64 hp, .int .u64 (sr : Int), .int .i64 cd, .string nm, .int .i64 id, .int .i64 at_, .string bd] 89)) ∧ w.heap.size < (w.alloc (.cells #[.int .i64 k, .int .u64 (nn : Int), .int .u64 (ec : Int), .int .u64 (sq : Int), .slice na l.length nc, .int .i64 kd, .int .i64 fr, .int .i64 bk, .int .i64 tw, .int .i64 hm, .int .i64 hp, .int .u64 (sr : Int), .int .i64 cd, .string nm, .int .i64 id, .int .i64 at_, .string bd] 89)).heap.size := ⟨below_al _ _, by simp⟩
        have R0 := range_ms w 89 (.int .i64 k) (.int .u64 (nn : Int)) (.int .u64 (ec : Int)) (.int .u64 (sq : Int)) (.slice na l.length nc) (.int .i64 kd) (.int .i64 fr) (.int .i64 bk) (.int .i64 tw) (.int .i64 hm) (.int .i64 hp) (.int .u64 (sr : Int)) (.int .i64 cd) (.string nm) (.int .i64 id) (.int .i64 at_) (.string bd)
        refine wp_region_list ?_
        refine wpList_load_guard (by kernel_rfl) 89 (.tmp 1) rfl w.heap.size 0 rfl [.int .i64 k, .int .u64 (nn : Int), .int .u64 (ec : Int), .int .u64 (sq : Int), .slice na l.length nc, .int .i64 kd, .int .i64 fr, .int .i64 bk, .int .i64 tw, .int .i64 hm, .int .i64 hp, .int .u64 (sr : Int), .int .i64 cd, .string nm, .int .i64 id, .int .i64 at_, .string bd] _ R0 Try.underlying89 (by rfl) (by kernel_rfl) ?_
        (try simp only [Act.put, List.setIfInBounds_toArray, List.set_cons_zero, List.set_cons_succ, List.getElem_toArray, List.getElem_cons_succ, List.getElem_cons_zero])
        refine wpList_step (fun K hK0 => ?_)
        have hK := Lib.hid hK0
        clear hK0
        go_simp
        refine (HA.out _).mono ?_
        rintro e w3 ⟨rfl, hb3⟩
        have R3 := range_next R0 B0.2 hb3
        have B3 := bel_next B0 hb3
        go_wp2_with fail
        refine hK.out _ _ ?_
        clear hK K
        (try simp only [Act.put, List.setIfInBounds_toArray, List.set_cons_zero, List.set_cons_succ, List.getElem_toArray, List.getElem_cons_succ, List.getElem_cons_zero])
        iterate 2 (refine wpList_step (fun K hK0 => ?_); have hK := Lib.hid hK0; clear hK0; go_simp; refine hK.out _ _ ?_; clear hK K; (try simp only [Act.put, List.setIfInBounds_toArray, List.set_cons_zero, List.set_cons_succ, List.getElem_toArray, List.getElem_cons_succ, List.getElem_cons_zero]))
        have c4 : w3.cell? ⟨w.heap.size, 4, none⟩ = some (.slice na l.length nc) := R3 4 _ rfl
        refine wpList_step (fun K hK0 => ?_)
        have hK := Lib.hid hK0
        clear hK0
        go_simp
        refine hK.out _ _ ?_
        clear hK K
        (try simp only [Act.put, List.setIfInBounds_toArray, List.set_cons_zero, List.set_cons_succ, List.getElem_toArray, List.getElem_cons_succ, List.getElem_cons_zero])
        refine wpList_step (fun K hK0 => ?_)
        have hK := Lib.hid hK0
        clear hK0
        go_simp
        refine (HL.out _ B3.1).mono ?_
        rintro e w4 ⟨rfl, hb4⟩
        have R4 := range_next R3 B3.2 hb4
        have B4 := bel_next B3 hb4
        go_wp2_with fail
        refine hK.out _ _ ?_
        clear hK K
        (try simp only [Act.put, List.setIfInBounds_toArray, List.set_cons_zero, List.set_cons_succ, List.getElem_toArray, List.getElem_cons_succ, List.getElem_cons_zero])
        iterate 2 (refine wpList_step (fun K hK0 => ?_); have hK := Lib.hid hK0; clear hK0; go_simp; refine hK.out _ _ ?_; clear hK K; (try simp only [Act.put, List.setIfInBounds_toArray, List.set_cons_zero, List.set_cons_succ, List.getElem_toArray, List.getElem_cons_succ, List.getElem_cons_zero]))
        refine wpList_load_guard (by kernel_rfl) 89 (.tmp 1) rfl w.heap.size 0 rfl [.int .i64 k, .int .u64 (nn : Int), .int .u64 (ec : Int), .int .u64 (sq : Int), .slice na l.length nc, .int .i64 kd, .int .i64 fr, .int .i64 bk, .int .i64 tw, .int .i64 hm, .int .i64 hp, .int .u64 (sr : Int), .int .i64 cd, .string nm, .int .i64 id, .int .i64 at_, .string bd] _ R4 Try.underlying89 (by rfl) (by kernel_rfl) ?_
        (try simp only [Act.put, List.setIfInBounds_toArray, List.set_cons_zero, List.set_cons_succ, List.getElem_toArray, List.getElem_cons_succ, List.getElem_cons_zero])
        refine wpList_step (fun K hK0 => ?_)
        have hK := Lib.hid hK0
        clear hK0
        go_simp
        refine (HZ.out _).mono ?_
        rintro e w5 ⟨rfl, hb5⟩
        have R5 := range_next R4 B4.2 hb5
        have B5 := bel_next B4 hb5
        go_wp2_with fail
        refine hK.out _ _ ?_
        clear hK K
        (try simp only [Act.put, List.setIfInBounds_toArray, List.set_cons_zero, List.set_cons_succ, List.getElem_toArray, List.getElem_cons_succ, List.getElem_cons_zero])
        iterate 2 (refine wpList_step (fun K hK0 => ?_); have hK := Lib.hid hK0; clear hK0; go_simp; refine hK.out _ _ ?_; clear hK K; (try simp only [Act.put, List.setIfInBounds_toArray, List.set_cons_zero, List.set_cons_succ, List.getElem_toArray, List.getElem_cons_succ, List.getElem_cons_zero]))
        refine wpList_nil ?_
        go_wp2_with fail
        go_ret
        exact ⟨ret_bool (by first | rfl | (simp [*]; done)), B5.1⟩
set_option maxHeartbeats 4000000 in
theorem mMay_3 (k : Int) (nn ec sq : Nat) (l : List Nw) (na : Option Addr) (nc : Nat) (kd fr bk tw hm hp : Int) (sr : Nat) (cd : Int) (nm : ByteArray) (id at_ : Int) (bd : ByteArray) (hn : nm.size ≤ 9223372036854775807) (w : World) (hin : NewsIn w w.heap.size l na) (hfit : ∀ n ∈ l, n.Fit) (k1 : (k == 1) = false) (k2 : (k == 2) = false) (k3 : (k == 3) = true) : Calls Try.prog 71 #[.agg #[.int .i64 k, .int .u64 (nn : Int), .int .u64 (ec : Int), .int .u64 (sq : Int), .slice na l.length nc, .int .i64 kd, .int .i64 fr, .int .i64 bk, .int .i64 tw, .int .i64 hm, .int .i64 hp, .int .u64 (sr : Int), .int .i64 cd, .string nm, .int .i64 id, .int .i64 at_, .string bd]] w fun e w' => e = .returned (.bool (decide ((1 : Int) ≤ (nn : Int)) && decide ((1 : Int) ≤ (ec : Int)) && decide ((1 : Int) ≤ (sq : Int)) && ((l.length : Int) == 0) && zeroPk ⟨kd, fr, bk, tw, hm, hp, sr, cd, nm, id, at_, bd⟩)) ∧ Below w.heap.size w w' := by
  have HA := Lib.hid (mNums_any k nn ec sq na l.length nc kd fr bk tw hm hp sr cd nm id at_ bd)
  have HN := Lib.hid (mNoNews_any k nn ec sq na l.length nc kd fr bk tw hm hp sr cd nm id at_ bd)
  have HZ := Lib.hid (mNoPk_any k nn ec sq na l.length nc kd fr bk tw hm hp sr cd nm id at_ bd)
  clear hin hfit hn
  generalize zeroPk ⟨kd, fr, bk, tw, hm, hp, sr, cd, nm, id, at_, bd⟩ = Z at *
  generalize ((l.length : Int) == 0) = N at *
  generalize (decide ((1 : Int) ≤ (nn : Int)) && decide ((1 : Int) ≤ (ec : Int)) && decide ((1 : Int) ≤ (sq : Int))) = A at *
  cases A
  · skip
    go_enter Try.func71, Try.ntmps71
    go_upto_region 7 with (fail)
    have B0 : Below w.heap.size w (w.alloc (.cells #[.int .i64 k, .int .u64 (nn : Int), .int .u64 (ec : Int), .int .u64 (sq : Int), .slice na l.length nc, .int .i64 kd, .int .i64 fr, .int .i64 bk, .int .i64 tw, .int .i64 hm, .int .i64 hp, .int .u64 (sr : Int), .int .i64 cd, .string nm, .int .i64 id, .int .i64 at_, .string bd] 89)) ∧ w.heap.size < (w.alloc (.cells #[.int .i64 k, .int .u64 (nn : Int), .int .u64 (ec : Int), .int .u64 (sq : Int), .slice na l.length nc, .int .i64 kd, .int .i64 fr, .int .i64 bk, .int .i64 tw, .int .i64 hm, .int .i64 hp, .int .u64 (sr : Int), .int .i64 cd, .string nm, .int .i64 id, .int .i64 at_, .string bd] 89)).heap.size := ⟨below_al _ _, by simp⟩
    have R0 := range_ms w 89 (.int .i64 k) (.int .u64 (nn : Int)) (.int .u64 (ec : Int)) (.int .u64 (sq : Int)) (.slice na l.length nc) (.int .i64 kd) (.int .i64 fr) (.int .i64 bk) (.int .i64 tw) (.int .i64 hm) (.int .i64 hp) (.int .u64 (sr : Int)) (.int .i64 cd) (.string nm) (.int .i64 id) (.int .i64 at_) (.string bd)
    refine wp_region_list ?_
    refine wpList_load_guard (by kernel_rfl) 89 (.tmp 1) rfl w.heap.size 0 rfl [.int .i64 k, .int .u64 (nn : Int), .int .u64 (ec : Int), .int .u64 (sq : Int), .slice na l.length nc, .int .i64 kd, .int .i64 fr, .int .i64 bk, .int .i64 tw, .int .i64 hm, .int .i64 hp, .int .u64 (sr : Int), .int .i64 cd, .string nm, .int .i64 id, .int .i64 at_, .string bd] _ R0 Try.underlying89 (by rfl) (by kernel_rfl) ?_
    (try simp only [Act.put, List.setIfInBounds_toArray, List.set_cons_zero, List.set_cons_succ, List.getElem_toArray, List.getElem_cons_succ, List.getElem_cons_zero])
    refine wpList_step (fun K hK0 => ?_)
    have hK := Lib.hid hK0
    clear hK0
    go_simp
    refine (HA.out _).mono ?_
    rintro e w3 ⟨rfl, hb3⟩
    have R3 := range_next R0 B0.2 hb3
    have B3 := bel_next B0 hb3
    go_wp2_with fail
    refine hK.out _ _ ?_
    clear hK K
    (try simp only [Act.put, List.setIfInBounds_toArray, List.set_cons_zero, List.set_cons_succ, List.getElem_toArray, List.getElem_cons_succ, List.getElem_cons_zero])
    iterate 9 (refine wpList_step (fun K hK0 => ?_); have hK := Lib.hid hK0; clear hK0; go_simp; refine hK.out _ _ ?_; clear hK K; (try simp only [Act.put, List.setIfInBounds_toArray, List.set_cons_zero, List.set_cons_succ, List.getElem_toArray, List.getElem_cons_succ, List.getElem_cons_zero]))
    refine wpList_nil ?_
    go_wp2_with fail
    go_ret
    exact ⟨ret_bool (by first | rfl | (simp [*]; done)), B3.1⟩
  · skip
    cases N
    · skip
      go_enter Try.func71, Try.ntmps71
      go_upto_region 7 with (fail)
      have B0 : Below w.heap.size w (w.alloc (.cells #[.int .i64 k, .int .u64 (nn : Int), .int .u64 (ec : Int), .int .u64 (sq : Int), .slice na l.length nc, .int .i64 kd, .int .i64 fr, .int .i64 bk, .int .i64 tw, .int .i64 hm, .int .i64 hp, .int .u64 (sr : Int), .int .i64 cd, .string nm, .int .i64 id, .int .i64 at_, .string bd] 89)) ∧ w.heap.size < (w.alloc (.cells #[.int .i64 k, .int .u64 (nn : Int), .int .u64 (ec : Int), .int .u64 (sq : Int), .slice na l.length nc, .int .i64 kd, .int .i64 fr, .int .i64 bk, .int .i64 tw, .int .i64 hm, .int .i64 hp, .int .u64 (sr : Int), .int .i64 cd, .string nm, .int .i64 id, .int .i64 at_, .string bd] 89)).heap.size := ⟨below_al _ _, by simp⟩
      have R0 := range_ms w 89 (.int .i64 k) (.int .u64 (nn : Int)) (.int .u64 (ec : Int)) (.int .u64 (sq : Int)) (.slice na l.length nc) (.int .i64 kd) (.int .i64 fr) (.int .i64 bk) (.int .i64 tw) (.int .i64 hm) (.int .i64 hp) (.int .u64 (sr : Int)) (.int .i64 cd) (.string nm) (.int .i64 id) (.int .i64 at_) (.string bd)
      refine wp_region_list ?_
      refine wpList_load_guard (by kernel_rfl) 89 (.tmp 1) rfl w.heap.size 0 rfl [.int .i64 k, .int .u64 (nn : Int), .int .u64 (ec : Int), .int .u64 (sq : Int), .slice na l.length nc, .int .i64 kd, .int .i64 fr, .int .i64 bk, .int .i64 tw, .int .i64 hm, .int .i64 hp, .int .u64 (sr : Int), .int .i64 cd, .string nm, .int .i64 id, .int .i64 at_, .string bd] _ R0 Try.underlying89 (by rfl) (by kernel_rfl) ?_
      (try simp only [Act.put, List.setIfInBounds_toArray, List.set_cons_zero, List.set_cons_succ, List.getElem_toArray, List.getElem_cons_succ, List.getElem_cons_zero])
      refine wpList_step (fun K hK0 => ?_)
      have hK := Lib.hid hK0
      clear hK0
      go_simp
      refine (HA.out _).mono ?_
      rintro e w3 ⟨rfl, hb3⟩
      have R3 := range_next R0 B0.2 hb3
      have B3 := bel_next B0 hb3
      go_wp2_with fail
      refine hK.out _ _ ?_
      clear hK K
      (try simp only [Act.put, List.setIfInBounds_toArray, List.set_cons_zero, List.set_cons_succ, List.getElem_toArray, List.getElem_cons_succ, List.getElem_cons_zero])
      refine wpList_step (fun K hK0 => ?_)
      have hK := Lib.hid hK0
      clear hK0
      go_simp
      refine hK.out _ _ ?_
      clear hK K
      (try simp only [Act.put, List.setIfInBounds_toArray, List.set_cons_zero, List.set_cons_succ, List.getElem_toArray, List.getElem_cons_succ, List.getElem_cons_zero])
      refine wpList_load_guard (by kernel_rfl) 89 (.tmp 1) rfl w.heap.size 0 rfl [.int .i64 k, .int .u64 (nn : Int), .int .u64 (ec : Int), .int .u64 (sq : Int), .slice na l.length nc, .int .i64 kd, .int .i64 fr, .int .i64 bk, .int .i64 tw, .int .i64 hm, .int .i64 hp, .int .u64 (sr : Int), .int .i64 cd, .string nm, .int .i64 id, .int .i64 at_, .string bd] _ R3 Try.underlying89 (by rfl) (by kernel_rfl) ?_
      (try simp only [Act.put, List.setIfInBounds_toArray, List.set_cons_zero, List.set_cons_succ, List.getElem_toArray, List.getElem_cons_succ, List.getElem_cons_zero])
      refine wpList_step (fun K hK0 => ?_)
      have hK := Lib.hid hK0
      clear hK0
      go_simp
      refine (HN.out _).mono ?_
      rintro e w4 ⟨rfl, hb4⟩
      have R4 := range_next R3 B3.2 hb4
      have B4 := bel_next B3 hb4
      go_wp2_with fail
      refine hK.out _ _ ?_
      clear hK K
      (try simp only [Act.put, List.setIfInBounds_toArray, List.set_cons_zero, List.set_cons_succ, List.getElem_toArray, List.getElem_cons_succ, List.getElem_cons_zero])
      iterate 6 (refine wpList_step (fun K hK0 => ?_); have hK := Lib.hid hK0; clear hK0; go_simp; refine hK.out _ _ ?_; clear hK K; (try simp only [Act.put, List.setIfInBounds_toArray, List.set_cons_zero, List.set_cons_succ, List.getElem_toArray, List.getElem_cons_succ, List.getElem_cons_zero]))
      refine wpList_nil ?_
      go_wp2_with fail
      go_ret
      exact ⟨ret_bool (by first | rfl | (simp [*]; done)), B4.1⟩
    · skip
      cases Z
      · skip
        go_enter Try.func71, Try.ntmps71
        go_upto_region 7 with (fail)
        have B0 : Below w.heap.size w (w.alloc (.cells #[.int .i64 k, .int .u64 (nn : Int), .int .u64 (ec : Int), .int .u64 (sq : Int), .slice na l.length nc, .int .i64 kd, .int .i64 fr, .int .i64 bk, .int .i64 tw, .int .i64 hm, .int .i64 hp, .int .u64 (sr : Int), .int .i64 cd, .string nm, .int .i64 id, .int .i64 at_, .string bd] 89)) ∧ w.heap.size < (w.alloc (.cells #[.int .i64 k, .int .u64 (nn : Int), .int .u64 (ec : Int), .int .u64 (sq : Int), .slice na l.length nc, .int .i64 kd, .int .i64 fr, .int .i64 bk, .int .i64 tw, .int .i64 hm, .int .i64 hp, .int .u64 (sr : Int), .int .i64 cd, .string nm, .int .i64 id, .int .i64 at_, .string bd] 89)).heap.size := ⟨below_al _ _, by simp⟩
        have R0 := range_ms w 89 (.int .i64 k) (.int .u64 (nn : Int)) (.int .u64 (ec : Int)) (.int .u64 (sq : Int)) (.slice na l.length nc) (.int .i64 kd) (.int .i64 fr) (.int .i64 bk) (.int .i64 tw) (.int .i64 hm) (.int .i64 hp) (.int .u64 (sr : Int)) (.int .i64 cd) (.string nm) (.int .i64 id) (.int .i64 at_) (.string bd)
        refine wp_region_list ?_
        refine wpList_load_guard (by kernel_rfl) 89 (.tmp 1) rfl w.heap.size 0 rfl [.int .i64 k, .int .u64 (nn : Int), .int .u64 (ec : Int), .int .u64 (sq : Int), .slice na l.length nc, .int .i64 kd, .int .i64 fr, .int .i64 bk, .int .i64 tw, .int .i64 hm, .int .i64 hp, .int .u64 (sr : Int), .int .i64 cd, .string nm, .int .i64 id, .int .i64 at_, .string bd] _ R0 Try.underlying89 (by rfl) (by kernel_rfl) ?_
        (try simp only [Act.put, List.setIfInBounds_toArray, List.set_cons_zero, List.set_cons_succ, List.getElem_toArray, List.getElem_cons_succ, List.getElem_cons_zero])
        refine wpList_step (fun K hK0 => ?_)
        have hK := Lib.hid hK0
        clear hK0
        go_simp
        refine (HA.out _).mono ?_
        rintro e w3 ⟨rfl, hb3⟩
        have R3 := range_next R0 B0.2 hb3
        have B3 := bel_next B0 hb3
        go_wp2_with fail
        refine hK.out _ _ ?_
        clear hK K
        (try simp only [Act.put, List.setIfInBounds_toArray, List.set_cons_zero, List.set_cons_succ, List.getElem_toArray, List.getElem_cons_succ, List.getElem_cons_zero])
        refine wpList_step (fun K hK0 => ?_)
        have hK := Lib.hid hK0
        clear hK0
        go_simp
        refine hK.out _ _ ?_
        clear hK K
        (try simp only [Act.put, List.setIfInBounds_toArray, List.set_cons_zero, List.set_cons_succ, List.getElem_toArray, List.getElem_cons_succ, List.getElem_cons_zero])
        refine wpList_load_guard (by kernel_rfl) 89 (.tmp 1) rfl w.heap.size 0 rfl [.int .i64 k, .int .u64 (nn : Int), .int .u64 (ec : Int), .int .u64 (sq : Int), .slice na l.length nc, .int .i64 kd, .int .i64 fr, .int .i64 bk, .int .i64 tw, .int .i64 hm, .int .i64 hp, .int .u64 (sr : Int), .int .i64 cd, .string nm, .int .i64 id, .int .i64 at_, .string bd] _ R3 Try.underlying89 (by rfl) (by kernel_rfl) ?_
        (try simp only [Act.put, List.setIfInBounds_toArray, List.set_cons_zero, List.set_cons_succ, List.getElem_toArray, List.getElem_cons_succ, List.getElem_cons_zero])
        refine wpList_step (fun K hK0 => ?_)
        have hK := Lib.hid hK0
        clear hK0
        go_simp
        refine (HN.out _).mono ?_
        rintro e w4 ⟨rfl, hb4⟩
        have R4 := range_next R3 B3.2 hb4
        have B4 := bel_next B3 hb4
        go_wp2_with fail
        refine hK.out _ _ ?_
        clear hK K
        (try simp only [Act.put, List.setIfInBounds_toArray, List.set_cons_zero, List.set_cons_succ, List.getElem_toArray, List.getElem_cons_succ, List.getElem_cons_zero])
        iterate 2 (refine wpList_step (fun K hK0 => ?_); have hK := Lib.hid hK0; clear hK0; go_simp; refine hK.out _ _ ?_; clear hK K; (try simp only [Act.put, List.setIfInBounds_toArray, List.set_cons_zero, List.set_cons_succ, List.getElem_toArray, List.getElem_cons_succ, List.getElem_cons_zero]))
        refine wpList_load_guard (by kernel_rfl) 89 (.tmp 1) rfl w.heap.size 0 rfl [.int .i64 k, .int .u64 (nn : Int), .int .u64 (ec : Int), .int .u64 (sq : Int), .slice na l.length nc, .int .i64 kd, .int .i64 fr, .int .i64 bk, .int .i64 tw, .int .i64 hm, .int .i64 hp, .int .u64 (sr : Int), .int .i64 cd, .string nm, .int .i64 id, .int .i64 at_, .string bd] _ R4 Try.underlying89 (by rfl) (by kernel_rfl) ?_
        (try simp only [Act.put, List.setIfInBounds_toArray, List.set_cons_zero, List.set_cons_succ, List.getElem_toArray, List.getElem_cons_succ, List.getElem_cons_zero])
        refine wpList_step (fun K hK0 => ?_)
        have hK := Lib.hid hK0
        clear hK0
        go_simp
        refine (HZ.out _).mono ?_
        rintro e w5 ⟨rfl, hb5⟩
        have R5 := range_next R4 B4.2 hb5
        have B5 := bel_next B4 hb5
        go_wp2_with fail
        refine hK.out _ _ ?_
        clear hK K
        (try simp only [Act.put, List.setIfInBounds_toArray, List.set_cons_zero, List.set_cons_succ, List.getElem_toArray, List.getElem_cons_succ, List.getElem_cons_zero])
        iterate 2 (refine wpList_step (fun K hK0 => ?_); have hK := Lib.hid hK0; clear hK0; go_simp; refine hK.out _ _ ?_; clear hK K; (try simp only [Act.put, List.setIfInBounds_toArray, List.set_cons_zero, List.set_cons_succ, List.getElem_toArray, List.getElem_cons_succ, List.getElem_cons_zero]))
        refine wpList_nil ?_
        go_wp2_with fail
        go_ret
        exact ⟨ret_bool (by first | rfl | (simp [*]; done)), B5.1⟩
      · skip
        go_enter Try.func71, Try.ntmps71
        go_upto_region 7 with (fail)
        have B0 : Below w.heap.size w (w.alloc (.cells #[.int .i64 k, .int .u64 (nn : Int), .int .u64 (ec : Int), .int .u64 (sq : Int), .slice na l.length nc, .int .i64 kd, .int .i64 fr, .int .i64 bk, .int .i64 tw, .int .i64 hm, .int .i64 hp, .int .u64 (sr : Int), .int .i64 cd, .string nm, .int .i64 id, .int .i64 at_, .string bd] 89)) ∧ w.heap.size < (w.alloc (.cells #[.int .i64 k, .int .u64 (nn : Int), .int .u64 (ec : Int), .int .u64 (sq : Int), .slice na l.length nc, .int .i64 kd, .int .i64 fr, .int .i64 bk, .int .i64 tw, .int .i64 hm, .int .i64 hp, .int .u64 (sr : Int), .int .i64 cd, .string nm, .int .i64 id, .int .i64 at_, .string bd] 89)).heap.size := ⟨below_al _ _, by simp⟩
        have R0 := range_ms w 89 (.int .i64 k) (.int .u64 (nn : Int)) (.int .u64 (ec : Int)) (.int .u64 (sq : Int)) (.slice na l.length nc) (.int .i64 kd) (.int .i64 fr) (.int .i64 bk) (.int .i64 tw) (.int .i64 hm) (.int .i64 hp) (.int .u64 (sr : Int)) (.int .i64 cd) (.string nm) (.int .i64 id) (.int .i64 at_) (.string bd)
        refine wp_region_list ?_
        refine wpList_load_guard (by kernel_rfl) 89 (.tmp 1) rfl w.heap.size 0 rfl [.int .i64 k, .int .u64 (nn : Int), .int .u64 (ec : Int), .int .u64 (sq : Int), .slice na l.length nc, .int .i64 kd, .int .i64 fr, .int .i64 bk, .int .i64 tw, .int .i64 hm, .int .i64 hp, .int .u64 (sr : Int), .int .i64 cd, .string nm, .int .i64 id, .int .i64 at_, .string bd] _ R0 Try.underlying89 (by rfl) (by kernel_rfl) ?_
        (try simp only [Act.put, List.setIfInBounds_toArray, List.set_cons_zero, List.set_cons_succ, List.getElem_toArray, List.getElem_cons_succ, List.getElem_cons_zero])
        refine wpList_step (fun K hK0 => ?_)
        have hK := Lib.hid hK0
        clear hK0
        go_simp
        refine (HA.out _).mono ?_
        rintro e w3 ⟨rfl, hb3⟩
        have R3 := range_next R0 B0.2 hb3
        have B3 := bel_next B0 hb3
        go_wp2_with fail
        refine hK.out _ _ ?_
        clear hK K
        (try simp only [Act.put, List.setIfInBounds_toArray, List.set_cons_zero, List.set_cons_succ, List.getElem_toArray, List.getElem_cons_succ, List.getElem_cons_zero])
        refine wpList_step (fun K hK0 => ?_)
        have hK := Lib.hid hK0
        clear hK0
        go_simp
        refine hK.out _ _ ?_
        clear hK K
        (try simp only [Act.put, List.setIfInBounds_toArray, List.set_cons_zero, List.set_cons_succ, List.getElem_toArray, List.getElem_cons_succ, List.getElem_cons_zero])
        refine wpList_load_guard (by kernel_rfl) 89 (.tmp 1) rfl w.heap.size 0 rfl [.int .i64 k, .int .u64 (nn : Int), .int .u64 (ec : Int), .int .u64 (sq : Int), .slice na l.length nc, .int .i64 kd, .int .i64 fr, .int .i64 bk, .int .i64 tw, .int .i64 hm, .int .i64 hp, .int .u64 (sr : Int), .int .i64 cd, .string nm, .int .i64 id, .int .i64 at_, .string bd] _ R3 Try.underlying89 (by rfl) (by kernel_rfl) ?_
        (try simp only [Act.put, List.setIfInBounds_toArray, List.set_cons_zero, List.set_cons_succ, List.getElem_toArray, List.getElem_cons_succ, List.getElem_cons_zero])
        refine wpList_step (fun K hK0 => ?_)
        have hK := Lib.hid hK0
        clear hK0
        go_simp
        refine (HN.out _).mono ?_
        rintro e w4 ⟨rfl, hb4⟩
        have R4 := range_next R3 B3.2 hb4
        have B4 := bel_next B3 hb4
        go_wp2_with fail
        refine hK.out _ _ ?_
        clear hK K
        (try simp only [Act.put, List.setIfInBounds_toArray, List.set_cons_zero, List.set_cons_succ, List.getElem_toArray, List.getElem_cons_succ, List.getElem_cons_zero])
        iterate 2 (refine wpList_step (fun K hK0 => ?_); have hK := Lib.hid hK0; clear hK0; go_simp; refine hK.out _ _ ?_; clear hK K; (try simp only [Act.put, List.setIfInBounds_toArray, List.set_cons_zero, List.set_cons_succ, List.getElem_toArray, List.getElem_cons_succ, List.getElem_cons_zero]))
        refine wpList_load_guard (by kernel_rfl) 89 (.tmp 1) rfl w.heap.size 0 rfl [.int .i64 k, .int .u64 (nn : Int), .int .u64 (ec : Int), .int .u64 (sq : Int), .slice na l.length nc, .int .i64 kd, .int .i64 fr, .int .i64 bk, .int .i64 tw, .int .i64 hm, .int .i64 hp, .int .u64 (sr : Int), .int .i64 cd, .string nm, .int .i64 id, .int .i64 at_, .string bd] _ R4 Try.underlying89 (by rfl) (by kernel_rfl) ?_
        (try simp only [Act.put, List.setIfInBounds_toArray, List.set_cons_zero, List.set_cons_succ, List.getElem_toArray, List.getElem_cons_succ, List.getElem_cons_zero])
        refine wpList_step (fun K hK0 => ?_)
        have hK := Lib.hid hK0
        clear hK0
        go_simp
        refine (HZ.out _).mono ?_
        rintro e w5 ⟨rfl, hb5⟩
        have R5 := range_next R4 B4.2 hb5
        have B5 := bel_next B4 hb5
        go_wp2_with fail
        refine hK.out _ _ ?_
        clear hK K
        (try simp only [Act.put, List.setIfInBounds_toArray, List.set_cons_zero, List.set_cons_succ, List.getElem_toArray, List.getElem_cons_succ, List.getElem_cons_zero])
        iterate 2 (refine wpList_step (fun K hK0 => ?_); have hK := Lib.hid hK0; clear hK0; go_simp; refine hK.out _ _ ?_; clear hK K; (try simp only [Act.put, List.setIfInBounds_toArray, List.set_cons_zero, List.set_cons_succ, List.getElem_toArray, List.getElem_cons_succ, List.getElem_cons_zero]))
        refine wpList_nil ?_
        go_wp2_with fail
        go_ret
        exact ⟨ret_bool (by first | rfl | (simp [*]; done)), B5.1⟩
set_option maxHeartbeats 4000000 in
theorem mMay_4 (k : Int) (nn ec sq : Nat) (l : List Nw) (na : Option Addr) (nc : Nat) (kd fr bk tw hm hp : Int) (sr : Nat) (cd : Int) (nm : ByteArray) (id at_ : Int) (bd : ByteArray) (hn : nm.size ≤ 9223372036854775807) (w : World) (hin : NewsIn w w.heap.size l na) (hfit : ∀ n ∈ l, n.Fit) (k1 : (k == 1) = false) (k2 : (k == 2) = false) (k3 : (k == 3) = false) (k4 : (k == 4) = true) : Calls Try.prog 71 #[.agg #[.int .i64 k, .int .u64 (nn : Int), .int .u64 (ec : Int), .int .u64 (sq : Int), .slice na l.length nc, .int .i64 kd, .int .i64 fr, .int .i64 bk, .int .i64 tw, .int .i64 hm, .int .i64 hp, .int .u64 (sr : Int), .int .i64 cd, .string nm, .int .i64 id, .int .i64 at_, .string bd]] w fun e w' => e = .returned (.bool (((nn : Int) == 0) && ((ec : Int) == 0) && ((sq : Int) == 0) && ((l.length : Int) == 0) && packB ⟨kd, fr, bk, tw, hm, hp, sr, cd, nm, id, at_, bd⟩)) ∧ Below w.heap.size w w' := by
  have HO := Lib.hid (mNoNums_any k nn ec sq na l.length nc kd fr bk tw hm hp sr cd nm id at_ bd)
  have HN := Lib.hid (mNoNews_any k nn ec sq na l.length nc kd fr bk tw hm hp sr cd nm id at_ bd)
  have HP := Lib.hid (mPacket_any kd fr bk tw hm hp sr cd nm id at_ bd hn)
  clear hin hfit hn
  generalize packB ⟨kd, fr, bk, tw, hm, hp, sr, cd, nm, id, at_, bd⟩ = P at *
  generalize ((l.length : Int) == 0) = N at *
  generalize (((nn : Int) == 0) && ((ec : Int) == 0) && ((sq : Int) == 0)) = O at *
  cases O
  · skip
    go_enter Try.func71, Try.ntmps71
    go_upto_region 9 with (fail)
    have B0 : Below w.heap.size w (w.alloc (.cells #[.int .i64 k, .int .u64 (nn : Int), .int .u64 (ec : Int), .int .u64 (sq : Int), .slice na l.length nc, .int .i64 kd, .int .i64 fr, .int .i64 bk, .int .i64 tw, .int .i64 hm, .int .i64 hp, .int .u64 (sr : Int), .int .i64 cd, .string nm, .int .i64 id, .int .i64 at_, .string bd] 89)) ∧ w.heap.size < (w.alloc (.cells #[.int .i64 k, .int .u64 (nn : Int), .int .u64 (ec : Int), .int .u64 (sq : Int), .slice na l.length nc, .int .i64 kd, .int .i64 fr, .int .i64 bk, .int .i64 tw, .int .i64 hm, .int .i64 hp, .int .u64 (sr : Int), .int .i64 cd, .string nm, .int .i64 id, .int .i64 at_, .string bd] 89)).heap.size := ⟨below_al _ _, by simp⟩
    have R0 := range_ms w 89 (.int .i64 k) (.int .u64 (nn : Int)) (.int .u64 (ec : Int)) (.int .u64 (sq : Int)) (.slice na l.length nc) (.int .i64 kd) (.int .i64 fr) (.int .i64 bk) (.int .i64 tw) (.int .i64 hm) (.int .i64 hp) (.int .u64 (sr : Int)) (.int .i64 cd) (.string nm) (.int .i64 id) (.int .i64 at_) (.string bd)
    refine wp_region_list ?_
    refine wpList_load_guard (by kernel_rfl) 89 (.tmp 1) rfl w.heap.size 0 rfl [.int .i64 k, .int .u64 (nn : Int), .int .u64 (ec : Int), .int .u64 (sq : Int), .slice na l.length nc, .int .i64 kd, .int .i64 fr, .int .i64 bk, .int .i64 tw, .int .i64 hm, .int .i64 hp, .int .u64 (sr : Int), .int .i64 cd, .string nm, .int .i64 id, .int .i64 at_, .string bd] _ R0 Try.underlying89 (by rfl) (by kernel_rfl) ?_
    (try simp only [Act.put, List.setIfInBounds_toArray, List.set_cons_zero, List.set_cons_succ, List.getElem_toArray, List.getElem_cons_succ, List.getElem_cons_zero])
    refine wpList_step (fun K hK0 => ?_)
    have hK := Lib.hid hK0
    clear hK0
    go_simp
    refine (HO.out _).mono ?_
    rintro e w3 ⟨rfl, hb3⟩
    have R3 := range_next R0 B0.2 hb3
    have B3 := bel_next B0 hb3
    go_wp2_with fail
    refine hK.out _ _ ?_
    clear hK K
    (try simp only [Act.put, List.setIfInBounds_toArray, List.set_cons_zero, List.set_cons_succ, List.getElem_toArray, List.getElem_cons_succ, List.getElem_cons_zero])
    iterate 10 (refine wpList_step (fun K hK0 => ?_); have hK := Lib.hid hK0; clear hK0; go_simp; refine hK.out _ _ ?_; clear hK K; (try simp only [Act.put, List.setIfInBounds_toArray, List.set_cons_zero, List.set_cons_succ, List.getElem_toArray, List.getElem_cons_succ, List.getElem_cons_zero]))
    refine wpList_nil ?_
    go_wp2_with fail
    go_ret
    exact ⟨ret_bool (by first | rfl | (simp [*]; done)), B3.1⟩
  · skip
    cases N
    · skip
      go_enter Try.func71, Try.ntmps71
      go_upto_region 9 with (fail)
      have B0 : Below w.heap.size w (w.alloc (.cells #[.int .i64 k, .int .u64 (nn : Int), .int .u64 (ec : Int), .int .u64 (sq : Int), .slice na l.length nc, .int .i64 kd, .int .i64 fr, .int .i64 bk, .int .i64 tw, .int .i64 hm, .int .i64 hp, .int .u64 (sr : Int), .int .i64 cd, .string nm, .int .i64 id, .int .i64 at_, .string bd] 89)) ∧ w.heap.size < (w.alloc (.cells #[.int .i64 k, .int .u64 (nn : Int), .int .u64 (ec : Int), .int .u64 (sq : Int), .slice na l.length nc, .int .i64 kd, .int .i64 fr, .int .i64 bk, .int .i64 tw, .int .i64 hm, .int .i64 hp, .int .u64 (sr : Int), .int .i64 cd, .string nm, .int .i64 id, .int .i64 at_, .string bd] 89)).heap.size := ⟨below_al _ _, by simp⟩
      have R0 := range_ms w 89 (.int .i64 k) (.int .u64 (nn : Int)) (.int .u64 (ec : Int)) (.int .u64 (sq : Int)) (.slice na l.length nc) (.int .i64 kd) (.int .i64 fr) (.int .i64 bk) (.int .i64 tw) (.int .i64 hm) (.int .i64 hp) (.int .u64 (sr : Int)) (.int .i64 cd) (.string nm) (.int .i64 id) (.int .i64 at_) (.string bd)
      refine wp_region_list ?_
      refine wpList_load_guard (by kernel_rfl) 89 (.tmp 1) rfl w.heap.size 0 rfl [.int .i64 k, .int .u64 (nn : Int), .int .u64 (ec : Int), .int .u64 (sq : Int), .slice na l.length nc, .int .i64 kd, .int .i64 fr, .int .i64 bk, .int .i64 tw, .int .i64 hm, .int .i64 hp, .int .u64 (sr : Int), .int .i64 cd, .string nm, .int .i64 id, .int .i64 at_, .string bd] _ R0 Try.underlying89 (by rfl) (by kernel_rfl) ?_
      (try simp only [Act.put, List.setIfInBounds_toArray, List.set_cons_zero, List.set_cons_succ, List.getElem_toArray, List.getElem_cons_succ, List.getElem_cons_zero])
      refine wpList_step (fun K hK0 => ?_)
      have hK := Lib.hid hK0
      clear hK0
      go_simp
      refine (HO.out _).mono ?_
      rintro e w3 ⟨rfl, hb3⟩
      have R3 := range_next R0 B0.2 hb3
      have B3 := bel_next B0 hb3
      go_wp2_with fail
      refine hK.out _ _ ?_
      clear hK K
      (try simp only [Act.put, List.setIfInBounds_toArray, List.set_cons_zero, List.set_cons_succ, List.getElem_toArray, List.getElem_cons_succ, List.getElem_cons_zero])
      refine wpList_step (fun K hK0 => ?_)
      have hK := Lib.hid hK0
      clear hK0
      go_simp
      refine hK.out _ _ ?_
      clear hK K
      (try simp only [Act.put, List.setIfInBounds_toArray, List.set_cons_zero, List.set_cons_succ, List.getElem_toArray, List.getElem_cons_succ, List.getElem_cons_zero])
      refine wpList_load_guard (by kernel_rfl) 89 (.tmp 1) rfl w.heap.size 0 rfl [.int .i64 k, .int .u64 (nn : Int), .int .u64 (ec : Int), .int .u64 (sq : Int), .slice na l.length nc, .int .i64 kd, .int .i64 fr, .int .i64 bk, .int .i64 tw, .int .i64 hm, .int .i64 hp, .int .u64 (sr : Int), .int .i64 cd, .string nm, .int .i64 id, .int .i64 at_, .string bd] _ R3 Try.underlying89 (by rfl) (by kernel_rfl) ?_
      (try simp only [Act.put, List.setIfInBounds_toArray, List.set_cons_zero, List.set_cons_succ, List.getElem_toArray, List.getElem_cons_succ, List.getElem_cons_zero])
      refine wpList_step (fun K hK0 => ?_)
      have hK := Lib.hid hK0
      clear hK0
      go_simp
      refine (HN.out _).mono ?_
      rintro e w4 ⟨rfl, hb4⟩
      have R4 := range_next R3 B3.2 hb4
      have B4 := bel_next B3 hb4
      go_wp2_with fail
      refine hK.out _ _ ?_
      clear hK K
      (try simp only [Act.put, List.setIfInBounds_toArray, List.set_cons_zero, List.set_cons_succ, List.getElem_toArray, List.getElem_cons_succ, List.getElem_cons_zero])
      iterate 7 (refine wpList_step (fun K hK0 => ?_); have hK := Lib.hid hK0; clear hK0; go_simp; refine hK.out _ _ ?_; clear hK K; (try simp only [Act.put, List.setIfInBounds_toArray, List.set_cons_zero, List.set_cons_succ, List.getElem_toArray, List.getElem_cons_succ, List.getElem_cons_zero]))
      refine wpList_nil ?_
      go_wp2_with fail
      go_ret
      exact ⟨ret_bool (by first | rfl | (simp [*]; done)), B4.1⟩
    · skip
      cases P
      · skip
        go_enter Try.func71, Try.ntmps71
        go_upto_region 9 with (fail)
        have B0 : Below w.heap.size w (w.alloc (.cells #[.int .i64 k, .int .u64 (nn : Int), .int .u64 (ec : Int), .int .u64 (sq : Int), .slice na l.length nc, .int .i64 kd, .int .i64 fr, .int .i64 bk, .int .i64 tw, .int .i64 hm, .int .i64 hp, .int .u64 (sr : Int), .int .i64 cd, .string nm, .int .i64 id, .int .i64 at_, .string bd] 89)) ∧ w.heap.size < (w.alloc (.cells #[.int .i64 k, .int .u64 (nn : Int), .int .u64 (ec : Int), .int .u64 (sq : Int), .slice na l.length nc, .int .i64 kd, .int .i64 fr, .int .i64 bk, .int .i64 tw, .int .i64 hm, .int .i64 hp, .int .u64 (sr : Int), .int .i64 cd, .string nm, .int .i64 id, .int .i64 at_, .string bd] 89)).heap.size := ⟨below_al _ _, by simp⟩
        have R0 := range_ms w 89 (.int .i64 k) (.int .u64 (nn : Int)) (.int .u64 (ec : Int)) (.int .u64 (sq : Int)) (.slice na l.length nc) (.int .i64 kd) (.int .i64 fr) (.int .i64 bk) (.int .i64 tw) (.int .i64 hm) (.int .i64 hp) (.int .u64 (sr : Int)) (.int .i64 cd) (.string nm) (.int .i64 id) (.int .i64 at_) (.string bd)
        refine wp_region_list ?_
        refine wpList_load_guard (by kernel_rfl) 89 (.tmp 1) rfl w.heap.size 0 rfl [.int .i64 k, .int .u64 (nn : Int), .int .u64 (ec : Int), .int .u64 (sq : Int), .slice na l.length nc, .int .i64 kd, .int .i64 fr, .int .i64 bk, .int .i64 tw, .int .i64 hm, .int .i64 hp, .int .u64 (sr : Int), .int .i64 cd, .string nm, .int .i64 id, .int .i64 at_, .string bd] _ R0 Try.underlying89 (by rfl) (by kernel_rfl) ?_
        (try simp only [Act.put, List.setIfInBounds_toArray, List.set_cons_zero, List.set_cons_succ, List.getElem_toArray, List.getElem_cons_succ, List.getElem_cons_zero])
        refine wpList_step (fun K hK0 => ?_)
        have hK := Lib.hid hK0
        clear hK0
        go_simp
        refine (HO.out _).mono ?_
        rintro e w3 ⟨rfl, hb3⟩
        have R3 := range_next R0 B0.2 hb3
        have B3 := bel_next B0 hb3
        go_wp2_with fail
        refine hK.out _ _ ?_
        clear hK K
        (try simp only [Act.put, List.setIfInBounds_toArray, List.set_cons_zero, List.set_cons_succ, List.getElem_toArray, List.getElem_cons_succ, List.getElem_cons_zero])
        refine wpList_step (fun K hK0 => ?_)
        have hK := Lib.hid hK0
        clear hK0
        go_simp
        refine hK.out _ _ ?_
        clear hK K
        (try simp only [Act.put, List.setIfInBounds_toArray, List.set_cons_zero, List.set_cons_succ, List.getElem_toArray, List.getElem_cons_succ, List.getElem_cons_zero])
        refine wpList_load_guard (by kernel_rfl) 89 (.tmp 1) rfl w.heap.size 0 rfl [.int .i64 k, .int .u64 (nn : Int), .int .u64 (ec : Int), .int .u64 (sq : Int), .slice na l.length nc, .int .i64 kd, .int .i64 fr, .int .i64 bk, .int .i64 tw, .int .i64 hm, .int .i64 hp, .int .u64 (sr : Int), .int .i64 cd, .string nm, .int .i64 id, .int .i64 at_, .string bd] _ R3 Try.underlying89 (by rfl) (by kernel_rfl) ?_
        (try simp only [Act.put, List.setIfInBounds_toArray, List.set_cons_zero, List.set_cons_succ, List.getElem_toArray, List.getElem_cons_succ, List.getElem_cons_zero])
        refine wpList_step (fun K hK0 => ?_)
        have hK := Lib.hid hK0
        clear hK0
        go_simp
        refine (HN.out _).mono ?_
        rintro e w4 ⟨rfl, hb4⟩
        have R4 := range_next R3 B3.2 hb4
        have B4 := bel_next B3 hb4
        go_wp2_with fail
        refine hK.out _ _ ?_
        clear hK K
        (try simp only [Act.put, List.setIfInBounds_toArray, List.set_cons_zero, List.set_cons_succ, List.getElem_toArray, List.getElem_cons_succ, List.getElem_cons_zero])
        iterate 3 (refine wpList_step (fun K hK0 => ?_); have hK := Lib.hid hK0; clear hK0; go_simp; refine hK.out _ _ ?_; clear hK K; (try simp only [Act.put, List.setIfInBounds_toArray, List.set_cons_zero, List.set_cons_succ, List.getElem_toArray, List.getElem_cons_succ, List.getElem_cons_zero]))
        have c5 : w4.cell? ⟨w.heap.size, 5, none⟩ = some (.int .i64 kd) := R4 5 _ rfl
        have c6 : w4.cell? ⟨w.heap.size, 6, none⟩ = some (.int .i64 fr) := R4 6 _ rfl
        have c7 : w4.cell? ⟨w.heap.size, 7, none⟩ = some (.int .i64 bk) := R4 7 _ rfl
        have c8 : w4.cell? ⟨w.heap.size, 8, none⟩ = some (.int .i64 tw) := R4 8 _ rfl
        have c9 : w4.cell? ⟨w.heap.size, 9, none⟩ = some (.int .i64 hm) := R4 9 _ rfl
        have c10 : w4.cell? ⟨w.heap.size, 10, none⟩ = some (.int .i64 hp) := R4 10 _ rfl
        have c11 : w4.cell? ⟨w.heap.size, 11, none⟩ = some (.int .u64 (sr : Int)) := R4 11 _ rfl
        have c12 : w4.cell? ⟨w.heap.size, 12, none⟩ = some (.int .i64 cd) := R4 12 _ rfl
        have c13 : w4.cell? ⟨w.heap.size, 13, none⟩ = some (.string nm) := R4 13 _ rfl
        have c14 : w4.cell? ⟨w.heap.size, 14, none⟩ = some (.int .i64 id) := R4 14 _ rfl
        have c15 : w4.cell? ⟨w.heap.size, 15, none⟩ = some (.int .i64 at_) := R4 15 _ rfl
        have c16 : w4.cell? ⟨w.heap.size, 16, none⟩ = some (.string bd) := R4 16 _ rfl
        refine wpList_step (fun K hK0 => ?_)
        have hK := Lib.hid hK0
        clear hK0
        go_simp
        refine hK.out _ _ ?_
        clear hK K
        (try simp only [Act.put, List.setIfInBounds_toArray, List.set_cons_zero, List.set_cons_succ, List.getElem_toArray, List.getElem_cons_succ, List.getElem_cons_zero])
        refine wpList_step (fun K hK0 => ?_)
        have hK := Lib.hid hK0
        clear hK0
        go_simp
        refine (HP.out _).mono ?_
        rintro e w5 ⟨rfl, hb5⟩
        have R5 := range_next R4 B4.2 hb5
        have B5 := bel_next B4 hb5
        go_wp2_with fail
        refine hK.out _ _ ?_
        clear hK K
        (try simp only [Act.put, List.setIfInBounds_toArray, List.set_cons_zero, List.set_cons_succ, List.getElem_toArray, List.getElem_cons_succ, List.getElem_cons_zero])
        iterate 2 (refine wpList_step (fun K hK0 => ?_); have hK := Lib.hid hK0; clear hK0; go_simp; refine hK.out _ _ ?_; clear hK K; (try simp only [Act.put, List.setIfInBounds_toArray, List.set_cons_zero, List.set_cons_succ, List.getElem_toArray, List.getElem_cons_succ, List.getElem_cons_zero]))
        refine wpList_nil ?_
        go_wp2_with fail
        go_ret
        exact ⟨ret_bool (by first | rfl | (simp [*]; done)), B5.1⟩
      · skip
        go_enter Try.func71, Try.ntmps71
        go_upto_region 9 with (fail)
        have B0 : Below w.heap.size w (w.alloc (.cells #[.int .i64 k, .int .u64 (nn : Int), .int .u64 (ec : Int), .int .u64 (sq : Int), .slice na l.length nc, .int .i64 kd, .int .i64 fr, .int .i64 bk, .int .i64 tw, .int .i64 hm, .int .i64 hp, .int .u64 (sr : Int), .int .i64 cd, .string nm, .int .i64 id, .int .i64 at_, .string bd] 89)) ∧ w.heap.size < (w.alloc (.cells #[.int .i64 k, .int .u64 (nn : Int), .int .u64 (ec : Int), .int .u64 (sq : Int), .slice na l.length nc, .int .i64 kd, .int .i64 fr, .int .i64 bk, .int .i64 tw, .int .i64 hm, .int .i64 hp, .int .u64 (sr : Int), .int .i64 cd, .string nm, .int .i64 id, .int .i64 at_, .string bd] 89)).heap.size := ⟨below_al _ _, by simp⟩
        have R0 := range_ms w 89 (.int .i64 k) (.int .u64 (nn : Int)) (.int .u64 (ec : Int)) (.int .u64 (sq : Int)) (.slice na l.length nc) (.int .i64 kd) (.int .i64 fr) (.int .i64 bk) (.int .i64 tw) (.int .i64 hm) (.int .i64 hp) (.int .u64 (sr : Int)) (.int .i64 cd) (.string nm) (.int .i64 id) (.int .i64 at_) (.string bd)
        refine wp_region_list ?_
        refine wpList_load_guard (by kernel_rfl) 89 (.tmp 1) rfl w.heap.size 0 rfl [.int .i64 k, .int .u64 (nn : Int), .int .u64 (ec : Int), .int .u64 (sq : Int), .slice na l.length nc, .int .i64 kd, .int .i64 fr, .int .i64 bk, .int .i64 tw, .int .i64 hm, .int .i64 hp, .int .u64 (sr : Int), .int .i64 cd, .string nm, .int .i64 id, .int .i64 at_, .string bd] _ R0 Try.underlying89 (by rfl) (by kernel_rfl) ?_
        (try simp only [Act.put, List.setIfInBounds_toArray, List.set_cons_zero, List.set_cons_succ, List.getElem_toArray, List.getElem_cons_succ, List.getElem_cons_zero])
        refine wpList_step (fun K hK0 => ?_)
        have hK := Lib.hid hK0
        clear hK0
        go_simp
        refine (HO.out _).mono ?_
        rintro e w3 ⟨rfl, hb3⟩
        have R3 := range_next R0 B0.2 hb3
        have B3 := bel_next B0 hb3
        go_wp2_with fail
        refine hK.out _ _ ?_
        clear hK K
        (try simp only [Act.put, List.setIfInBounds_toArray, List.set_cons_zero, List.set_cons_succ, List.getElem_toArray, List.getElem_cons_succ, List.getElem_cons_zero])
        refine wpList_step (fun K hK0 => ?_)
        have hK := Lib.hid hK0
        clear hK0
        go_simp
        refine hK.out _ _ ?_
        clear hK K
        (try simp only [Act.put, List.setIfInBounds_toArray, List.set_cons_zero, List.set_cons_succ, List.getElem_toArray, List.getElem_cons_succ, List.getElem_cons_zero])
        refine wpList_load_guard (by kernel_rfl) 89 (.tmp 1) rfl w.heap.size 0 rfl [.int .i64 k, .int .u64 (nn : Int), .int .u64 (ec : Int), .int .u64 (sq : Int), .slice na l.length nc, .int .i64 kd, .int .i64 fr, .int .i64 bk, .int .i64 tw, .int .i64 hm, .int .i64 hp, .int .u64 (sr : Int), .int .i64 cd, .string nm, .int .i64 id, .int .i64 at_, .string bd] _ R3 Try.underlying89 (by rfl) (by kernel_rfl) ?_
        (try simp only [Act.put, List.setIfInBounds_toArray, List.set_cons_zero, List.set_cons_succ, List.getElem_toArray, List.getElem_cons_succ, List.getElem_cons_zero])
        refine wpList_step (fun K hK0 => ?_)
        have hK := Lib.hid hK0
        clear hK0
        go_simp
        refine (HN.out _).mono ?_
        rintro e w4 ⟨rfl, hb4⟩
        have R4 := range_next R3 B3.2 hb4
        have B4 := bel_next B3 hb4
        go_wp2_with fail
        refine hK.out _ _ ?_
        clear hK K
        (try simp only [Act.put, List.setIfInBounds_toArray, List.set_cons_zero, List.set_cons_succ, List.getElem_toArray, List.getElem_cons_succ, List.getElem_cons_zero])
        iterate 3 (refine wpList_step (fun K hK0 => ?_); have hK := Lib.hid hK0; clear hK0; go_simp; refine hK.out _ _ ?_; clear hK K; (try simp only [Act.put, List.setIfInBounds_toArray, List.set_cons_zero, List.set_cons_succ, List.getElem_toArray, List.getElem_cons_succ, List.getElem_cons_zero]))
        have c5 : w4.cell? ⟨w.heap.size, 5, none⟩ = some (.int .i64 kd) := R4 5 _ rfl
        have c6 : w4.cell? ⟨w.heap.size, 6, none⟩ = some (.int .i64 fr) := R4 6 _ rfl
        have c7 : w4.cell? ⟨w.heap.size, 7, none⟩ = some (.int .i64 bk) := R4 7 _ rfl
        have c8 : w4.cell? ⟨w.heap.size, 8, none⟩ = some (.int .i64 tw) := R4 8 _ rfl
        have c9 : w4.cell? ⟨w.heap.size, 9, none⟩ = some (.int .i64 hm) := R4 9 _ rfl
        have c10 : w4.cell? ⟨w.heap.size, 10, none⟩ = some (.int .i64 hp) := R4 10 _ rfl
        have c11 : w4.cell? ⟨w.heap.size, 11, none⟩ = some (.int .u64 (sr : Int)) := R4 11 _ rfl
        have c12 : w4.cell? ⟨w.heap.size, 12, none⟩ = some (.int .i64 cd) := R4 12 _ rfl
        have c13 : w4.cell? ⟨w.heap.size, 13, none⟩ = some (.string nm) := R4 13 _ rfl
        have c14 : w4.cell? ⟨w.heap.size, 14, none⟩ = some (.int .i64 id) := R4 14 _ rfl
        have c15 : w4.cell? ⟨w.heap.size, 15, none⟩ = some (.int .i64 at_) := R4 15 _ rfl
        have c16 : w4.cell? ⟨w.heap.size, 16, none⟩ = some (.string bd) := R4 16 _ rfl
        refine wpList_step (fun K hK0 => ?_)
        have hK := Lib.hid hK0
        clear hK0
        go_simp
        refine hK.out _ _ ?_
        clear hK K
        (try simp only [Act.put, List.setIfInBounds_toArray, List.set_cons_zero, List.set_cons_succ, List.getElem_toArray, List.getElem_cons_succ, List.getElem_cons_zero])
        refine wpList_step (fun K hK0 => ?_)
        have hK := Lib.hid hK0
        clear hK0
        go_simp
        refine (HP.out _).mono ?_
        rintro e w5 ⟨rfl, hb5⟩
        have R5 := range_next R4 B4.2 hb5
        have B5 := bel_next B4 hb5
        go_wp2_with fail
        refine hK.out _ _ ?_
        clear hK K
        (try simp only [Act.put, List.setIfInBounds_toArray, List.set_cons_zero, List.set_cons_succ, List.getElem_toArray, List.getElem_cons_succ, List.getElem_cons_zero])
        iterate 2 (refine wpList_step (fun K hK0 => ?_); have hK := Lib.hid hK0; clear hK0; go_simp; refine hK.out _ _ ?_; clear hK K; (try simp only [Act.put, List.setIfInBounds_toArray, List.set_cons_zero, List.set_cons_succ, List.getElem_toArray, List.getElem_cons_succ, List.getElem_cons_zero]))
        refine wpList_nil ?_
        go_wp2_with fail
        go_ret
        exact ⟨ret_bool (by first | rfl | (simp [*]; done)), B5.1⟩
theorem mMay_any (k : Int) (nn ec sq : Nat) (l : List Nw) (na : Option Addr) (nc : Nat) (kd fr bk tw hm hp : Int) (sr : Nat) (cd : Int) (nm : ByteArray) (id at_ : Int) (bd : ByteArray) (hn : nm.size ≤ 9223372036854775807) (w : World) (hin : NewsIn w w.heap.size l na) (hfit : ∀ n ∈ l, n.Fit) : Calls Try.prog 71 #[.agg #[.int .i64 k, .int .u64 (nn : Int), .int .u64 (ec : Int), .int .u64 (sq : Int), .slice na l.length nc, .int .i64 kd, .int .i64 fr, .int .i64 bk, .int .i64 tw, .int .i64 hm, .int .i64 hp, .int .u64 (sr : Int), .int .i64 cd, .string nm, .int .i64 id, .int .i64 at_, .string bd]] w fun e w' => e = .returned (.bool (mayB ⟨k, nn, ec, sq, l, ⟨kd, fr, bk, tw, hm, hp, sr, cd, nm, id, at_, bd⟩⟩)) ∧ Below w.heap.size w w' := by
  unfold mayB
  dsimp only
  cases k1 : (k == 1)
  · cases k2 : (k == 2)
    · cases k3 : (k == 3)
      · cases k4 : (k == 4)
        · exact mMay_0 k nn ec sq l na nc kd fr bk tw hm hp sr cd nm id at_ bd hn w hin hfit k1 k2 k3 k4
        · exact mMay_4 k nn ec sq l na nc kd fr bk tw hm hp sr cd nm id at_ bd hn w hin hfit k1 k2 k3 k4
      · exact mMay_3 k nn ec sq l na nc kd fr bk tw hm hp sr cd nm id at_ bd hn w hin hfit k1 k2 k3
    · exact mMay_2 k nn ec sq l na nc kd fr bk tw hm hp sr cd nm id at_ bd hn w hin hfit k1 k2
  · exact mMay_1 k nn ec sq l na nc kd fr bk tw hm hp sr cd nm id at_ bd hn w hin hfit k1
theorem mCheck_any (k : Int) (nn ec sq : Nat) (l : List Nw) (na : Option Addr) (nc : Nat) (kd fr bk tw hm hp : Int) (sr : Nat) (cd : Int) (nm : ByteArray) (id at_ : Int) (bd : ByteArray) (hn : nm.size ≤ 9223372036854775807) (w : World) (hin : NewsIn w w.heap.size l na) (hfit : ∀ n ∈ l, n.Fit) : Calls Try.prog 65 #[.agg #[.int .i64 k, .int .u64 (nn : Int), .int .u64 (ec : Int), .int .u64 (sq : Int), .slice na l.length nc, .int .i64 kd, .int .i64 fr, .int .i64 bk, .int .i64 tw, .int .i64 hm, .int .i64 hp, .int .u64 (sr : Int), .int .i64 cd, .string nm, .int .i64 id, .int .i64 at_, .string bd]] w fun e w' => e = .returned (.int .i64 (if mayB ⟨k, nn, ec, sq, l, ⟨kd, fr, bk, tw, hm, hp, sr, cd, nm, id, at_, bd⟩⟩ then 0 else 60)) ∧ Below w.heap.size w w' := by
  have HM := Lib.hid (fun (W : World) (h : Below w.heap.size w W) => mMay_any k nn ec sq l na nc kd fr bk tw hm hp sr cd nm id at_ bd hn W (hin.kept (fun i hi => h.block i hi) h.size) hfit)
  clear hin hfit hn
  generalize mayB ⟨k, nn, ec, sq, l, ⟨kd, fr, bk, tw, hm, hp, sr, cd, nm, id, at_, bd⟩⟩ = B at *
  cases B
  all_goals
    go_enter Try.func65, Try.ntmps65
    go_upto_region 1 with (fail)
    refine wp_region_list ?_
    have R0 := range_ms w 89 (.int .i64 k) (.int .u64 (nn : Int)) (.int .u64 (ec : Int)) (.int .u64 (sq : Int)) (.slice na l.length nc) (.int .i64 kd) (.int .i64 fr) (.int .i64 bk) (.int .i64 tw) (.int .i64 hm) (.int .i64 hp) (.int .u64 (sr : Int)) (.int .i64 cd) (.string nm) (.int .i64 id) (.int .i64 at_) (.string bd)
    refine wpList_load_guard (by kernel_rfl) 89 (.tmp 1) rfl w.heap.size 0 rfl [.int .i64 k, .int .u64 (nn : Int), .int .u64 (ec : Int), .int .u64 (sq : Int), .slice na l.length nc, .int .i64 kd, .int .i64 fr, .int .i64 bk, .int .i64 tw, .int .i64 hm, .int .i64 hp, .int .u64 (sr : Int), .int .i64 cd, .string nm, .int .i64 id, .int .i64 at_, .string bd] _ R0 Try.underlying89 (by rfl) (by kernel_rfl) ?_
    (try simp only [Act.put, List.setIfInBounds_toArray, List.set_cons_zero, List.set_cons_succ, List.getElem_toArray, List.getElem_cons_succ, List.getElem_cons_zero])
    go_wp2_with (go_at_call 71; refine (HM.out _ (below_al _ _)).mono ?_; rintro e w3 ⟨rfl, hb3⟩)
    go_ret
    exact ⟨rfl, below_nx (below_al _ _) hb3⟩
end Go.Proofs.Ytfnmfmelcghjbaa
