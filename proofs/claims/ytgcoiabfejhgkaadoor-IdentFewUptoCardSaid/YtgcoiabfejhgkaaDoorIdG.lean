/- awake; the laws on checks, on sums and on who keeps a name when others come. -/
import Derived.Test.YtgcoiabfejhgkaaDoorIdF
import Derived.WalkSmall
namespace Go.Proofs.YtgcoiabfejhgkaaDoor
open Go.RowKit Go.Lib Go.Iq
set_option linter.unusedVariables false

set_option maxHeartbeats 1000000 in
theorem text_17 (w : World) : Calls Tryd.prog 15 #[.int .i64 17] w fun e w' => e = .returned (.tuple #[.string ⟨#[110, 49, 55]⟩, .int .i64 0]) ∧ w = w' := by
  have h1 : Hid (idE 17 = 0) := Lib.hid (by decide)
  have h2 : Hid (Lib.decDigits 17 = [49, 55]) := Lib.hid (by decide +kernel)
  have hi := Lib.hid (fun w => Tryd.strconv_Itoa_small 17 (by decide) w)
  have ha : ∀ w, (Op.stringOp .add ⟨#[110]⟩ ⟨#[49, 55]⟩).run Tryd.prog w = .ok (.string ⟨#[110, 49, 55]⟩) w := fun w => run_string_add_sum w _ _ (by decide)
  go_enter Tryd.func15, Tryd.ntmps15
  go_wp2_with (first | (go_at_call 10; refine (checkId_any _ _).mono ?_; rintro e w' ⟨rfl, rfl⟩; rw [h1.out]) | (go_at_call 36; refine (hi.out _).mono ?_; rintro e w' ⟨rfl, rfl⟩; rw [h2.out]))
  go_ret2
  exact ⟨rfl, rfl⟩

theorem drawE_49 : drawE [97] [4, 9] = 0 := by decide +kernel
theorem drawN_49 : drawN [97] [4, 9] = 4 ∨ drawN [97] [4, 9] = 9 := by
  rw [drawN_ok drawE_49]
  have := bestOf_mem (sumI [97]) [4, 9] (by simp)
  simpa using this
theorem two_ints (w : World) (x y : Int) (T : TypeId) : IsInts (w.alloc (.cells #[.int .i64 x, .int .i64 y] T)) (some ⟨w.heap.size, 0, none⟩) 2 [x, y] := by
  obtain ⟨h0, h1, _⟩ := cells2 w (.int .i64 x) (.int .i64 y) T
  refine ⟨rfl, fun _ => ⟨_, 0, rfl, fun i hi => ?_⟩⟩
  have : i = 0 ∨ i = 1 := by omega
  rcases this with rfl | rfl
  · exact h0
  · exact h1
set_option maxHeartbeats 1000000 in
set_option maxRecDepth 100000 in
theorem awake_any (w : World) : Calls Tryd.prog 14 #[] w fun e w' => e = .returned (.bool true) ∧ Below w.heap.size w w' := by
  have HD := Lib.hid (fun a w (h : IsInts w a 2 [4, 9]) => draw_any a 2 2 [4, 9] ⟨#[97]⟩ w h (by decide) (by decide))
  have HT := Lib.hid (fun w T => two_ints w 4 9 T)
  have hE : Hid (drawE (⟨#[97]⟩ : ByteArray).data.toList [4, 9] = 0) := Lib.hid drawE_49
  have hN : Hid (drawN (⟨#[97]⟩ : ByteArray).data.toList [4, 9] = 4 ∨ drawN (⟨#[97]⟩ : ByteArray).data.toList [4, 9] = 9) := Lib.hid drawN_49
  generalize drawE (⟨#[97]⟩ : ByteArray).data.toList [4, 9] = de at *
  generalize drawN (⟨#[97]⟩ : ByteArray).data.toList [4, 9] = dn at *
  obtain rfl := hE.out
  rcases hN.out with rfl | rfl
  all_goals
    go_enter Tryd.func14, Tryd.ntmps14
    go_wp2_with (first | (go_at_call 15; refine (text_17 _).mono ?_; rintro e w' ⟨rfl, rfl⟩) | (go_at_call 25; refine (HD.out _ _ (HT.out _ _)).mono ?_; rintro e w1 ⟨rfl, hb1⟩))
    go_ret
    exact ⟨rfl, ((Below.refl _ _).alloc (Nat.le_refl _) _).trans (hb1.mono (by simp))⟩

set_option maxHeartbeats 1000000 in
theorem law_checks (n : Int) (s : ByteArray) (W : World) (_ : (Lit.int .i64 n).wf = true) (_ : s.size ≤ maxLen) (hs0 : s.size ≤ 140737488351232) :
    Calls Tryd.prog 3 #[.int .i64 n, .string s] W fun e w' => e = .returned (.bool true) ∧ Below W.heap.size W w' := by
  have hs : s.size ≤ 9223372036854775807 := by omega
  have h1 : ((idE n : Int) == idE n) = true := by simp
  have h2 : ((nameE s.data.toList : Int) == nameE s.data.toList) = true := by simp
  have HN := Lib.hid (fun w => checkName_any s w hs)
  have HR := Lib.hid (fun w => refcheckName_any s w hs)
  have HC := Lib.hid (fun w => checkId_any n w)
  have HCR := Lib.hid (fun w => refcheckId_any n w)
  generalize idE n = ie at *
  generalize nameE s.data.toList = ne at *
  go_enter Tryd.func3, Tryd.ntmps3
  go_wp2_with (first | (go_at_call 10; refine (HC.out _).mono ?_; rintro e w' ⟨rfl, rfl⟩) | (go_at_call 11; refine (HCR.out _).mono ?_; rintro e w' ⟨rfl, rfl⟩) | (go_at_call 12; refine (HN.out _).mono ?_; rintro e w' ⟨rfl, rfl⟩) | (go_at_call 13; refine (HR.out _).mono ?_; rintro e w' ⟨rfl, rfl⟩) | (go_at_call 14; refine (awake_any _).mono ?_; rintro e w1 ⟨rfl, hb1⟩))
  go_ret
  exact ⟨rfl, hb1⟩

theorem wf_u64 {x : Int} (h : (Lit.int .u64 x).wf = true) : 0 ≤ x ∧ x < 18446744073709551616 := by
  simp only [Lit.wf, IntKind.min, IntKind.max, IntKind.signed, IntKind.bits, Bool.and_eq_true] at h
  have h1 := h.1
  have h2 := h.2
  simp at h1 h2
  omega
theorem wf_i64 {x : Int} (h : (Lit.int .i64 x).wf = true) : -9223372036854775808 ≤ x ∧ x ≤ 9223372036854775807 := by
  simp only [Lit.wf, IntKind.min, IntKind.max, IntKind.signed, IntKind.bits, Bool.and_eq_true] at h
  have h1 := h.1
  have h2 := h.2
  simp at h1 h2
  omega

/-- Score's answer and its error. -/
def scoreN (n : Int) (l : List UInt8) : Int := if nameB l = true ∧ idB n = true then scoreI n (sumI l) else 0
def scoreE (n : Int) (l : List UInt8) : Int := if nameB l = true then idE n else 21
theorem score_any (n : Int) (s : ByteArray) (hs : s.size ≤ 9223372036854775807) (w : World) : Calls Tryd.prog 19 #[.int .i64 n, .string s] w fun e w' => e = .returned (.tuple #[.int .u64 (scoreN n s.data.toList), .int .i64 (scoreE n s.data.toList)]) ∧ Below w.heap.size w w' := by
  cases hn : nameB s.data.toList
  · refine (score_noname n s hs hn w).mono ?_
    rintro e w' ⟨rfl, rfl⟩
    exact ⟨by unfold scoreN scoreE; rw [hn]; simp, Below.refl _ _⟩
  · cases hi : idB n
    · refine (score_noid n s hi hs hn w).mono ?_
      rintro e w' ⟨rfl, rfl⟩
      exact ⟨by unfold scoreN scoreE; rw [hn, hi, idE_no hi]; simp, Below.refl _ _⟩
    · refine (score_yes n s hi hs hn w).mono ?_
      rintro e w' ⟨rfl, hb⟩
      exact ⟨by unfold scoreN scoreE; rw [hn, hi, idE_yes hi]; simp, hb⟩
theorem refscore_any (n : Int) (s : ByteArray) (hs : s.size ≤ 9223372036854775807) (w : World) : Calls Tryd.prog 20 #[.int .i64 n, .string s] w fun e w' => e = .returned (.tuple #[.int .u64 (scoreN n s.data.toList), .int .i64 (scoreE n s.data.toList)]) ∧ w = w' := by
  cases hn : nameB s.data.toList
  · refine (refscore_noname n s hs hn w).mono ?_
    rintro e w' ⟨rfl, rfl⟩
    exact ⟨by unfold scoreN scoreE; rw [hn]; simp, rfl⟩
  · cases hi : idB n
    · refine (refscore_noid n s hi hs hn w).mono ?_
      rintro e w' ⟨rfl, rfl⟩
      exact ⟨by unfold scoreN scoreE; rw [hn, hi, idE_no hi]; simp, rfl⟩
    · refine (refscore_yes n s hi hs hn w).mono ?_
      rintro e w' ⟨rfl, rfl⟩
      exact ⟨by unfold scoreN scoreE; rw [hn, hi, idE_yes hi]; simp, rfl⟩
set_option maxHeartbeats 1000000 in
theorem law_sums (s : ByteArray) (x n : Int) (W : World) (_ : s.size ≤ maxLen) (hs0 : s.size ≤ 140737488351232) (wx : (Lit.int .u64 x).wf = true) (_ : (Lit.int .i64 n).wf = true) :
    Calls Tryd.prog 5 #[.string s, .int .u64 x, .int .i64 n] W fun e w' => e = .returned (.bool true) ∧ Below W.heap.size W w' := by
  have hs : s.size ≤ 9223372036854775807 := by omega
  have hx := wf_u64 wx
  have H1 := Lib.hid (fun w => score_any n s hs w)
  have H2 := Lib.hid (fun w => refscore_any n s hs w)
  have H3 := Lib.hid (fun w => sum_any s w hs)
  have H4 := Lib.hid (fun w => refsum_any s w hs)
  have H5 := Lib.hid (fun w => mix_any x hx.1 hx.2 w)
  have H6 := Lib.hid (fun w => refmix_any x hx.1 hx.2 w)
  clear hx wx
  generalize scoreN n s.data.toList = a at *
  generalize scoreE n s.data.toList = b at *
  generalize sumI s.data.toList = c at *
  generalize mixI x = d at *
  have e1 : ((a : Int) == a) = true := by simp
  have e2 : ((b : Int) == b) = true := by simp
  have e3 : ((c : Int) == c) = true := by simp
  have e4 : ((d : Int) == d) = true := by simp
  go_enter Tryd.func5, Tryd.ntmps5
  go_wp2_with (first | (go_at_call 19; refine (H1.out _).mono ?_; rintro e w1 ⟨rfl, hb1⟩) | (go_at_call 20; refine (H2.out _).mono ?_; rintro e w' ⟨rfl, rfl⟩) | (go_at_call 21; refine (H3.out _).mono ?_; rintro e w' ⟨rfl, rfl⟩) | (go_at_call 22; refine (H4.out _).mono ?_; rintro e w' ⟨rfl, rfl⟩) | (go_at_call 23; refine (H5.out _).mono ?_; rintro e w' ⟨rfl, rfl⟩) | (go_at_call 24; refine (H6.out _).mono ?_; rintro e w' ⟨rfl, rfl⟩) | (go_at_call 14; refine (awake_any _).mono ?_; rintro e w2 ⟨rfl, hb2⟩))
  go_ret
  exact ⟨rfl, below_next hb1 hb2⟩
end Go.Proofs.YtgcoiabfejhgkaaDoor
