/- Scores and wishes. -/
import Derived.Test.YtgcoiabfejhgkaaDoorIdA
import Derived.Below
import Derived.Sort.Grow
import Derived.RegionTactic
import Derived.ChangeAlike
import Derived.Deep.RegionWith
import Derived.BigRegion
namespace Go.Proofs.YtgcoiabfejhgkaaDoor
open Go.RowKit Go.Lib Go.Iq
set_option linter.unusedVariables false

set_option maxHeartbeats 1000000 in
theorem stir_any (n : Int) (h0 : 0 ≤ n) (h1 : n ≤ 9223372036854775807) (w : World) : Calls Tryd.prog 40 #[.int .i64 n] w fun e w' => e = .returned (.agg #[.int .i64 n, .int .u64 (mixI n)]) ∧ Below w.heap.size w w' := by
  have hw : IntKind.u64.wrap n = n := by rw [IntKind.wrap_u64]; omega
  have HW := Lib.hid hw; clear hw
  go_enter Tryd.func40, Tryd.ntmps40
  go_wp2_with (first | (go_at_call 23; refine (mix_any _ (by omega) (by omega) _).mono ?_; rintro e w' ⟨rfl, rfl⟩))
  exact bodyPost_ret (v := .agg #[.int .i64 n, .int .u64 (mixI n)]) (by simp [results, Tryd.results40, go_sem]) rfl ⟨rfl, (Below.refl _ _).alloc (Nat.le_refl _) _⟩
set_option maxHeartbeats 1000000 in
theorem wishOf_any (n m s : Int) (hm : U64 m) (hs : U64 s) (w : World) : Calls Tryd.prog 39 #[.agg #[.int .i64 n, .int .u64 m], .int .u64 s] w fun e w' => e = .returned (.agg #[.int .i64 n, .int .u64 (mixI (bits .xor .u64 s m))]) ∧ Below w.heap.size w w' := by
  have hx := xor_bd s m
  unfold U64 at *
  go_enter Tryd.func39, Tryd.ntmps39
  go_wp2_with fail
  go_region_with (go_at_call 23; refine (mix_any _ (by omega) (by omega) _).mono ?_; rintro e w' ⟨rfl, rfl⟩)
  all_goals
    go_wp2
    exact bodyPost_ret (v := .agg #[.int .i64 n, .int .u64 (mixI (bits .xor .u64 s m))]) (by simp [results, Tryd.results39, go_sem]) rfl ⟨rfl, by repeat (first | exact (Below.refl _ _) | refine Below.drew ?_ | refine Below.alloc ?_ (by simp) _)⟩
set_option maxHeartbeats 1000000 in
theorem wantsMore_grow (a x b y : Int) (hx : U64 x) (hy : U64 y) (ha : 1 ≤ a ∧ a ≤ 2147483647) (hb : 1 ≤ b ∧ b ≤ 2147483647) (w : World) : Calls Tryd.prog 48 #[.agg #[.int .i64 a, .int .u64 x], .agg #[.int .i64 b, .int .u64 y]] w fun e w' => e = .returned (.int .i64 (wantC a x b y)) ∧ ∃ q os', w' = Sort.grow (w.drewN q) os' := by
  unfold U64 at *
  go_enter Tryd.func48, Tryd.ntmps48
  go_wp2_with fail
  · go_ret
    exact ⟨ret_int (wantC_gt (by assumption)).symm, 0, _, by rw [Sort.alloc_eq_grow, Sort.alloc_eq_grow, Sort.grow_grow]; rfl⟩
  · go_ret
    exact ⟨ret_int (wantC_lt (by assumption)).symm, 0, _, by rw [Sort.alloc_eq_grow, Sort.alloc_eq_grow, Sort.grow_grow]; rfl⟩
  · go_ret
    exact ⟨ret_int (wantC_eq (by omega) (by omega)).symm, 0, _, by rw [Sort.alloc_eq_grow, Sort.alloc_eq_grow, Sort.grow_grow]; rfl⟩

set_option maxHeartbeats 1000000 in
set_option maxRecDepth 100000 in
theorem score_yes (n : Int) (s : ByteArray) (hi : idB n = true) (hs : s.size ≤ 9223372036854775807) (hn : nameB s.data.toList = true) (w : World) : Calls Tryd.prog 19 #[.int .i64 n, .string s] w fun e w' => e = .returned (.tuple #[.int .u64 (scoreI n (sumI s.data.toList)), .int .i64 0]) ∧ Below w.heap.size w w' := by
  have hI := idB_iff.1 hi
  have h1 := Lib.hid (idE_yes hi)
  have h2 := Lib.hid (nameE_yes hn)
  have H3 := Lib.hid hn
  clear hi hn
  have hb := sumI_bd s.data.toList
  have hm := mixI_bd n
  have hfd : ∀ (w : World) (v : Int), (Instr.field 52 (.agg #[.int .i64 n, .int .u64 v]) 1).run Tryd.prog w = .ok (.int .u64 v) w := fun _ _ => by kernel_rfl
  go_enter Tryd.func19, Tryd.ntmps19
  go_wp2_with (first | (go_at_call 12; refine (checkName_any _ _ hs).mono ?_; rintro e w' ⟨rfl, rfl⟩; rw [h2.out]) | (go_at_call 10; refine (checkId_any _ _).mono ?_; rintro e w' ⟨rfl, rfl⟩; rw [h1.out]) | (go_at_call 40; refine (stir_any _ (by omega) (by omega) _).mono ?_; rintro e w1 ⟨rfl, hb1⟩) | (go_at_call 21; refine (sum_any _ _ hs).mono ?_; rintro e w' ⟨rfl, rfl⟩) | (go_at_call 39; refine (wishOf_any _ _ _ hm hb _).mono ?_; rintro e w2 ⟨rfl, hb2⟩))
  go_ret2
  exact ⟨rfl, hb1.trans (hb2.mono hb1.size)⟩
set_option maxHeartbeats 1000000 in
theorem score_noname (n : Int) (s : ByteArray) (hs : s.size ≤ 9223372036854775807) (hn : nameB s.data.toList = false) (w : World) : Calls Tryd.prog 19 #[.int .i64 n, .string s] w fun e w' => e = .returned (.tuple #[.int .u64 0, .int .i64 21]) ∧ w = w' := by
  have h2 := Lib.hid (nameE_no hn)
  clear hn
  go_enter Tryd.func19, Tryd.ntmps19
  go_wp2_with (first | (go_at_call 12; refine (checkName_any _ _ hs).mono ?_; rintro e w' ⟨rfl, rfl⟩; rw [h2.out]))
  go_ret2
  exact ⟨rfl, rfl⟩
set_option maxHeartbeats 1000000 in
theorem score_noid (n : Int) (s : ByteArray) (hi : idB n = false) (hs : s.size ≤ 9223372036854775807) (hn : nameB s.data.toList = true) (w : World) : Calls Tryd.prog 19 #[.int .i64 n, .string s] w fun e w' => e = .returned (.tuple #[.int .u64 0, .int .i64 20]) ∧ w = w' := by
  have h1 := Lib.hid (idE_no hi)
  have h2 := Lib.hid (nameE_yes hn)
  clear hi hn
  go_enter Tryd.func19, Tryd.ntmps19
  go_wp2_with (first | (go_at_call 12; refine (checkName_any _ _ hs).mono ?_; rintro e w' ⟨rfl, rfl⟩; rw [h2.out]) | (go_at_call 10; refine (checkId_any _ _).mono ?_; rintro e w' ⟨rfl, rfl⟩; rw [h1.out]))
  go_ret2
  exact ⟨rfl, rfl⟩

theorem wrap_id {n : Int} (h0 : 0 ≤ n) (h1 : n ≤ 9223372036854775807) : IntKind.u64.wrap n = n := by rw [IntKind.wrap_u64]; omega
set_option maxHeartbeats 1000000 in
theorem refscore1_any (n : Int) (s : ByteArray) (h0 : 0 ≤ n) (h1 : n ≤ 9223372036854775807) (hs : s.size ≤ 9223372036854775807) (w : World) : Calls Tryd.prog 41 #[.int .i64 n, .string s] w fun e w' => e = .returned (.int .u64 (scoreI n (sumI s.data.toList))) ∧ w = w' := by
  have hb := sumI_bd s.data.toList
  have hm := mixI_bd n
  have hx := xor_bd (sumI s.data.toList) (mixI n)
  unfold U64 at *
  go_enter Tryd.func41, Tryd.ntmps41
  go_wp2_with (first | (go_at_call 22; refine (refsum_any _ _ hs).mono ?_; rintro e w' ⟨rfl, rfl⟩) | (go_at_call 24; first | ((with_reducible refine (refmix_any n h0 (by omega) _).mono ?_); rintro e w' ⟨rfl, rfl⟩) | ((with_reducible refine (refmix_any _ hx.1 hx.2 _).mono ?_); rintro e w' ⟨rfl, rfl⟩)))
  go_ret
  exact ⟨rfl, rfl⟩
set_option maxHeartbeats 1000000 in
theorem refscore_yes (n : Int) (s : ByteArray) (hi : idB n = true) (hs : s.size ≤ 9223372036854775807) (hn : nameB s.data.toList = true) (w : World) : Calls Tryd.prog 20 #[.int .i64 n, .string s] w fun e w' => e = .returned (.tuple #[.int .u64 (scoreI n (sumI s.data.toList)), .int .i64 0]) ∧ w = w' := by
  have hI := idB_iff.1 hi
  have h1 := Lib.hid (idE_yes hi)
  have h2 := Lib.hid (nameE_yes hn)
  clear hi hn
  go_enter Tryd.func20, Tryd.ntmps20
  go_wp2_with (first | (go_at_call 13; refine (refcheckName_any _ _ hs).mono ?_; rintro e w' ⟨rfl, rfl⟩; rw [h2.out]) | (go_at_call 11; refine (refcheckId_any _ _).mono ?_; rintro e w' ⟨rfl, rfl⟩; rw [h1.out]) | (go_at_call 41; refine (refscore1_any _ _ (by omega) (by omega) hs _).mono ?_; rintro e w' ⟨rfl, rfl⟩))
  go_ret2
  exact ⟨rfl, rfl⟩
set_option maxHeartbeats 1000000 in
theorem refscore_noname (n : Int) (s : ByteArray) (hs : s.size ≤ 9223372036854775807) (hn : nameB s.data.toList = false) (w : World) : Calls Tryd.prog 20 #[.int .i64 n, .string s] w fun e w' => e = .returned (.tuple #[.int .u64 0, .int .i64 21]) ∧ w = w' := by
  have h2 := Lib.hid (nameE_no hn)
  clear hn
  go_enter Tryd.func20, Tryd.ntmps20
  go_wp2_with (first | (go_at_call 13; refine (refcheckName_any _ _ hs).mono ?_; rintro e w' ⟨rfl, rfl⟩; rw [h2.out]))
  go_ret2
  exact ⟨rfl, rfl⟩
set_option maxHeartbeats 1000000 in
theorem refscore_noid (n : Int) (s : ByteArray) (hi : idB n = false) (hs : s.size ≤ 9223372036854775807) (hn : nameB s.data.toList = true) (w : World) : Calls Tryd.prog 20 #[.int .i64 n, .string s] w fun e w' => e = .returned (.tuple #[.int .u64 0, .int .i64 20]) ∧ w = w' := by
  have h1 := Lib.hid (idE_no hi)
  have h2 := Lib.hid (nameE_yes hn)
  clear hi hn
  go_enter Tryd.func20, Tryd.ntmps20
  go_wp2_with (first | (go_at_call 13; refine (refcheckName_any _ _ hs).mono ?_; rintro e w' ⟨rfl, rfl⟩; rw [h2.out]) | (go_at_call 11; refine (refcheckId_any _ _).mono ?_; rintro e w' ⟨rfl, rfl⟩; rw [h1.out]))
  go_ret2
  exact ⟨rfl, rfl⟩

set_option maxHeartbeats 1000000 in
theorem more_any (a b : Int) (s : ByteArray) (ha : idB a = true) (hb : idB b = true) (hs : s.size ≤ 9223372036854775807) (w : World) : Calls Tryd.prog 46 #[.int .i64 a, .int .i64 b, .string s] w fun e w' => e = .returned (.bool (moreB (sumI s.data.toList) a b)) ∧ w = w' := by
  have hA := idB_iff.1 ha
  have hB := idB_iff.1 hb
  have e1 := scoreI_bd a (sumI s.data.toList)
  have e2 := scoreI_bd b (sumI s.data.toList)
  have HM : Hid (moreB (sumI s.data.toList) a b = decide (scoreI b (sumI s.data.toList) < scoreI a (sumI s.data.toList) ∨ (scoreI a (sumI s.data.toList) = scoreI b (sumI s.data.toList) ∧ a < b))) := Lib.hid rfl
  have H1 := Lib.hid (fun w => refscore1_any a s (by omega) (by omega) hs w)
  have H2 := Lib.hid (fun w => refscore1_any b s (by omega) (by omega) hs w)
  unfold U64 at *
  clear ha hb
  generalize moreB (sumI s.data.toList) a b = r at *
  generalize scoreI a (sumI s.data.toList) = x at *
  generalize scoreI b (sumI s.data.toList) = y at *
  by_cases h1 : y < x
  · have hr : r = true := by rw [HM.out]; simp [h1]
    subst hr
    go_enter Tryd.func46, Tryd.ntmps46
    go_wp2_with (go_at_call 41; first | ((with_reducible refine (H1.out _).mono ?_); rintro e w' ⟨rfl, rfl⟩) | ((with_reducible refine (H2.out _).mono ?_); rintro e w' ⟨rfl, rfl⟩))
    go_ret
    exact ⟨rfl, rfl⟩
  · by_cases h2 : x = y
    · subst h2
      by_cases h3 : a < b
      · have hr : r = true := by rw [HM.out]; simp [h3]
        subst hr
        go_enter Tryd.func46, Tryd.ntmps46
        go_wp2_with (go_at_call 41; first | ((with_reducible refine (H1.out _).mono ?_); rintro e w' ⟨rfl, rfl⟩) | ((with_reducible refine (H2.out _).mono ?_); rintro e w' ⟨rfl, rfl⟩))
        go_ret
        exact ⟨rfl, rfl⟩
      · have hr : r = false := by rw [HM.out]; simp; omega
        subst hr
        have hd : decide (a < b) = false := by simpa using h3
        go_enter Tryd.func46, Tryd.ntmps46
        go_wp2_with (go_at_call 41; first | ((with_reducible refine (H1.out _).mono ?_); rintro e w' ⟨rfl, rfl⟩) | ((with_reducible refine (H2.out _).mono ?_); rintro e w' ⟨rfl, rfl⟩))
        go_ret
        exact ⟨rfl, rfl⟩
    · have hr : r = false := by rw [HM.out]; simp; omega
      subst hr
      have hd : ((x : Int) == y) = false := by simpa using h2
      have hd1 : decide (y < x) = false := by simpa using h1
      go_enter Tryd.func46, Tryd.ntmps46
      go_wp2_with (go_at_call 41; first | ((with_reducible refine (H1.out _).mono ?_); rintro e w' ⟨rfl, rfl⟩) | ((with_reducible refine (H2.out _).mono ?_); rintro e w' ⟨rfl, rfl⟩))
      go_ret
      exact ⟨rfl, rfl⟩
end Go.Proofs.YtgcoiabfejhgkaaDoor
