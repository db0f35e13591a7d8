/- Distances, sums, the order, the laws over them. -/
import Derived.Test.YtloaajoeciajaaaFl2
import Derived.RowKit3
import Derived.BigQuiet
import Derived.Deep.QuietTactic
namespace Go.Proofs.Ytloaajoeciajaaa
open Go.Fq Go.RowKit

theorem isinf1 (a : Nat) (w : World) (h : ng a = false) : Calls Try.prog 32 #[.float .f64 a, .int .i64 1] w fun e w' => e = .returned (.bool (infB a)) ∧ w = w' := by
  have H := Lib.hid (inf_one a h); clear h
  go_enter Try.func32, Try.ntmps32
  go_wp2_with fail
  go_ret
  exact ⟨ret_bool H.out, rfl⟩

set_option maxHeartbeats 400000 in
theorem dist_any (d max : Nat) (w : World) (hd : d < 2 ^ 64) (hm : max < 2 ^ 64) : Calls Try.prog 17 #[.float .f64 d, .float .f64 max] w fun e w' => e = .returned (.int .i64 (distF d max)) ∧ w = w' := by
  have H := Lib.hid hd; clear hd
  have H2 := Lib.hid hm; clear hm
  go_enter Try.func17, Try.ntmps17
  go_wp2_with (first | (go_at_call 30; refine (isnan _ _).mono ?_; rintro e w' ⟨rfl, rfl⟩) | (go_at_call 32; refine (isinf1 _ _ (by assumption)).mono ?_; rintro e w' ⟨rfl, rfl⟩) | (go_at_call 31; refine (signbit _ _ H.out).mono ?_; rintro e w' ⟨rfl, rfl⟩) | (go_at_call 33; refine (inq _ _ (by assumption)).mono ?_; rintro e w' ⟨rfl, rfl⟩) | (go_at_call 15; refine (limit_any _ _ H2.out).mono ?_; rintro e w' ⟨rfl, rfl⟩))
  all_goals (go_ret; exact ⟨ret_int (by first | (simp [distF, *]; done) | (rename_i hor; rcases hor with hh | hh <;> simp [distF, *])), rfl⟩)
set_option maxHeartbeats 400000 in
theorem refdist_any (d max : Nat) (w : World) (hd : d < 2 ^ 64) (hm : max < 2 ^ 64) : Calls Try.prog 18 #[.float .f64 d, .float .f64 max] w fun e w' => e = .returned (.int .i64 (distF d max)) ∧ w = w' := by
  have H := Lib.hid hd; clear hd
  have H2 := Lib.hid hm; clear hm
  go_enter Try.func18, Try.ntmps18
  go_wp2_with (first | (go_at_call 34; refine (refnan _ _).mono ?_; rintro e w' ⟨rfl, rfl⟩) | (go_at_call 36; refine (refinf _ _).mono ?_; rintro e w' ⟨rfl, rfl⟩) | (go_at_call 35; refine (refsign _ _ H.out).mono ?_; rintro e w' ⟨rfl, rfl⟩) | (go_at_call 37; refine (refq _ _ (by assumption)).mono ?_; rintro e w' ⟨rfl, rfl⟩) | (go_at_call 16; refine (reflimit_any _ _ H2.out).mono ?_; rintro e w' ⟨rfl, rfl⟩))
  all_goals (go_ret; exact ⟨ret_int (by first | (simp [distF, *]; done) | (rename_i hor; rcases hor with hh | hh <;> simp [distF, *])), rfl⟩)

theorem compare_any (a b : Nat) (w : World) : Calls Try.prog 22 #[.float .f64 a, .float .f64 b] w fun e w' => e = .returned (.int .i64 (cmpF a b)) ∧ w = w' := by
  have e1 := Lib.hid (cmp_lt a b)
  have e2 := Lib.hid (cmp_gt a b)
  cases ha : nanB a <;> cases hb : nanB b
  · rcases Int.lt_trichotomy (ik a) (ik b) with h | h | h
    · have hl : (FloatKind.f64.format.order a b == some Ordering.lt) = true := by rw [e1.out, ha, hb]; simp [h]
      have hf : cmpF a b = -1 := by unfold cmpF; rw [ha, hb]; simp [h]
      rw [hf]; clear hf h
      go_enter Try.func22, Try.ntmps22
      go_wp2_with (go_at_call 30; refine (isnan _ _).mono ?_; rintro e w' ⟨rfl, rfl⟩)
      go_ret
      exact ⟨rfl, rfl⟩
    · have hl : (FloatKind.f64.format.order a b == some Ordering.lt) = false := by rw [e1.out, ha, hb]; simp; omega
      have hg : (FloatKind.f64.format.order a b == some Ordering.gt) = false := by rw [e2.out, ha, hb]; simp; omega
      have hf : cmpF a b = 0 := by unfold cmpF; rw [ha, hb]; simp [h]
      rw [hf]; clear hf h
      go_enter Try.func22, Try.ntmps22
      go_wp2_with (go_at_call 30; refine (isnan _ _).mono ?_; rintro e w' ⟨rfl, rfl⟩)
      go_ret
      exact ⟨rfl, rfl⟩
    · have hl : (FloatKind.f64.format.order a b == some Ordering.lt) = false := by rw [e1.out, ha, hb]; simp; omega
      have hg : (FloatKind.f64.format.order a b == some Ordering.gt) = true := by rw [e2.out, ha, hb]; simp [h]
      have hf : cmpF a b = 1 := by unfold cmpF; rw [ha, hb]; simp [h]; omega
      rw [hf]; clear hf h
      go_enter Try.func22, Try.ntmps22
      go_wp2_with (go_at_call 30; refine (isnan _ _).mono ?_; rintro e w' ⟨rfl, rfl⟩)
      go_ret
      exact ⟨rfl, rfl⟩
  all_goals
    have hl : (FloatKind.f64.format.order a b == some Ordering.lt) = false := by rw [e1.out, ha, hb]; simp
    have hg : (FloatKind.f64.format.order a b == some Ordering.gt) = false := by rw [e2.out, ha, hb]; simp
    have hf : cmpF a b = if nanB a then (if nanB b then 0 else 1) else if nanB b then -1 else 0 := by unfold cmpF; rw [ha, hb]; simp
    rw [ha, hb] at hf
    simp only [Bool.false_eq_true, if_false, if_true] at hf
    rw [hf]; clear hf
    go_enter Try.func22, Try.ntmps22
    go_wp2_with (go_at_call 30; refine (isnan _ _).mono ?_; rintro e w' ⟨rfl, rfl⟩)
    go_ret
    exact ⟨rfl, rfl⟩

theorem refcompare_any (a b : Nat) (w : World) : Calls Try.prog 23 #[.float .f64 a, .float .f64 b] w fun e w' => e = .returned (.int .i64 (cmpF a b)) ∧ w = w' := by
  have e1 := Lib.hid (cmp_lt a b)
  have e2 := Lib.hid (cmp_gt a b)
  cases ha : nanB a <;> cases hb : nanB b
  · rcases Int.lt_trichotomy (ik a) (ik b) with h | h | h
    · have hl : (FloatKind.f64.format.order a b == some Ordering.lt) = true := by rw [e1.out, ha, hb]; simp [h]
      have hf : cmpF a b = -1 := by unfold cmpF; rw [ha, hb]; simp [h]
      rw [hf]; clear hf h
      go_enter Try.func23, Try.ntmps23
      go_wp2_with (go_at_call 34; refine (refnan _ _).mono ?_; rintro e w' ⟨rfl, rfl⟩)
      go_ret
      exact ⟨rfl, rfl⟩
    · have hl : (FloatKind.f64.format.order a b == some Ordering.lt) = false := by rw [e1.out, ha, hb]; simp; omega
      have hg : (FloatKind.f64.format.order a b == some Ordering.gt) = false := by rw [e2.out, ha, hb]; simp; omega
      have hf : cmpF a b = 0 := by unfold cmpF; rw [ha, hb]; simp [h]
      rw [hf]; clear hf h
      go_enter Try.func23, Try.ntmps23
      go_wp2_with (go_at_call 34; refine (refnan _ _).mono ?_; rintro e w' ⟨rfl, rfl⟩)
      go_ret
      exact ⟨rfl, rfl⟩
    · have hl : (FloatKind.f64.format.order a b == some Ordering.lt) = false := by rw [e1.out, ha, hb]; simp; omega
      have hg : (FloatKind.f64.format.order a b == some Ordering.gt) = true := by rw [e2.out, ha, hb]; simp [h]
      have hf : cmpF a b = 1 := by unfold cmpF; rw [ha, hb]; simp [h]; omega
      rw [hf]; clear hf h
      go_enter Try.func23, Try.ntmps23
      go_wp2_with (go_at_call 34; refine (refnan _ _).mono ?_; rintro e w' ⟨rfl, rfl⟩)
      go_ret
      exact ⟨rfl, rfl⟩
  all_goals
    have hl : (FloatKind.f64.format.order a b == some Ordering.lt) = false := by rw [e1.out, ha, hb]; simp
    have hg : (FloatKind.f64.format.order a b == some Ordering.gt) = false := by rw [e2.out, ha, hb]; simp
    have hf : cmpF a b = if nanB a then (if nanB b then 0 else 1) else if nanB b then -1 else 0 := by unfold cmpF; rw [ha, hb]; simp
    rw [ha, hb] at hf
    simp only [Bool.false_eq_true, if_false, if_true] at hf
    rw [hf]; clear hf
    go_enter Try.func23, Try.ntmps23
    go_wp2_with (go_at_call 34; refine (refnan _ _).mono ?_; rintro e w' ⟨rfl, rfl⟩)
    go_ret
    exact ⟨rfl, rfl⟩

/-- The bits of the NaN that a sum makes, off the tape. -/
def nanAt (w : World) (x y : Nat) : Nat := Question.cut (.nanBits .f64 x y) (w.tape w.drawn (.nanBits .f64 x y))
theorem nanAt_nan (w : World) (x y : Nat) : nanB (nanAt w x y) = true := nan_made _
theorem run_add_none {P : Program} (t : TypeId) (x y : Nat) (h : Ieee.double.add x y = none) (w : World) : (binOp .add t (.float .f64 x) (.float .f64 y)).run P w = .ok (.float .f64 (nanAt w x y)) w.drew := by
  have h' : FloatKind.f64.format.add x y = none := h
  simp [binOp, Op.floatArith, h', nanAt]
  intro hc; exact absurd hc (by simp [Question.forced])
theorem run_add_some {P : Program} (t : TypeId) (x y s : Nat) (h : Ieee.double.add x y = some s) (w : World) : (binOp .add t (.float .f64 x) (.float .f64 y)).run P w = .ok (.float .f64 s) w :=
  run_float_arith w .add t .f64 x y s h

theorem add_none (x y max : Nat) (w : World) (h : Ieee.double.add x y = none) : Calls Try.prog 20 #[.float .f64 x, .float .f64 y, .float .f64 max] w fun e w' => e = .returned (.float .f64 (addF x y max)) ∧ w' = w.drew := by
  have e1 := fun w => run_add_none (P := Try.prog) 22 x y h w
  have e2 := nanAt_nan w x y
  have e3 := x_from
  rw [addF_none max h]; clear h
  go_enter Try.func20, Try.ntmps20
  go_wp2_with (go_at_call 30; refine (isnan _ _).mono ?_; rintro e w' ⟨rfl, rfl⟩)
  go_ret
  exact ⟨rfl, rfl⟩
theorem refadd_none (x y max : Nat) (w : World) (h : Ieee.double.add x y = none) : Calls Try.prog 21 #[.float .f64 x, .float .f64 y, .float .f64 max] w fun e w' => e = .returned (.float .f64 (addF x y max)) ∧ w' = w.drew := by
  have e1 := fun w => run_add_none (P := Try.prog) 22 x y h w
  have e2 := nanAt_nan w x y
  have e3 := x_from
  rw [addF_none max h]; clear h
  go_enter Try.func21, Try.ntmps21
  go_wp2_with (first | (go_at_call 34; refine (refnan _ _).mono ?_; rintro e w' ⟨rfl, rfl⟩) | (go_at_call 41; go_in))
  go_ret
  exact ⟨rfl, rfl⟩

theorem add_some (x y max s : Nat) (w : World) (h : Ieee.double.add x y = some s) : Calls Try.prog 20 #[.float .f64 x, .float .f64 y, .float .f64 max] w fun e w' => e = .returned (.float .f64 (addF x y max)) ∧ w = w' := by
  have e1 := fun w => run_add_some (P := Try.prog) 22 x y s h w
  have e2 := add_not_nan h
  have e3 := x_from
  have hf := Lib.hid (addF_some max h); clear h
  cases h1 : (FloatKind.f64.format.order s max == some Ordering.lt) <;> cases h2 : (FloatKind.f64.format.order s 0 == some Ordering.eq)
  all_goals
    rw [hf.out, h1, h2]
    go_enter Try.func20, Try.ntmps20
    go_wp2_with (first | (go_at_call 30; refine (isnan _ _).mono ?_; rintro e w' ⟨rfl, rfl⟩) | (go_at_call 40; go_in))
    go_ret
    exact ⟨rfl, rfl⟩

theorem refadd_some (x y max s : Nat) (w : World) (h : Ieee.double.add x y = some s) : Calls Try.prog 21 #[.float .f64 x, .float .f64 y, .float .f64 max] w fun e w' => e = .returned (.float .f64 (addF x y max)) ∧ w = w' := by
  have e1 := fun w => run_add_some (P := Try.prog) 22 x y s h w
  have e2 := add_not_nan h
  have e3 := x_from
  have hf := Lib.hid (addF_some max h); clear h
  cases h1 : (FloatKind.f64.format.order s max == some Ordering.lt) <;> cases h2 : (FloatKind.f64.format.order s 0 == some Ordering.eq)
  all_goals
    rw [hf.out, h1, h2]
    go_enter Try.func21, Try.ntmps21
    go_wp2_with (first | (go_at_call 34; refine (refnan _ _).mono ?_; rintro e w' ⟨rfl, rfl⟩) | (go_at_call 40; go_in))
    go_ret
    exact ⟨rfl, rfl⟩

theorem same_any (a b : Nat) (w : World) : Calls Try.prog 19 #[.float .f64 a, .float .f64 b] w fun e w' => e = .returned (.bool ((a : Int) == (b : Int))) ∧ w = w' := by
  have e := x_bits
  go_enter Try.func19, Try.ntmps19
  go_wp2
  go_ret
  exact ⟨rfl, rfl⟩

theorem awake_any (w : World) : Calls Try.prog 14 #[] w fun e w' => e = .returned (.bool true) ∧ w = w' := by
  have h1 : weightF 4609434218613702656 = 0 := by decide +kernel
  have h2 : weightF 4602678819172646912 = 13 := by decide +kernel
  have h3 : addF 4608308318706860032 4612811918334230528 4621819117588971520 = 4615626668101337088 := by decide +kernel
  have h4 : FloatKind.f64.format.order 4615626668101337088 4615626668101337088 = some .eq := by decide +kernel
  have hs := Lib.hid (show Ieee.double.add 4608308318706860032 4612811918334230528 = some 4615626668101337088 by decide +kernel)
  go_enter Try.func14, Try.ntmps14
  go_wp2_with (first | (go_at_call 12; refine (weight_any _ _ (by omega)).mono ?_; rintro e w' ⟨rfl, rfl⟩) | (go_at_call 20; refine (add_some _ _ _ _ _ hs.out).mono ?_; rintro e w' ⟨rfl, rfl⟩))
  go_ret
  exact ⟨rfl, rfl⟩

theorem law_weights (f : Nat) (hf : f < 2 ^ 64) (w : World) : Calls Try.prog 3 #[.float .f64 f] w fun e w' => e = .returned (.bool true) ∧ Grown w w' := by
  have H := Lib.hid hf; clear hf
  go_enter Try.func3, Try.ntmps3
  go_wp2_with (first | (go_at_call 12; refine (weight_any _ _ H.out).mono ?_; rintro e w' ⟨rfl, rfl⟩) | (go_at_call 13; refine (refweight_any _ _ H.out).mono ?_; rintro e w' ⟨rfl, rfl⟩) | (go_at_call 14; refine (awake_any _).mono ?_; rintro e w' ⟨rfl, rfl⟩))
  go_ret
  exact ⟨rfl, Grown.refl _⟩
theorem law_limits (f : Nat) (hf : f < 2 ^ 64) (w : World) : Calls Try.prog 4 #[.float .f64 f] w fun e w' => e = .returned (.bool true) ∧ Grown w w' := by
  have H := Lib.hid hf; clear hf
  go_enter Try.func4, Try.ntmps4
  go_wp2_with (first | (go_at_call 15; refine (limit_any _ _ H.out).mono ?_; rintro e w' ⟨rfl, rfl⟩) | (go_at_call 16; refine (reflimit_any _ _ H.out).mono ?_; rintro e w' ⟨rfl, rfl⟩) | (go_at_call 14; refine (awake_any _).mono ?_; rintro e w' ⟨rfl, rfl⟩))
  go_ret
  exact ⟨rfl, Grown.refl _⟩
theorem law_dists (d max : Nat) (hd : d < 2 ^ 64) (hm : max < 2 ^ 64) (w : World) : Calls Try.prog 5 #[.float .f64 d, .float .f64 max] w fun e w' => e = .returned (.bool true) ∧ Grown w w' := by
  have H := Lib.hid hd; clear hd
  have H2 := Lib.hid hm; clear hm
  go_enter Try.func5, Try.ntmps5
  go_wp2_with (first | (go_at_call 17; refine (dist_any _ _ _ H.out H2.out).mono ?_; rintro e w' ⟨rfl, rfl⟩) | (go_at_call 18; refine (refdist_any _ _ _ H.out H2.out).mono ?_; rintro e w' ⟨rfl, rfl⟩) | (go_at_call 14; refine (awake_any _).mono ?_; rintro e w' ⟨rfl, rfl⟩))
  go_ret
  exact ⟨rfl, Grown.refl _⟩
theorem law_compares (a b : Nat) (_ : a < 2 ^ 64) (_ : b < 2 ^ 64) (w : World) : Calls Try.prog 7 #[.float .f64 a, .float .f64 b] w fun e w' => e = .returned (.bool true) ∧ Grown w w' := by
  go_enter Try.func7, Try.ntmps7
  go_wp2_with (first | (go_at_call 22; refine (compare_any _ _ _).mono ?_; rintro e w' ⟨rfl, rfl⟩) | (go_at_call 23; refine (refcompare_any _ _ _).mono ?_; rintro e w' ⟨rfl, rfl⟩) | (go_at_call 14; refine (awake_any _).mono ?_; rintro e w' ⟨rfl, rfl⟩))
  go_ret
  exact ⟨rfl, Grown.refl _⟩
theorem law_adds (x y max : Nat) (_ : x < 2 ^ 64) (_ : y < 2 ^ 64) (_ : max < 2 ^ 64) (w : World) : Calls Try.prog 6 #[.float .f64 x, .float .f64 y, .float .f64 max] w fun e w' => e = .returned (.bool true) ∧ Grown w w' := by
  cases h : Ieee.double.add x y with
  | none =>
    have H := Lib.hid h; clear h
    go_enter Try.func6, Try.ntmps6
    go_wp2_with (first | (go_at_call 20; refine (add_none _ _ _ _ H.out).mono ?_; rintro e w' ⟨rfl, rfl⟩) | (go_at_call 21; refine (refadd_none _ _ _ _ H.out).mono ?_; rintro e w' ⟨rfl, rfl⟩) | (go_at_call 19; refine (same_any _ _ _).mono ?_; rintro e w' ⟨rfl, rfl⟩) | (go_at_call 14; refine (awake_any _).mono ?_; rintro e w' ⟨rfl, rfl⟩))
    go_ret
    exact ⟨rfl, by repeat (first | exact Grown.refl _ | apply Grown.drew)⟩
  | some s =>
    have H := Lib.hid h; clear h
    go_enter Try.func6, Try.ntmps6
    go_wp2_with (first | (go_at_call 20; refine (add_some _ _ _ _ _ H.out).mono ?_; rintro e w' ⟨rfl, rfl⟩) | (go_at_call 21; refine (refadd_some _ _ _ _ _ H.out).mono ?_; rintro e w' ⟨rfl, rfl⟩) | (go_at_call 19; refine (same_any _ _ _).mono ?_; rintro e w' ⟨rfl, rfl⟩) | (go_at_call 14; refine (awake_any _).mono ?_; rintro e w' ⟨rfl, rfl⟩))
    go_ret
    exact ⟨rfl, Grown.refl _⟩

theorem law_orders (a b c : Nat) (_ : a < 2 ^ 64) (_ : b < 2 ^ 64) (_ : c < 2 ^ 64) (w : World) : Calls Try.prog 11 #[.float .f64 a, .float .f64 b, .float .f64 c] w fun e w' => e = .returned (.bool true) ∧ Grown w w' := by
  have b1 : -1 ≤ cmpF a b := by have := cmpF_place a b; omega
  have b2 : cmpF a b ≤ 1 := by have := cmpF_place a b; omega
  have c1 : cmpF b a = -cmpF a b := by have := cmpF_place a b; have := cmpF_place b a; omega
  have c2 : cmpF a a = 0 := by have := cmpF_place a a; omega
  have HT := Lib.hid (show (cmpF a b ≤ 0 ∧ cmpF b c ≤ 0 → cmpF a c ≤ 0) ∧ (cmpF a b < 0 ∧ cmpF b c ≤ 0 → cmpF a c < 0) by
    have := cmpF_place a b; have := cmpF_place b c; have := cmpF_place a c; omega)
  go_enter Try.func11, Try.ntmps11
  go_wp2_with (first | (go_at_call 22; refine (compare_any _ _ _).mono ?_; rintro e w' ⟨rfl, rfl⟩) | (go_at_call 14; refine (awake_any _).mono ?_; rintro e w' ⟨rfl, rfl⟩))
  all_goals first | (exfalso; have := HT.out; omega) | (go_ret; exact ⟨rfl, Grown.refl _⟩)

end Go.Proofs.Ytloaajoeciajaaa
