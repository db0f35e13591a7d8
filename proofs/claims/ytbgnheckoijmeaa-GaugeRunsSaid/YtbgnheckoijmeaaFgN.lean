/- Rounding: the program's walk, the document's own, the law. -/
import Derived.Test.YtbgnheckoijmeaaFg2
import Derived.Test.YtbgnheckoijmeaaFgM
namespace Go.Proofs.Ytbgnheckoijmeaa
open Go.Fq Go.RowKit
attribute [local irreducible] near quo rst UQ

theorem x_even (x : Nat) (h : nanB x = false) (w : World) : (callFunc 43 #[.float .f64 x]).run Try.prog w = .ok (.value (.float .f64 (truncD .even x))) w := by
  rw [run_callFunc_extern Try.func43 (by kernel_rfl) (by kernel_rfl) (by kernel_rfl) (e := Extern.MathFloor.toIntegral "math.RoundToEven" .even) (by kernel_rfl), run_toInt _ _ _ h]; rfl
theorem x_floor (x : Nat) (h : nanB x = false) (w : World) : (callFunc 51 #[.float .f64 x]).run Try.prog w = .ok (.value (.float .f64 (truncD .down x))) w := by
  rw [run_callFunc_extern Try.func51 (by kernel_rfl) (by kernel_rfl) (by kernel_rfl) (e := Extern.MathFloor.toIntegral "math.archFloor" .down) (by kernel_rfl), run_toInt _ _ _ h]; rfl
theorem floor_any (a : Nat) (w : World) (h : nanB a = false) : Calls Try.prog 45 #[.float .f64 a] w fun e w' => e = .returned (.float .f64 (truncD .down a)) ∧ w = w' := by
  have e := x_floor a h
  clear h
  go_enter Try.func45, Try.ntmps45
  go_wp2
  go_ret
  exact ⟨rfl, rfl⟩

/-- What Round answers. -/
def roundF (f : Nat) : Nat × Int :=
  if nanB f then (0, 10) else if FloatKind.f64.format.order f 4607182418800017408 == some .lt then (4607182418800017408, 0)
  else if FloatKind.f64.format.order f 4697254411347427328 == some .gt then (4697254411347427328, 0) else (qw (near f), 0)

set_option maxHeartbeats 400000 in
theorem round_mid (f R S : Nat) (w : World) (hn : nanB f = false) (h1 : (FloatKind.f64.format.order f 4607182418800017408 == some .lt) = false) (h2 : (FloatKind.f64.format.order f 4697254411347427328 == some .gt) = false)
    (hm : nanB (mul4 f) = false) (he : truncD .even (mul4 f) = R) (hd : ∀ w, (binOp .quo 22 (.float .f64 R) (.float .f64 4616189618054758400)).run Try.prog w = .ok (.float .f64 S) w) :
    Calls Try.prog 32 #[.float .f64 f] w fun e w' => e = .returned (.tuple #[.float .f64 S, .int .i64 0]) ∧ w = w' := by
  have e1 := run_mul4 (P := Try.prog) f hn
  have e2 := x_even (mul4 f) hm
  rw [he] at e2
  clear he
  generalize mul4 f = M at *
  go_enter Try.func32, Try.ntmps32
  go_wp2_with (go_at_call 42; refine (isnan _ _).mono ?_; rintro e w' ⟨rfl, rfl⟩)
  go_ret2
  exact ⟨rfl, rfl⟩

theorem run_div4' {P : Program} (t : TypeId) (x r : Nat) (h : Ieee.double.div x FOUR = some r) (w : World) : (binOp .quo t (.float .f64 x) (.float .f64 4616189618054758400)).run P w = .ok (.float .f64 r) w :=
  run_float_arith w .quo t .f64 x _ r h

theorem round_any (f : Nat) (w : World) : Calls Try.prog 32 #[.float .f64 f] w fun e w' => e = .returned (.tuple #[.float .f64 (roundF f).1, .int .i64 (roundF f).2]) ∧ w = w' := by
  cases hn : nanB f
  · cases h1 : (FloatKind.f64.format.order f 4607182418800017408 == some .lt)
    · cases h2 : (FloatKind.f64.format.order f 4697254411347427328 == some .gt)
      · have hm := mid_of f hn h1 h2
        have hb := near_bd f hm
        have hr : roundF f = (qw (near f), 0) := by unfold roundF; rw [hn, h1, h2, if_neg (by simp), if_neg (by simp), if_neg (by simp)]
        rw [hr]
        exact round_mid f _ _ w hn h1 h2 (mul4_some f hn).2 (round_even f hm) (fun w => run_div4' _ _ _ (div4_qw (near f) (by omega)) w)
      · have hr : roundF f = (4697254411347427328, 0) := by unfold roundF; rw [hn, h1, h2]; rfl
        rw [hr]; clear hr
        go_enter Try.func32, Try.ntmps32
        go_wp2_with (go_at_call 42; refine (isnan _ _).mono ?_; rintro e w' ⟨rfl, rfl⟩)
        go_ret2
        exact ⟨rfl, rfl⟩
    · have hr : roundF f = (4607182418800017408, 0) := by unfold roundF; rw [hn, h1]; rfl
      rw [hr]; clear hr
      go_enter Try.func32, Try.ntmps32
      go_wp2_with (go_at_call 42; refine (isnan _ _).mono ?_; rintro e w' ⟨rfl, rfl⟩)
      go_ret2
      exact ⟨rfl, rfl⟩
  · have hr : roundF f = (0, 10) := by unfold roundF; rw [hn]; rfl
    rw [hr]; clear hr
    go_enter Try.func32, Try.ntmps32
    go_wp2_with (go_at_call 42; refine (isnan _ _).mono ?_; rintro e w' ⟨rfl, rfl⟩)
    go_ret2
    exact ⟨rfl, rfl⟩

set_option maxHeartbeats 1000000 in
theorem refround_mid (f Q4 lo hi4 hi a b md : Nat) (g e o : Bool) (S : Nat) (w : World) (hn : nanB f = false) (h1 : (FloatKind.f64.format.order f 4607182418800017408 == some .lt) = false) (h2 : (FloatKind.f64.format.order f 4697254411347427328 == some .gt) = false)
    (hm : nanB (mul4 f) = false) (he : truncD .down (mul4 f) = Q4) (hd : ∀ w, (binOp .quo 22 (.float .f64 Q4) (.float .f64 4616189618054758400)).run Try.prog w = .ok (.float .f64 lo) w)
    (ha : ∀ w, (binOp .add 22 (.float .f64 lo) (.float .f64 4598175219545276416)).run Try.prog w = .ok (.float .f64 hi) w)
    (hs1 : ∀ w, (binOp .sub 22 (.float .f64 f) (.float .f64 lo)).run Try.prog w = .ok (.float .f64 a) w)
    (hs2 : ∀ w, (binOp .sub 22 (.float .f64 hi) (.float .f64 f)).run Try.prog w = .ok (.float .f64 b) w)
    (hm4 : ∀ w, (binOp .mul 22 (.float .f64 lo) (.float .f64 4616189618054758400)).run Try.prog w = .ok (.float .f64 hi4) w)
    (hg : (FloatKind.f64.format.order a b == some .gt) = g) (heq : (FloatKind.f64.format.order a b == some .eq) = e)
    (hmod : Hid (∀ w, Calls Try.prog 46 #[.float .f64 hi4, .float .f64 4611686018427387904] w fun e w' => e = .returned (.float .f64 md) ∧ w = w'))
    (ho : (FloatKind.f64.format.order md 4607182418800017408 == some .eq) = o) (hS : S = if g || (e && o) then hi else lo) :
    Calls Try.prog 33 #[.float .f64 f] w fun e w' => e = .returned (.tuple #[.float .f64 S, .int .i64 0]) ∧ w = w' := by
  have e1 := run_mul4 (P := Try.prog) f hn
  have HF : Hid (∀ w, Calls Try.prog 45 #[.float .f64 (mul4 f)] w fun e w' => e = .returned (.float .f64 Q4) ∧ w = w') := Lib.hid (fun w => by rw [← he]; exact floor_any _ w hm)
  clear he hm
  generalize mul4 f = M at *
  cases g <;> cases e <;> cases o
  all_goals
    simp only [Bool.or_false, Bool.or_true, Bool.and_false, Bool.and_true, Bool.false_eq_true, if_false, if_true] at hS
    subst hS
    go_enter Try.func33, Try.ntmps33
    go_wp2_with (first | (go_at_call 44; refine (refnan _ _).mono ?_; rintro e w' ⟨rfl, rfl⟩) | (go_at_call 45; refine (HF.out _).mono ?_; rintro e w' ⟨rfl, rfl⟩) | (go_at_call 46; refine (hmod.out _).mono ?_; rintro e w' ⟨rfl, rfl⟩))
    go_ret2
    exact ⟨rfl, rfl⟩

theorem refround_any (f : Nat) (w : World) : Calls Try.prog 33 #[.float .f64 f] w fun e w' => e = .returned (.tuple #[.float .f64 (roundF f).1, .int .i64 (roundF f).2]) ∧ w = w' := by
  cases hn : nanB f
  · cases h1 : (FloatKind.f64.format.order f 4607182418800017408 == some .lt)
    · cases h2 : (FloatKind.f64.format.order f 4697254411347427328 == some .gt)
      · have hm := mid_of f hn h1 h2
        obtain ⟨b1, b2⟩ := quo_bd f hm
        have hr : roundF f = (qw (near f), 0) := by unfold roundF; rw [hn, h1, h2, if_neg (by simp), if_neg (by simp), if_neg (by simp)]
        rw [hr]
        obtain ⟨a, b, d1, d2, na, nb, hgt, heq⟩ := two_diffs f hm
        have hodd : (FloatKind.f64.format.order (qw (4 * (quo f % 2))) 4607182418800017408 == some .eq) = decide (quo f % 2 = 1) := by
          rw [ONE_qw, qw_eql _ _ (by omega) (by omega), decide_eq_decide]; omega
        refine refround_mid f _ _ (qw (4 * quo f)) _ a b _ _ _ _ _ w hn h1 h2 (mul4_some f hn).2 (floor_low f hm) (fun w => run_div4' _ _ _ (div4_qw (quo f) (by omega)) w)
          (fun w => run_float_arith w .add _ .f64 _ _ _ (by
            have := add_qw (quo f) 1 (by omega) (by omega)
            rw [← QUART_qw] at this; exact this))
          (fun w => run_float_arith w .sub _ .f64 _ _ _ d1) (fun w => run_float_arith w .sub _ .f64 _ _ _ d2)
          (fun w => by
            have := run_mul4 (P := Try.prog) (qw (quo f)) (qw_nan (by omega)) w
            rwa [mul4_qw (quo f) (by omega)] at this)
          hgt heq (Lib.hid (fun w => mod_qw (quo f) w (by omega))) hodd ?_
        show qw (near f) = _
        have e : (decide (UQ < 2 * rst f) || (decide (UQ = 2 * rst f) && decide (quo f % 2 = 1))) = decide (UQ < 2 * rst f ∨ (UQ = 2 * rst f ∧ quo f % 2 = 1)) := by
          rw [Bool.eq_iff_iff]; simp
        rw [e]
        unfold near
        by_cases g : UQ < 2 * rst f ∨ (UQ = 2 * rst f ∧ quo f % 2 = 1)
        · rw [if_pos g, decide_eq_true g, if_pos rfl]
        · rw [if_neg g, decide_eq_false g, if_neg (by simp)]
      · have hr : roundF f = (4697254411347427328, 0) := by unfold roundF; rw [hn, h1, h2]; rfl
        rw [hr]; clear hr
        go_enter Try.func33, Try.ntmps33
        go_wp2_with (go_at_call 44; refine (refnan _ _).mono ?_; rintro e w' ⟨rfl, rfl⟩)
        go_ret2
        exact ⟨rfl, rfl⟩
    · have hr : roundF f = (4607182418800017408, 0) := by unfold roundF; rw [hn, h1]; rfl
      rw [hr]; clear hr
      go_enter Try.func33, Try.ntmps33
      go_wp2_with (go_at_call 44; refine (refnan _ _).mono ?_; rintro e w' ⟨rfl, rfl⟩)
      go_ret2
      exact ⟨rfl, rfl⟩
  · have hr : roundF f = (0, 10) := by unfold roundF; rw [hn]; rfl
    rw [hr]; clear hr
    go_enter Try.func33, Try.ntmps33
    go_wp2_with (go_at_call 44; refine (refnan _ _).mono ?_; rintro e w' ⟨rfl, rfl⟩)
    go_ret2
    exact ⟨rfl, rfl⟩

/-- What the law asks of what Round answers. -/
theorem roundF_good (f : Nat) (hf : f < 2 ^ 64) : (roundF f).1 < 2 ^ 64 ∧ (((roundF f).2 = 10 ∧ weightF f ≠ 0) ∨ ((roundF f).2 = 0 ∧ weightF (roundF f).1 = 0 ∧ (weightF f ≠ 0 ∨ FloatKind.f64.format.order (roundF f).1 f = some .eq))) := by
  cases hn : nanB f
  · cases h1 : (FloatKind.f64.format.order f 4607182418800017408 == some .lt)
    · cases h2 : (FloatKind.f64.format.order f 4697254411347427328 == some .gt)
      · have hm := mid_of f hn h1 h2
        obtain ⟨b1, b2⟩ := near_bd f hm
        have hr : roundF f = (qw (near f), 0) := by unfold roundF; rw [hn, h1, h2, if_neg (by simp), if_neg (by simp), if_neg (by simp)]
        rw [hr]
        have hl := qw_lt64 (near f) (by omega)
        refine ⟨by show qw (near f) < _; omega, .inr ⟨rfl, weightF_qw _ b1 b2, ?_⟩⟩
        by_cases hw : weightF f = 0
        · right
          obtain ⟨c1, c2⟩ := weight_near f hf hw
          show FloatKind.f64.format.order (qw (near f)) f = _
          rw [c1, ← c2]
          exact od_self hn
        · exact .inl hw
      · have hr : roundF f = (4697254411347427328, 0) := by unfold roundF; rw [hn, h1, h2]; rfl
        rw [hr]
        refine ⟨by show (4697254411347427328 : Nat) < _; omega, .inr ⟨rfl, by decide +kernel, .inl ?_⟩⟩
        unfold weightF withinF
        rw [hn, h1, h2]
        cases infB f <;> cases ng f <;> simp
    · have hr : roundF f = (4607182418800017408, 0) := by unfold roundF; rw [hn, h1]; rfl
      rw [hr]
      refine ⟨by show (4607182418800017408 : Nat) < _; omega, .inr ⟨rfl, by decide +kernel, .inl ?_⟩⟩
      unfold weightF withinF
      rw [hn, h1]
      cases infB f <;> cases ng f <;> simp
  · have hr : roundF f = (0, 10) := by unfold roundF; rw [hn]; rfl
    rw [hr]
    refine ⟨by show (0 : Nat) < _; omega, .inl ⟨rfl, ?_⟩⟩
    unfold weightF withinF
    rw [hn]; simp

end Go.Proofs.Ytbgnheckoijmeaa
