/- Package math's Frexp, Ldexp and Mod at whole numbers. -/
import Derived.Test.YtbgnheckoijmeaaFgW
import Derived.Test.YtbgnheckoijmeaaFqR
import Derived.LoopTactic
namespace Go.Proofs.Ytbgnheckoijmeaa
open Go.Fq Go.RowKit

set_option maxHeartbeats 400000 in
theorem frexp_core (x L : Nat) (w : World) (hx : x < 2 ^ 63) (h0 : (FloatKind.f64.format.order x 0 == some .eq) = false) (hi : infB x = false) (hn : nanB x = false) (hm : mg x = x)
    (hs : (FloatKind.f64.format.order x 4503599627370496 == some .lt) = false) (hE : x / 2 ^ 52 = L + 1023) (hL : L ≤ 40) :
    Calls Try.prog 59 #[.float .f64 x] w fun e w' => e = .returned (.tuple #[.float .f64 (frF x), .int .i64 ((L : Int) + 1)]) ∧ w = w' := by
  have H := Lib.hid (show x < 2 ^ 64 by omega)
  have e := x_bits
  have e2 := x_from
  have HM := Lib.hid hm
  have e3 := fr_exp x L hx hE hL
  have HE := Lib.hid hE; clear hE
  go_enter Try.func59, Try.ntmps59
  go_wp2_with (first | (go_at_call 42; refine (isnan _ _).mono ?_; rintro e w' ⟨rfl, rfl⟩) | (go_at_call 38; refine (isinf0 _ _ H.out).mono ?_; rintro e w' ⟨rfl, rfl⟩) | (go_at_call 26; refine (abs_any _ _ H.out).mono ?_; rintro e w' ⟨rfl, rfl⟩) | go_in)
  go_ret2
  refine ⟨?_, rfl⟩
  unfold frF
  first | rfl | simp

theorem frexp_qw (n : Nat) (w : World) (h1 : 1 ≤ n) (h2 : n < 8388608) :
    Calls Try.prog 59 #[.float .f64 (qw (4 * n))] w fun e w' => e = .returned (.tuple #[.float .f64 (frF (qw (4 * n))), .int .i64 ((n.log2 : Int) + 1)]) ∧ w = w' := by
  have hf := qw_fin (n := 4 * n) (by omega)
  have hn := qw_nan (n := 4 * n) (by omega)
  have hL : n.log2 < 23 := log2_lt (by omega) (by omega)
  refine frexp_core _ _ w (qw_lt64 _ (by omega)) ?_ (qw_inf (by omega)) hn (mg_small hf.2.2.2) ?_ (exp_qw n h1 (by omega)) (by omega)
  · rw [zero_qw, qw_eql _ _ (by omega) (by omega)]; simp; omega
  · rw [cmp_lt, hn, show nanB 4503599627370496 = false by decide +kernel, show ik 4503599627370496 = 4503599627370496 by decide +kernel]
    have h4 := (qw_lt (n := 4) (m := 4 * n) (by omega) (by omega))
    have h5 : ik (qw 4) ≤ ik (qw (4 * n)) := by
      rcases Nat.lt_or_ge 4 (4 * n) with g | g
      · have := h4.2 g; omega
      · rw [show 4 * n = 4 by omega]; exact Int.le_refl _
    have h6 : ik (qw 4) = 4607182418800017408 := by rw [← ONE_qw]; decide +kernel
    have : decide (ik (qw (4 * n)) < 4503599627370496) = false := by rw [decide_eq_false_iff_not]; omega
    rw [this]; rfl

set_option maxHeartbeats 400000 in
theorem ldexp_core (L P : Nat) (w : World) (h1 : 1 ≤ L) (h2 : L ≤ 40) (c3 : bits .or .u64 0 (((L : Int) + 1023) * 4503599627370496) = (P : Int))
    (hm : ∀ w, (binOp .mul 22 (.float .f64 4607182418800017408) (.float .f64 P)).run Try.prog w = .ok (.float .f64 P) w) :
    Calls Try.prog 60 #[.float .f64 4611686018427387904, .int .i64 ((L : Int) - 1)] w fun e w' => e = .returned (.float .f64 P) ∧ w = w' := by
  have e := x_bits
  have e2 := x_from
  have o1 : (FloatKind.f64.format.order 4611686018427387904 0 == some .eq) = false := by decide +kernel
  have o2 : infB 4611686018427387904 = false := by decide +kernel
  have o3 : nanB 4611686018427387904 = false := by decide +kernel
  have o4 : (FloatKind.f64.format.order 4611686018427387904 4503599627370496 == some .lt) = false := by decide +kernel
  have o5 : mg 4611686018427387904 = 4611686018427387904 := by decide +kernel
  have c1 : bits .and .i64 1024 2047 = 1024 := by decide +kernel
  have c2 : bits .andNot .u64 4611686018427387904 9218868437227405312 = 0 := by decide +kernel
  have d1 : decide ((L : Int) < -1075) = false := by rw [decide_eq_false_iff_not]; omega
  have d2 : decide (1023 < (L : Int)) = false := by rw [decide_eq_false_iff_not]; omega
  have d3 : decide ((L : Int) < -1022) = false := by rw [decide_eq_false_iff_not]; omega
  go_enter Try.func60, Try.ntmps60
  go_wp2_with (first | (go_at_call 42; refine (isnan _ _).mono ?_; rintro e w' ⟨rfl, rfl⟩) | (go_at_call 38; refine (isinf0 _ _ (by omega)).mono ?_; rintro e w' ⟨rfl, rfl⟩) | (go_at_call 26; refine (abs_any _ _ (by omega)).mono ?_; rintro e w' ⟨rfl, rfl⟩) | go_in)
  go_ret
  exact ⟨rfl, rfl⟩

theorem ldexp_qw (L : Nat) (w : World) (h1 : 1 ≤ L) (h2 : L ≤ 40) :
    Calls Try.prog 60 #[.float .f64 4611686018427387904, .int .i64 ((L : Int) - 1)] w fun e w' => e = .returned (.float .f64 (qw (4 * 2 ^ L))) ∧ w = w' := by
  have hp : 2 ^ L ≤ 2 ^ 40 := Nat.pow_le_pow_right (by omega) h2
  have hf := qw_fin (n := 4 * 2 ^ L) (by omega)
  have e := pow_qw L h2
  refine ldexp_core L _ w h1 h2 ?_ (fun w => run_float_arith w .mul _ .f64 _ _ _ (mul_one_exact _ hf.1 hf.2.1 (mg_small hf.2.2.2)))
  rw [← e, show ((L : Int) + 1023) * 4503599627370496 = (((L + 1023) * 2 ^ 52 : Nat) : Int) by omega, show (0 : Int) = ((0 : Nat) : Int) from rfl, u64_or_nat _ _ (by omega) (by omega), Nat.zero_or]

/-- A float's word, as a measure. -/
def bitsF : Value → Nat
  | .float _ b => b
  | _ => 0

set_option maxHeartbeats 1000000 in
theorem mod_qw (q : Nat) (w : World) (hq : q < 8388608) :
    Calls Try.prog 46 #[.float .f64 (qw (4 * q)), .float .f64 4611686018427387904] w fun e w' => e = .returned (.float .f64 (qw (4 * (q % 2)))) ∧ w = w' := by
  have H := Lib.hid (show qw (4 * q) < 2 ^ 64 by have := qw_lt64 (4 * q) (by omega); omega)
  have o1 : (FloatKind.f64.format.order 4611686018427387904 0 == some .eq) = false := by decide +kernel
  have o2 : infB (qw (4 * q)) = false := qw_inf (by omega)
  have o3 : nanB (qw (4 * q)) = false := qw_nan (by omega)
  have o4 : nanB 4611686018427387904 = false := by decide +kernel
  have o5 : mg 4611686018427387904 = 4611686018427387904 := by decide +kernel
  have o6 : (FloatKind.f64.format.order (qw (4 * q)) 0 == some .lt) = false := by rw [zero_qw, qw_lss _ _ (by omega) (by omega)]; simp
  have o7 := frF_two
  have HF : Hid (∀ w, Calls Try.prog 59 #[.float .f64 4611686018427387904] w fun e w' => e = .returned (.tuple #[.float .f64 4602678819172646912, .int .i64 2]) ∧ w = w') := Lib.hid (fun w => by
    have := frexp_qw 2 w (by omega) (by omega)
    rw [show 4 * 2 = 8 from rfl, ← TWO_qw, frF_two, show (2 : Nat).log2 = 1 from rfl] at this
    exact this)
  clear o7
  obtain ⟨X, hX⟩ : ∃ X, qw (4 * q) = X := ⟨_, rfl⟩
  have HX := Lib.hid hX
  rw [hX] at H o2 o3 o6 ⊢
  clear hX
  go_enter Try.func46, Try.ntmps46
  go_wp2_with (first | (go_at_call 42; refine (isnan _ _).mono ?_; rintro e w' ⟨rfl, rfl⟩) | (go_at_call 38; refine (isinf0 _ _ H.out).mono ?_; rintro e w' ⟨rfl, rfl⟩) | (go_at_call 26; refine (abs_any _ _ (by omega)).mono ?_; rintro e w' ⟨rfl, rfl⟩) | (go_at_call 59; refine (HF.out _).mono ?_; rintro e w' ⟨rfl, rfl⟩) | go_in)
  go_loop [7] (fun r => ∃ n : Nat, n ≤ q ∧ n % 2 = q % 2 ∧ r = .float .f64 (qw (4 * n))) (fun r => bitsF r)
  case atStart => exact ⟨q, Nat.le_refl _, rfl, by rw [HX.out]⟩
  case round =>
    obtain ⟨n, hn, hm, rfl⟩ := hrel
    by_cases h2 : 2 ≤ n
    · obtain ⟨s1, s2, s3, s4⟩ := sub_pow_mod n h2
      have hl : n.log2 < 23 := log2_lt (by omega) (by omega)
      have HG := Lib.hid (qw_geq (4 * n) 8 (by omega) (by omega))
      have g1 : (FloatKind.f64.format.order (qw (4 * n)) 4611686018427387904 == some .gt || FloatKind.f64.format.order (qw (4 * n)) 4611686018427387904 == some .eq) = true := by
        rw [TWO_qw, HG.out]; simp; omega
      have g2 := frF_ge (qw (4 * n)) (qw_lt64 _ (by omega))
      have HFR := Lib.hid (fun w => frexp_qw n w (by omega) (by omega))
      have HLD := Lib.hid (fun w => ldexp_qw n.log2 w s1 (by omega))
      rw [show ((n.log2 : Nat) : Int) - 1 = (n.log2 : Int) + 1 - 2 by omega] at HLD
      have HS : Hid (∀ w, (binOp .sub 22 (.float .f64 (qw (4 * n))) (.float .f64 (qw (4 * 2 ^ n.log2)))).run Try.prog w = .ok (.float .f64 (qw (4 * (n - 2 ^ n.log2)))) w) := Lib.hid (fun w => run_float_arith w .sub _ .f64 _ _ _ (by
        have := sub_qw (4 * n) (4 * 2 ^ n.log2) (by omega) (by omega)
        rw [← Nat.mul_sub] at this; exact this))
      have HM : Hid (qw (4 * (n - 2 ^ n.log2)) < qw (4 * n)) := Lib.hid (qw_word_lt (by omega) (by omega) (by omega))
      have HR : Hid (n - 2 ^ n.log2 ≤ q ∧ (n - 2 ^ n.log2) % 2 = q % 2) := Lib.hid ⟨by omega, by rw [s3]; exact hm⟩
      have HY : Hid (∃ m, m = n - 2 ^ n.log2) := Lib.hid ⟨_, rfl⟩
      clear s1 s2 s3 s4 h2 hm hn
      obtain ⟨L, hL⟩ : ∃ L, n.log2 = L := ⟨_, rfl⟩
      rw [hL] at HFR HLD HS HM HR hl
      clear hL
      obtain ⟨m, hm⟩ : ∃ m, n - 2 ^ L = m := ⟨_, rfl⟩
      rw [hm] at HS HM HR
      clear hm HY HG
      obtain ⟨Z, hZ⟩ : ∃ Z, qw (4 * m) = Z := ⟨_, rfl⟩
      have HZ := Lib.hid hZ
      rw [hZ] at HS HM
      clear hZ
      obtain ⟨PL, hPL⟩ : ∃ P, qw (4 * 2 ^ L) = P := ⟨_, rfl⟩
      rw [hPL] at HS HLD
      clear hPL
      generalize qw (4 * n) = Y at *
      have hsub := HS.out
      go_wp2_with (first | (go_at_call 59; refine (HFR.out _).mono ?_; rintro e w' ⟨rfl, rfl⟩) | (go_at_call 60; with_reducible refine (HLD.out _).mono ?_; rintro e w' ⟨rfl, rfl⟩))
      go_round
      case rel => exact ⟨m, HR.out.1, HR.out.2, by rw [HZ.out]⟩
      case measure => exact HM.out
    · have HE : Hid (n = q % 2) := Lib.hid (by omega)
      have HG := Lib.hid (qw_geq (4 * n) 8 (by omega) (by omega))
      have g1 : (FloatKind.f64.format.order (qw (4 * n)) 4611686018427387904 == some .gt || FloatKind.f64.format.order (qw (4 * n)) 4611686018427387904 == some .eq) = false := by
        rw [TWO_qw, HG.out]; simp; omega
      clear HG h2 hm hn
      obtain ⟨Y, hY⟩ : ∃ Y, qw (4 * n) = Y := ⟨_, rfl⟩
      have HY := Lib.hid hY
      rw [hY] at g1 ⊢
      clear hY
      go_wp2
      go_ret
      exact ⟨ret_float (by rw [← HY.out, HE.out]), rfl⟩
end Go.Proofs.Ytbgnheckoijmeaa
