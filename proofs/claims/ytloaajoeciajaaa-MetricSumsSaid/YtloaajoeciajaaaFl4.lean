/- The law on sums of quarters. -/
import Derived.Test.YtloaajoeciajaaaFl3
import Derived.Test.YtloaajoeciajaaaFqG
namespace Go.Proofs.Ytloaajoeciajaaa
open Go.Fq Go.RowKit

theorem add_val (x y v : Nat) (w : World) (hn : Ieee.double.add x y ≠ none) (hv : addF x y 4742290407621132288 = v) : Calls Try.prog 20 #[.float .f64 x, .float .f64 y, .float .f64 4742290407621132288] w fun e w' => e = .returned (.float .f64 v) ∧ w = w' := by
  cases h : Ieee.double.add x y with
  | none => exact absurd h hn
  | some s => rw [← hv]; exact add_some x y _ s w h

theorem run_div4 {P : Program} (t : TypeId) (x r : Nat) (h : Ieee.double.div x FOUR = some r) (w : World) : (binOp .quo t (.float .f64 x) (.float .f64 4616189618054758400)).run P w = .ok (.float .f64 r) w :=
  run_float_arith w .quo t .f64 x _ r h

set_option maxHeartbeats 1000000 in
/-- The walk over words that are known by what is done with them. -/
theorem sums_core (A B D : Nat) (hA : A < 2 ^ 32) (hB : B < 2 ^ 32) (_ : D < 2 ^ 32) (W4 X4 Y4 wq x y v1 v2 s : Nat) (b : Bool) (W : World)
    (f1 : floatOfInt .f64 (4 + (A : Int) % 4194301) = W4) (f2 : floatOfInt .f64 (4 + (B : Int) % 4194301) = X4) (f3 : floatOfInt .f64 (D : Int) = Y4)
    (d1 : ∀ w, (binOp .quo 22 (.float .f64 W4) (.float .f64 4616189618054758400)).run Try.prog w = .ok (.float .f64 wq) w)
    (d2 : ∀ w, (binOp .quo 22 (.float .f64 X4) (.float .f64 4616189618054758400)).run Try.prog w = .ok (.float .f64 x) w)
    (d3 : ∀ w, (binOp .quo 22 (.float .f64 Y4) (.float .f64 4616189618054758400)).run Try.prog w = .ok (.float .f64 y) w)
    (a1 : Hid (∀ W, Calls Try.prog 20 #[.float .f64 x, .float .f64 y, .float .f64 4742290407621132288] W fun e w' => e = .returned (.float .f64 v1) ∧ W = w'))
    (a2 : Hid (∀ W, Calls Try.prog 20 #[.float .f64 wq, .float .f64 v1, .float .f64 4742290407621132288] W fun e w' => e = .returned (.float .f64 s) ∧ W = w'))
    (a3 : Hid (∀ W, Calls Try.prog 20 #[.float .f64 wq, .float .f64 y, .float .f64 4742290407621132288] W fun e w' => e = .returned (.float .f64 v2) ∧ W = w'))
    (a4 : Hid (∀ W, Calls Try.prog 20 #[.float .f64 x, .float .f64 v2, .float .f64 4742290407621132288] W fun e w' => e = .returned (.float .f64 s) ∧ W = w'))
    (hs : Hid (s < 2 ^ 64)) (ds : distF s 4742290407621132288 = 0)
    (l1 : (FloatKind.f64.format.order v2 y == some .lt) = false) (l2 : (FloatKind.f64.format.order v2 y == some .eq) = false)
    (lb : (FloatKind.f64.format.order wq x == some .lt || FloatKind.f64.format.order wq x == some .eq) = b) (lc : b = true → cmpF v2 v1 ≤ 0) :
    Calls Try.prog 10 #[.int .u32 A, .int .u32 B, .int .u32 D] W fun e w' => e = .returned (.bool true) ∧ Grown W w' := by
  cases b with
  | false =>
    clear lc
    go_enter Try.func10, Try.ntmps10
    go_wp2_with (first | (go_at_call 20; first | ((with_reducible refine (a1.out _).mono ?_); rintro e w' ⟨rfl, rfl⟩) | ((with_reducible refine (a2.out _).mono ?_); rintro e w' ⟨rfl, rfl⟩) | ((with_reducible refine (a3.out _).mono ?_); rintro e w' ⟨rfl, rfl⟩) | ((with_reducible refine (a4.out _).mono ?_); rintro e w' ⟨rfl, rfl⟩)) | (go_at_call 19; refine (same_any _ _ _).mono ?_; rintro e w' ⟨rfl, rfl⟩) | (go_at_call 17; refine (dist_any _ _ _ hs.out (by omega)).mono ?_; rintro e w' ⟨rfl, rfl⟩) | (go_at_call 14; refine (awake_any _).mono ?_; rintro e w' ⟨rfl, rfl⟩))
    go_ret
    exact ⟨rfl, Grown.refl _⟩
  | true =>
    have lc' := lc rfl
    clear lc
    go_enter Try.func10, Try.ntmps10
    go_wp2_with (first | (go_at_call 20; first | ((with_reducible refine (a1.out _).mono ?_); rintro e w' ⟨rfl, rfl⟩) | ((with_reducible refine (a2.out _).mono ?_); rintro e w' ⟨rfl, rfl⟩) | ((with_reducible refine (a3.out _).mono ?_); rintro e w' ⟨rfl, rfl⟩) | ((with_reducible refine (a4.out _).mono ?_); rintro e w' ⟨rfl, rfl⟩)) | (go_at_call 19; refine (same_any _ _ _).mono ?_; rintro e w' ⟨rfl, rfl⟩) | (go_at_call 17; refine (dist_any _ _ _ hs.out (by omega)).mono ?_; rintro e w' ⟨rfl, rfl⟩) | (go_at_call 22; refine (compare_any _ _ _).mono ?_; rintro e w' ⟨rfl, rfl⟩) | (go_at_call 14; refine (awake_any _).mono ?_; rintro e w' ⟨rfl, rfl⟩))
    go_ret
    exact ⟨rfl, Grown.refl _⟩

theorem u32_nat {a : Int} (h : (Lit.int .u32 a).wf = true) : ∃ n : Nat, a = (n : Int) ∧ n < 2 ^ 32 := by
  simp only [Lit.wf, IntKind.min, IntKind.max, IntKind.signed, IntKind.bits, Bool.and_eq_true] at h
  obtain ⟨n, rfl⟩ := Int.eq_ofNat_of_zero_le (a := a) (by simpa using h.1)
  exact ⟨n, rfl, by have := h.2; simp at this; omega⟩

theorem law_sums (a b d : Int) (wa : (Lit.int .u32 a).wf = true) (wb : (Lit.int .u32 b).wf = true) (wd : (Lit.int .u32 d).wf = true) (W : World) :
    Calls Try.prog 10 #[.int .u32 a, .int .u32 b, .int .u32 d] W fun e w' => e = .returned (.bool true) ∧ Grown W w' := by
  obtain ⟨A, rfl, hA⟩ := u32_nat wa
  obtain ⟨B, rfl, hB⟩ := u32_nat wb
  obtain ⟨D, rfl, hD⟩ := u32_nat wd
  obtain ⟨w, hw⟩ : ∃ w : Nat, w = 4 + A % 4194301 := ⟨_, rfl⟩
  obtain ⟨x, hx⟩ : ∃ x : Nat, x = 4 + B % 4194301 := ⟨_, rfl⟩
  have f1 : floatOfInt .f64 (4 + (A : Int) % 4194301) = qw (4 * w) := by
    rw [show 4 + (A : Int) % 4194301 = (w : Int) by omega]; exact floatOfInt_nat w (by omega)
  have f2 : floatOfInt .f64 (4 + (B : Int) % 4194301) = qw (4 * x) := by
    rw [show 4 + (B : Int) % 4194301 = (x : Int) by omega]; exact floatOfInt_nat x (by omega)
  have f3 : floatOfInt .f64 (D : Int) = qw (4 * D) := floatOfInt_nat D (by omega)
  obtain ⟨s, h1, h2, h3⟩ := three w x D (by omega) (by omega) (by omega)
  obtain ⟨s', g1, g2, g3⟩ := three x w D (by omega) (by omega) (by omega)
  have hss : s' = s := by rw [g2, h2, sumQ_comm3]
  subst hss
  have ab := sumQ_above w D (by omega) (by omega)
  rw [Bool.or_eq_false_iff] at ab
  refine sums_core A B D hA hB hD _ _ _ _ _ _ _ _ _ (decide (w ≤ x)) W f1 f2 f3
    (fun W => run_div4 _ _ _ (div4_qw w (by omega)) W) (fun W => run_div4 _ _ _ (div4_qw x (by omega)) W) (fun W => run_div4 _ _ _ (div4_qw D (by omega)) W)
    (Lib.hid (fun W => add_val _ _ _ W (by rw [add_qw x D (by omega) (by omega)]; simp) (addF_qw x D (by omega) (by omega))))
    (Lib.hid (fun W => add_val _ _ _ W h3 h1))
    (Lib.hid (fun W => add_val _ _ _ W (by rw [add_qw w D (by omega) (by omega)]; simp) (addF_qw w D (by omega) (by omega))))
    (Lib.hid (fun W => add_val _ _ _ W g3 g1))
    (Lib.hid ?_) ?_ ab.1 ab.2 (qw_leq w x (by omega) (by omega)) ?_
  · rw [h2]; exact sumQ_lt w (x + D) (by omega)
  · rw [h2]; exact distF_sumQ _ _
  · intro h
    exact cmpF_sumQ w D x D (by omega) (by omega) (by have := of_decide_eq_true h; omega)
end Go.Proofs.Ytloaajoeciajaaa
