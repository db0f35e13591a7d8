/- The law on texts. -/
import Derived.Test.YtloaajoeciajaaaDoorFlX
namespace Go.Proofs.YtloaajoeciajaaaDoor
open Go.Fq Go.RowKit

theorem text_inf (d : Nat) (w : World) (h : (FloatKind.f64.format.order d 9218868437227405311 == some .gt) = true) :
    Calls Tryd.prog 6 #[.float .f64 d] w fun e w' => e = .returned (.tuple #[.string ⟨#[105, 110, 102]⟩, .int .i64 0]) ∧ w = w' := by
  go_enter Tryd.func6, Tryd.ntmps6
  go_wp2_with (go_at_call 14; go_in)
  go_ret2
  exact ⟨rfl, rfl⟩
theorem reftext_inf (d : Nat) (w : World) (h : (FloatKind.f64.format.order d 9218868437227405311 == some .gt) = true) :
    Calls Tryd.prog 7 #[.float .f64 d] w fun e w' => e = .returned (.tuple #[.string ⟨#[105, 110, 102]⟩, .int .i64 0]) ∧ w = w' := by
  go_enter Tryd.func7, Tryd.ntmps7
  go_wp2_with fail
  go_ret2
  exact ⟨rfl, rfl⟩
theorem text_no (d : Nat) (w : World) (hd : d < 2 ^ 64) (h : (FloatKind.f64.format.order d 9218868437227405311 == some .gt) = false) (ht : toldB d = false) :
    Calls Tryd.prog 6 #[.float .f64 d] w fun e w' => e = .returned (.tuple #[.string ⟨#[]⟩, .int .i64 5]) ∧ w = w' := by
  have H := Lib.hid hd; clear hd
  have HT := Lib.hid ht; clear ht
  go_enter Tryd.func6, Tryd.ntmps6
  go_wp2_with (first | (go_at_call 14; go_in) | (go_at_call 8; refine (quarters_no _ _ H.out HT.out).mono ?_; rintro e w' ⟨rfl, rfl⟩))
  go_ret2
  exact ⟨rfl, rfl⟩
theorem reftext_no (d : Nat) (w : World) (hd : d < 2 ^ 64) (h : (FloatKind.f64.format.order d 9218868437227405311 == some .gt) = false) (ht : toldB d = false) :
    Calls Tryd.prog 7 #[.float .f64 d] w fun e w' => e = .returned (.tuple #[.string ⟨#[]⟩, .int .i64 5]) ∧ w = w' := by
  have H := Lib.hid hd; clear hd
  go_enter Tryd.func7, Tryd.ntmps7
  go_wp2_with (go_at_call 16; refine (told_any _ _ H.out).mono ?_; rintro e w' ⟨rfl, rfl⟩)
  go_ret2
  exact ⟨rfl, rfl⟩

/-- What is told of a number of quarters. -/
theorem qw_facts (q : Nat) (hq : q ≤ 4398046511104) : (FloatKind.f64.format.order (qw q) 9218868437227405311 == some .gt) = false ∧
    (FloatKind.f64.format.order (qw q) 4787326403894837248 == some .gt) = false ∧ nanB (qw q) = false ∧ ng (qw q) = false ∧ qF (qw q) = true ∧ toldB (qw q) = true ∧ qw q < 2 ^ 64 := by
  have hf := qw_fin (n := q) (by omega)
  have ht := toldB_qw q hq
  have hn := qw_nan (n := q) (by omega)
  refine ⟨?_, ?_, hn, hf.2.1, qF_qw q (by omega), ht, by have := hf.2.2.2; unfold infR at this; omega⟩
  · rw [show (9218868437227405311 : Nat) = MAXF from rfl, order_max, hn]
    have : ik (qw q) < 9218868437227405312 := by
      have := hf.1; have he := inf_eq
      unfold ik; rw [hf.2.1, if_neg (by simp)]; omega
    rw [beq_eq_false_iff_ne]; intro hc
    simp only [Bool.false_eq_true, if_false, Option.some.injEq, Int.compare_eq_gt] at hc
    omega
  · unfold toldB at ht
    simp only [Bool.and_eq_true, Bool.not_eq_true'] at ht
    exact ht.1.2
theorem run_toInt_qw {P : Program} (q n : Nat) (hq : q < 2 ^ 53) (hn : q / 4 = n) (src dst : TypeId) (hs : (P.underlying src).isSome = true) (hd : P.underlying dst = some (.int .i64)) (w : World) :
    (convert src dst (.float .f64 (qw q))).run P w = .ok (.int .i64 n) w :=
  run_convert_float_int w src dst .f64 .i64 _ _ hs hd (by rw [intVal_qw q hq, hn])

theorem inf_told (d : Nat) (h : (FloatKind.f64.format.order d 9218868437227405311 == some .gt) = true) : toldB d = false := by
  rw [show (9218868437227405311 : Nat) = MAXF from rfl, order_max] at h
  cases hn : nanB d
  · rw [hn] at h
    simp only [Bool.false_eq_true, if_false, beq_iff_eq, Option.some.injEq, Int.compare_eq_gt] at h
    have : (FloatKind.f64.format.order d 4787326403894837248 == some .gt) = true := by
      rw [cmp_gt, hn, show nanB 4787326403894837248 = false by decide +kernel, show ik 4787326403894837248 = 4787326403894837248 by decide +kernel]
      simp only [Bool.not_false, Bool.true_and, decide_eq_true_eq]
      omega
    unfold toldB; rw [this]; simp
  · unfold toldB; rw [hn]; rfl

set_option maxHeartbeats 1000000 in
theorem law_texts (d : Nat) (W : World) (hd : d < 2 ^ 64) (htab : Lib.TabIs Tryd.prog W "internal/strconv.uint64pow10" .u64 Lib.pow10Tab) (hcell : ∀ r, r < 4 → W.cell? ⟨0, r, none⟩ = some (.string (partS r))) :
    Calls Tryd.prog 3 #[.float .f64 d] W fun e w' => e = .returned (.bool true) ∧ Below W.heap.size W w' := by
  have HE : Hid (Env W W) := Lib.hid ⟨Below.refl _ _, htab, hcell⟩
  clear htab hcell
  have H := Lib.hid hd
  cases hi : (FloatKind.f64.format.order d 9218868437227405311 == some .gt)
  · cases ht : toldB d
    · clear hd
      go_enter Tryd.func3, Tryd.ntmps3
      go_wp2_with (first | (go_at_call 6; refine (text_no _ _ H.out hi ht).mono ?_; rintro e w' ⟨rfl, rfl⟩) | (go_at_call 7; refine (reftext_no _ _ H.out hi ht).mono ?_; rintro e w' ⟨rfl, rfl⟩) | (go_at_call 8; refine (quarters_no _ _ H.out ht).mono ?_; rintro e w' ⟨rfl, rfl⟩) | (go_at_call 9; refine (refquarters_no _ _ H.out ht).mono ?_; rintro e w' ⟨rfl, rfl⟩) | (go_at_call 10; refine (awake_any _).mono ?_; rintro e w' ⟨rfl, rfl⟩))
      go_ret
      exact ⟨rfl, Below.refl _ _⟩
    · obtain ⟨q, hq, rfl⟩ := told_qw d hd ht
      obtain ⟨_, f2, f3, f4, f5, _, _⟩ := qw_facts q hq
      have hm : ∀ w, (binOp .mul 22 (.float .f64 (qw q)) (.float .f64 4616189618054758400)).run Tryd.prog w = .ok (.float .f64 (qw (4 * q))) w := fun w => by
        have := run_mul4 (P := Tryd.prog) (qw q) f3 w
        rwa [mul4_qw q (by omega)] at this
      have hc : ∀ w, (convert 22 2 (.float .f64 (qw (4 * q)))).run Tryd.prog w = .ok (.int .i64 q) w := fun w =>
        run_toInt_qw (4 * q) q (by omega) (by omega) _ _ (by rw [Tryd.underlying22]; rfl) Tryd.underlying2 w
      have hct : ∀ w, (convert 22 2 (.float .f64 (qw (4 * (q / 4))))).run Tryd.prog w = .ok (.int .i64 ((q / 4 : Nat) : Int)) w := fun w =>
        run_toInt_qw (4 * (q / 4)) (q / 4) (by omega) (by omega) _ _ (by rw [Tryd.underlying22]; rfl) Tryd.underlying2 w
      have HT : Hid (∀ w, Calls Tryd.prog 17 #[.float .f64 (qw q)] w fun e w' => e = .returned (.float .f64 (qw (4 * (q / 4)))) ∧ w = w') := Lib.hid (fun w => by
        have := trunc_any (qw q) w f3
        rwa [trunc_qw q (by omega)] at this)
      have HQ : Hid (∀ w, Calls Tryd.prog 8 #[.float .f64 (qw q)] w fun e w' => e = .returned (.tuple #[.int .i64 q, .int .i64 0]) ∧ w = w') := Lib.hid (fun w => quarters_yes (qw q) _ q w H.out f3 f4 f2 f5 hm hc)
      have HRQ : Hid (∀ w, Calls Tryd.prog 9 #[.float .f64 (qw q)] w fun e w' => e = .returned (.tuple #[.int .i64 q, .int .i64 0]) ∧ w = w') := Lib.hid (fun w => refquarters_yes (qw q) _ q w H.out ht hm hc)
      have HX : Hid (∀ w, Env W w → Calls Tryd.prog 6 #[.float .f64 (qw q)] w fun e w' => e = .returned (.tuple #[.string (textQ q), .int .i64 0]) ∧ Env W w') := Lib.hid (fun w hw => text_told q (q / 4) (q % 4) (qw q) W w hq (by omega) rfl rfl hw hi HQ)
      have HRX : Hid (∀ w, Env W w → Calls Tryd.prog 7 #[.float .f64 (qw q)] w fun e w' => e = .returned (.tuple #[.string (textQ q), .int .i64 0]) ∧ Env W w') := Lib.hid (fun w hw => reftext_told q (q / 4) (q % 4) (qw q) _ _ W w H.out hq (by omega) rfl rfl hw hi ht HT hct hm hc)
      clear hd hm hc hct f2 f3 f4 f5 ht hi HT
      generalize qw q = d at *
      generalize textQ q = s at *
      go_enter Tryd.func3, Tryd.ntmps3
      go_wp2_with (first | (go_at_call 6; refine (HX.out _ HE.out).mono ?_; rintro e w1 ⟨rfl, hE1⟩) | (go_at_call 7; refine (HRX.out _ (by assumption)).mono ?_; rintro e w2 ⟨rfl, hE2⟩) | (go_at_call 8; refine (HQ.out _).mono ?_; rintro e w' ⟨rfl, rfl⟩) | (go_at_call 9; refine (HRQ.out _).mono ?_; rintro e w' ⟨rfl, rfl⟩) | (go_at_call 10; refine (awake_any _).mono ?_; rintro e w' ⟨rfl, rfl⟩))
      go_ret
      exact ⟨rfl, by first | exact Env.bel (by assumption)⟩
  · have ht := inf_told d hi
    clear hd
    go_enter Tryd.func3, Tryd.ntmps3
    go_wp2_with (first | (go_at_call 6; refine (text_inf _ _ hi).mono ?_; rintro e w' ⟨rfl, rfl⟩) | (go_at_call 7; refine (reftext_inf _ _ hi).mono ?_; rintro e w' ⟨rfl, rfl⟩) | (go_at_call 8; refine (quarters_no _ _ H.out ht).mono ?_; rintro e w' ⟨rfl, rfl⟩) | (go_at_call 9; refine (refquarters_no _ _ H.out ht).mono ?_; rintro e w' ⟨rfl, rfl⟩) | (go_at_call 10; refine (awake_any _).mono ?_; rintro e w' ⟨rfl, rfl⟩))
    go_ret
    exact ⟨rfl, Below.refl _ _⟩
end Go.Proofs.YtloaajoeciajaaaDoor
