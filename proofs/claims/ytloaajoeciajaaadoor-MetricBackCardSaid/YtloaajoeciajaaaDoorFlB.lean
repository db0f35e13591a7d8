/- Texts go there and back. -/
import Derived.Test.YtloaajoeciajaaaDoorFlY
import Derived.Test.YtloaajoeciajaaaDoorFlQ
namespace Go.Proofs.YtloaajoeciajaaaDoor
open Go.Fq Go.RowKit

theorem textQ_eq (q : Nat) : textQ q = ⟨(textL q).toArray⟩ := by
  unfold textQ textL partS
  have : Lib.itoa ((q / 4 : Nat) : Int) = Lib.decDigits (q / 4) := by
    unfold Lib.itoa; rw [if_neg (by omega), Int.toNat_natCast]
  rw [this]
  apply ByteArray.ext
  simp

theorem reads_q (q b off cap : Nat) (hq : q ≤ 4398046511104) (w : World) (ht : Tabs w b off cap) : Reads w (mantQ q) (expQ q) (qw q) := by
  have hm : mantQ q < 1000000000000000 := by unfold mantQ; split; · omega
                                             · split; · omega
                                               · split <;> omega
  by_cases h0 : mantQ q = 0
  · left
    refine ⟨h0, ?_⟩
    have : q = 0 := by
      rcases mant_zero q with ⟨_, h1, h2⟩ | ⟨_, h1, h2⟩ | ⟨_, h1, h2⟩
      · omega
      · omega
      · omega
    rw [this]; exact zero_qw.symm
  · have hF : floatOfInt .f64 ((mantQ q : Nat) : Int) = qw (4 * mantQ q) := floatOfInt_nat _ (by omega)
    rcases mant_zero q with ⟨e, h1, h2⟩ | ⟨e, h1, h2⟩ | ⟨e, h1, h2⟩
    · refine .inr ⟨h0, by omega, by omega, ?_⟩
      rw [e]
      refine exact0 _ _ w (by omega) ?_ ht.info
      rw [hF, show 4 * mantQ q = q by omega]
    · refine .inr ⟨h0, by omega, by omega, ?_⟩
      rw [e]
      refine exact1 _ _ _ b off cap w (by omega) hF ht.info ht.pow ht.p1 (fun w => run_float_arith w .quo _ .f64 _ _ _ ?_)
      have := div_qw (mantQ q) 10 q (by omega) (by omega) h0 (by omega) (by omega) (by omega)
      rw [show 4 * 10 = 40 from rfl, ← TEN_qw] at this
      exact this
    · refine .inr ⟨h0, by omega, by omega, ?_⟩
      rw [e]
      refine exact2 _ _ _ b off cap w (by omega) hF ht.info ht.pow ht.p2 (fun w => run_float_arith w .quo _ .f64 _ _ _ ?_)
      have := div_qw (mantQ q) 100 q (by omega) (by omega) h0 (by omega) (by omega) (by omega)
      rw [show 4 * 100 = 400 from rfl, ← HUND_qw] at this
      exact this

theorem parse_q (q b off cap : Nat) (hq : q ≤ 4398046511104) (w : World) (ht : Tabs w b off cap) :
    Calls Tryd.prog 23 #[.string (textQ q), .int .i64 64] w fun e w' => e = .returned (.tuple #[.float .f64 (qw q), .nilIface]) ∧ ∃ n, w' = w.drewN n := by
  have hok := rdOk_text q hq
  rw [← textQ_eq] at hok
  have hlen := hok.len
  have hfin := rdF_text q
  have hsz : (textQ q).size = (textL q).length := by rw [textQ_eq]; simp [ByteArray.size]
  have hst : rdF ((textL q).take (textQ q).size) = rdF (textL q) := by rw [hsz, List.take_length]
  have hr := readFloat_rd (textQ q) _ w hok
  rw [hst, hfin.1, hfin.2.1] at hr
  refine parseFloat_text (textQ q) (qw q) w (by omega) (Lib.hid ?_)
  refine atof_text (textQ q) (mantQ q) (expQ q) (qw q) b off cap w ht (by omega) (by unfold maxLen; omega) hok.first (Lib.hid hr) (fun n => ?_)
  exact reads_q q b off cap hq (w.drewN n) (ht.later (below_drewN (Below.refl _ _) n))

/-- Parse at what Text has told. -/
theorem parse_inf (w0 w : World) (h : Env w0 w) : Calls Tryd.prog 11 #[.string ⟨#[105, 110, 102]⟩] w fun e w' => e = .returned (.tuple #[.float .f64 9218868437227405312, .int .i64 0]) ∧ Env w0 w' := by
  have HE := Lib.hid h; clear h
  have hP := Lib.hid (parseFloat_text ⟨#[105, 110, 102]⟩ 9218868437227405312 w (by decide) (Lib.hid (atof_inf w)))
  have hi : (FloatKind.f64.format.order 9218868437227405312 9218868437227405311 == some .gt) = true := by decide +kernel
  go_enter Tryd.func11, Tryd.ntmps11
  go_wp2_with (first | (go_at_call 23; refine hP.out.mono ?_; rintro e w' ⟨rfl, n, rfl⟩) | (go_at_call 6; refine (text_inf _ _ hi).mono ?_; rintro e w' ⟨rfl, rfl⟩))
  go_ret2
  exact ⟨rfl, Env.drewN HE.out n⟩

set_option maxHeartbeats 1000000 in
theorem parse_told (s : ByteArray) (d : Nat) (w0 w : World) (hs : s.size ≤ 100) (h : Env w0 w)
    (hP : Hid (Calls Tryd.prog 23 #[.string s, .int .i64 64] w fun e w' => e = .returned (.tuple #[.float .f64 d, .nilIface]) ∧ ∃ n, w' = w.drewN n))
    (hX : Hid (∀ w, Env w0 w → Calls Tryd.prog 6 #[.float .f64 d] w fun e w' => e = .returned (.tuple #[.string s, .int .i64 0]) ∧ Env w0 w')) :
    Calls Tryd.prog 11 #[.string s] w fun e w' => e = .returned (.tuple #[.float .f64 d, .int .i64 0]) ∧ Env w0 w' := by
  have HE := Lib.hid h; clear h
  go_enter Tryd.func11, Tryd.ntmps11
  go_wp2_with (first | (go_at_call 23; refine hP.out.mono ?_; rintro e w' ⟨rfl, n, rfl⟩) | (go_at_call 6; refine (hX.out _ (Env.drewN HE.out _)).mono ?_; rintro e w' ⟨rfl, hE'⟩))
  go_ret2
  exact ⟨rfl, by assumption⟩

set_option maxHeartbeats 1000000 in
theorem law_back (d : Nat) (W : World) (hd : d < 2 ^ 64) (htab : Lib.TabIs Tryd.prog W "internal/strconv.uint64pow10" .u64 Lib.pow10Tab) (hcell : ∀ r, r < 4 → W.cell? ⟨0, r, none⟩ = some (.string (partS r))) (htabs : ∃ b off cap, Tabs W b off cap) :
    Calls Tryd.prog 5 #[.float .f64 d] W fun e w' => e = .returned (.bool true) ∧ Below W.heap.size W w' := by
  obtain ⟨b, off, cap, ht⟩ := htabs
  have HE : Hid (Env W W) := Lib.hid ⟨Below.refl _ _, htab, hcell⟩
  clear htab hcell
  have H := Lib.hid hd
  cases hi : (FloatKind.f64.format.order d 9218868437227405311 == some .gt)
  · cases hto : toldB d
    · clear hd ht
      go_enter Tryd.func5, Tryd.ntmps5
      go_wp2_with (first | (go_at_call 6; refine (text_no _ _ H.out hi hto).mono ?_; rintro e w' ⟨rfl, rfl⟩) | (go_at_call 7; refine (reftext_no _ _ H.out hi hto).mono ?_; rintro e w' ⟨rfl, rfl⟩) | (go_at_call 10; refine (awake_any _).mono ?_; rintro e w' ⟨rfl, rfl⟩))
      go_ret
      exact ⟨rfl, Below.refl _ _⟩
    · obtain ⟨q, hq, rfl⟩ := told_qw d hd hto
      obtain ⟨_, f2, f3, f4, f5, _, _⟩ := qw_facts q hq
      have hm : ∀ w, (binOp .mul 22 (.float .f64 (qw q)) (.float .f64 4616189618054758400)).run Tryd.prog w = .ok (.float .f64 (qw (4 * q))) w := fun w => by
        have := run_mul4 (P := Tryd.prog) (qw q) f3 w
        rwa [mul4_qw q (by omega)] at this
      have hc : ∀ w, (convert 22 2 (.float .f64 (qw (4 * q)))).run Tryd.prog w = .ok (.int .i64 q) w := fun w =>
        run_toInt_qw (4 * q) q (by omega) (by omega) _ _ (by rw [Tryd.underlying22]; rfl) Tryd.underlying2 w
      have HQ : Hid (∀ w, Calls Tryd.prog 8 #[.float .f64 (qw q)] w fun e w' => e = .returned (.tuple #[.int .i64 q, .int .i64 0]) ∧ w = w') := Lib.hid (fun w => quarters_yes (qw q) _ q w H.out f3 f4 f2 f5 hm hc)
      have HX : Hid (∀ w, Env W w → Calls Tryd.prog 6 #[.float .f64 (qw q)] w fun e w' => e = .returned (.tuple #[.string (textQ q), .int .i64 0]) ∧ Env W w') := Lib.hid (fun w hw => text_told q (q / 4) (q % 4) (qw q) W w hq (by omega) rfl rfl hw hi HQ)
      have hlen : (textQ q).size ≤ 100 := by
        have := (rdOk_text q hq).len; rw [← textQ_eq] at this; omega
      have HP : Hid (∀ w, Env W w → Calls Tryd.prog 11 #[.string (textQ q)] w fun e w' => e = .returned (.tuple #[.float .f64 (qw q), .int .i64 0]) ∧ Env W w') := Lib.hid (fun w hw =>
        parse_told (textQ q) (qw q) W w hlen hw (Lib.hid (parse_q q b off cap hq w (ht.later hw.bel))) HX)
      clear hd hm hc f2 f3 f4 f5 hto hi ht hlen HQ
      generalize qw q = d at *
      generalize textQ q = s at *
      go_enter Tryd.func5, Tryd.ntmps5
      go_wp2_with (first | (go_at_call 6; refine (HX.out _ HE.out).mono ?_; rintro e w1 ⟨rfl, hE1⟩) | (go_at_call 11; refine (HP.out _ (by assumption)).mono ?_; rintro e w2 ⟨rfl, hE2⟩) | (go_at_call 13; refine (same_any _ _ _).mono ?_; rintro e w' ⟨rfl, rfl⟩) | (go_at_call 10; refine (awake_any _).mono ?_; rintro e w' ⟨rfl, rfl⟩))
      go_ret
      exact ⟨rfl, Env.bel (by assumption)⟩
  · have hdi : d = 9218868437227405312 := by
      rw [show (9218868437227405311 : Nat) = MAXF from rfl, order_max] at hi
      cases hn : nanB d
      · rw [hn] at hi
        simp only [Bool.false_eq_true, if_false, beq_iff_eq, Option.some.injEq, Int.compare_eq_gt] at hi
        unfold nanB at hn
        have hn := of_decide_eq_false hn
        have hie := inf_eq
        unfold ik mg at hi
        unfold mg at hn
        cases hg : ng d
        · rw [hg] at hi
          rw [ng_iff d hd] at hg
          have := of_decide_eq_false hg
          simp only [Bool.false_eq_true, if_false] at hi
          omega
        · rw [hg] at hi; simp only [if_true] at hi; omega
      · rw [hn] at hi; simp at hi
    subst hdi
    clear hd ht
    go_enter Tryd.func5, Tryd.ntmps5
    go_wp2_with (first | (go_at_call 6; refine (text_inf _ _ hi).mono ?_; rintro e w' ⟨rfl, rfl⟩) | (go_at_call 11; refine (parse_inf _ _ HE.out).mono ?_; rintro e w2 ⟨rfl, hE2⟩) | (go_at_call 13; refine (same_any _ _ _).mono ?_; rintro e w' ⟨rfl, rfl⟩) | (go_at_call 10; refine (awake_any _).mono ?_; rintro e w' ⟨rfl, rfl⟩))
    go_ret
    exact ⟨rfl, Env.bel (by assumption)⟩
end Go.Proofs.YtloaajoeciajaaaDoor
