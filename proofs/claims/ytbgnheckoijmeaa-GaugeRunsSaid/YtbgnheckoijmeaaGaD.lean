/- Gauges: the document's own tests and Feed. -/
import Derived.Test.YtbgnheckoijmeaaGaC
namespace Go.Proofs.Ytbgnheckoijmeaa
open Go.Fq Go.RowKit
open Go.Iq (below_next block_lt)
set_option linter.unusedVariables false

theorem reffinite_any (f : Nat) (w : World) : Calls Try.prog 30 #[.float .f64 f] w fun e w' => e = .returned (.bool (finB f)) ∧ w = w' := by
  have HF := Lib.hid (finB_eq f)
  have h1 := fin_le f
  have h2 := fin_ge f
  generalize (!nanB f && decide (ik f ≤ 9218868437227405311)) = a at *
  generalize (!nanB f && decide (-9218868437227405311 ≤ ik f)) = b at *
  cases a <;> cases b
  all_goals
    go_enter Try.func30, Try.ntmps30
    go_wp2_with fail
    go_ret
    exact ⟨ret_bool (by rw [HF.out]; rfl), rfl⟩

theorem ng_div' (a : Nat) (h : a < 2 ^ 64) : ((a : Int) / 9223372036854775808 == 1) = ng a := ng_div a h
theorem refsign5 (a : Nat) (w : World) (h : a < 2 ^ 64) : Calls Try.prog 31 #[.float .f64 a] w fun e w' => e = .returned (.bool (ng a)) ∧ w = w' := by
  have H := Lib.hid h; clear h
  have e := x_bits
  go_enter Try.func31, Try.ntmps31
  go_wp2
  go_ret
  exact ⟨ret_bool (ng_div a H.out), rfl⟩

/-- A sample, as it counts. -/
def sampV (f : Nat) : Nat := if sampB f then mg f else 0
theorem sampV_eq (f : Nat) (hf : f < 2 ^ 64) : sampV f = if sampB f then (if FloatKind.f64.format.order f 0 == some .eq then 0 else f) else 0 := by
  unfold sampV
  by_cases h : sampB f = true
  · rw [if_pos h, if_pos h, eq0_eq]
    rcases samp_cases hf h with g | g
    · have hn : nanB f = false := nan_of_le (by rw [mg_small g]; omega)
      have hk : ik f = (f : Int) := ik_pos (by omega)
      rw [hn, hk, mg_small g]
      by_cases h0 : f = 0
      · subst h0; rfl
      · rw [if_neg]; simp; omega
    · subst g; decide +kernel
  · rw [if_neg h, if_neg h]

theorem refsample_any (f : Nat) (hf : f < 2 ^ 64) (w : World) : Calls Try.prog 27 #[.float .f64 f] w fun e w' => e = .returned (.tuple #[.float .f64 (sampV f), .bool (sampB f)]) ∧ w = w' := by
  have HE := Lib.hid (sampB_eq f)
  have HV := Lib.hid (sampV_eq f hf)
  have h0 := lt0_eq f
  generalize (!nanB f && decide (ik f < 0)) = b at *
  cases hfin : finB f <;> cases b <;> cases he : (FloatKind.f64.format.order f 0 == some .eq)
  all_goals
    rw [hfin] at HE
    have hs := HE.out
    rw [hs, he] at HV
    rw [HV.out, hs]
    clear hs HE HV
    go_enter Try.func27, Try.ntmps27
    go_wp2_with (go_at_call 30; refine (reffinite_any _ _).mono ?_; rintro e w' ⟨rfl, rfl⟩)
    go_ret2
    exact ⟨rfl, rfl⟩

theorem fin_ng (x : Nat) (hx : x < 2 ^ 64) : (finB x = true ∧ ng x = false) ↔ x < infR := by
  unfold finB
  rw [decide_eq_true_eq, ng_iff x hx, decide_eq_false_iff_not]
  unfold mg infR
  omega
set_option maxHeartbeats 1000000 in
theorem refcheck_any (n : Int) (m v : Nat) (w : World) (hm : m < 2 ^ 64) (hv : v < 2 ^ 64) : Calls Try.prog 13 #[gaug n m v] w fun e w' => e = .returned (.int .i64 (chkF n m v)) ∧ Below w.heap.size w w' := by
  have HM := Lib.hid hm
  have HV := Lib.hid hv
  have HMf := Lib.hid (fin_ng m hm)
  have HVf := Lib.hid (fin_ng v hv)
  clear hm hv
  go_enter Try.func13, Try.ntmps13
  go_wp2_with (first | (go_at_call 17; refine (same_any _ _ _).mono ?_; rintro e w' ⟨rfl, rfl⟩) | (go_at_call 30; refine (reffinite_any _ _).mono ?_; rintro e w' ⟨rfl, rfl⟩) | (go_at_call 31; first | ((with_reducible refine (refsign5 m _ HM.out).mono ?_); rintro e w' ⟨rfl, rfl⟩) | ((with_reducible refine (refsign5 v _ HV.out).mono ?_); rintro e w' ⟨rfl, rfl⟩)))
  all_goals
    go_ret
    refine ⟨ret_int ?_, (Below.refl _ _).alloc (Nat.le_refl _) _⟩
    have h1 := HMf.out
    have h2 := HVf.out
    clear HM HV HMf HVf
    unfold chkF
    (repeat' split) <;> first | rfl | (exfalso; simp_all; try omega)
end Go.Proofs.Ytbgnheckoijmeaa
