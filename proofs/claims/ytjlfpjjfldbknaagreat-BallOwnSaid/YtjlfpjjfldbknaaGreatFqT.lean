/-  -/
import Derived.Test.YtjlfpjjfldbknaaGreatFqA
section
namespace Go.Fq
open Ieee

theorem T40_qw : (4787326403894837248 : Nat) = qw 4398046511104 := by decide +kernel
/-- Has it a text other than inf? -/
def toldB (d : Nat) : Bool := !nanB d && !ng d && !(FloatKind.f64.format.order d 4787326403894837248 == some .gt) && qF d

theorem finite_of_le (d : Nat) (hn : nanB d = false) (hg : ng d = false) (h : (FloatKind.f64.format.order d 4787326403894837248 == some .gt) = false) : mg d < infR ∧ units (mg d) ≤ 4398046511104 * UQ := by
  have hq := qw_fin (n := 4398046511104) (by omega)
  rw [cmp_gt, hn, show nanB 4787326403894837248 = false by decide +kernel] at h
  simp only [Bool.not_false, Bool.true_and, decide_eq_false_iff_not, Int.not_lt] at h
  rw [T40_qw] at h
  have h2 : val d ≤ val (qw 4398046511104) := by
    have := ik_lt_val (qw 4398046511104) d
    omega
  rw [hq.2.2.1] at h2
  have hm : mg d < infR := by
    have : ik d = (mg d : Int) := by unfold ik; rw [hg]; simp
    have e2 : ik (qw 4398046511104) = (mg (qw 4398046511104) : Int) := by unfold ik; rw [hq.2.1]; simp
    have := hq.1
    omega
  refine ⟨hm, ?_⟩
  have : val d = (units (mg d) : Int) := by unfold val; rw [hg]; simp
  omega

theorem small_mul4 (d : Nat) (hn : nanB d = false) (hg : ng d = false) (h : (FloatKind.f64.format.order d 4787326403894837248 == some .gt) = false) :
    ∃ r, mul4 d = r ∧ r < infR ∧ units r = 4 * units (mg d) := by
  obtain ⟨hm, hu⟩ := finite_of_le d hn hg h
  have he : ex (mg d) ≤ 1200 := by
    rcases Nat.lt_or_ge 1200 (ex (mg d)) with g | g
    · exfalso
      have h1 := sig_ge (mg d) (by omega)
      have h2 : 2 ^ 52 * 2 ^ qe ≤ units (mg d) := by
        rw [units_eq]
        exact Nat.mul_le_mul h1 (Nat.pow_le_pow_right (by omega) (by unfold qe; omega))
      have hp0 : 0 < 2 ^ qe := Nat.pow_pos (by omega)
      unfold UQ at hu
      generalize 2 ^ qe = Y at *
      omega
    · exact g
  obtain ⟨r, h1, h2⟩ := rep (sig (mg d)) (ex (mg d) + 2) (sig_lt _) (by omega)
  have h3 : units r = 4 * units (mg d) := by
    rw [h2, units_eq, Nat.pow_add, Nat.mul_comm 4, Nat.mul_assoc]
  exact ⟨r, mul4_exact d r hm hg h1 h3, h1, h3⟩

theorem told_qw (d : Nat) (hd : d < 2 ^ 64) (h : toldB d = true) : ∃ q, q ≤ 4398046511104 ∧ d = qw q := by
  unfold toldB at h
  simp only [Bool.and_eq_true, Bool.not_eq_true'] at h
  obtain ⟨⟨⟨hn, hg⟩, ho⟩, hq⟩ := h
  obtain ⟨hm, hu⟩ := finite_of_le d hn hg ho
  obtain ⟨r, h1, h2, h3⟩ := small_mul4 d hn hg ho
  have hU := UQ_pos
  have hI := UI_eq
  have hk : units (mg r) / UI ≤ 4398046511104 := by
    rw [mg_small h2, h3, hI]
    rw [Nat.mul_div_mul_left _ _ (by omega)]
    exact Nat.div_le_of_le_mul (by rw [Nat.mul_comm]; exact hu)
  have ht := truncD_zero r (by rw [mg_small h2]; exact h2) (ng_small h2) (by omega)
  unfold qF at hq
  rw [h1, ht, beq_iff_eq] at hq
  have hq' : FloatKind.f64.format.order (qw (4 * (units (mg r) / UI))) r = some .eq := hq
  have hf := qw_fin (n := 4 * (units (mg r) / UI)) (by omega)
  rw [od_num (qw_nan (by omega)) (nan_of_le (by rw [mg_small h2]; omega)), Option.some.injEq, Int.compare_eq_eq, ← ik_eq_val, hf.2.2.1] at hq'
  have hv : val r = (units r : Int) := by unfold val; rw [ng_small h2, mg_small h2]; simp
  rw [hv, Int.ofNat_inj, h3] at hq'
  generalize units (mg r) / UI = q at *
  refine ⟨q, hk, ?_⟩
  have hd2 : units (mg d) = q * UQ := by
    rw [Nat.mul_assoc] at hq'; omega
  have hw := qw_fin (n := q) (by omega)
  have hu2 := units_qw (n := q) (by omega)
  have e : mg d = mg (qw q) := units_inj (by rw [hd2, hu2])
  have hlt : d < 2 ^ 63 := by
    rw [ng_iff d hd] at hg
    have := of_decide_eq_false hg
    omega
  have e2 : mg d = d := by unfold mg; exact Nat.mod_eq_of_lt hlt
  rw [← e2, e, mg_small hw.2.2.2]

end Go.Fq
end

section
namespace Go.Fq

end Go.Fq
end
