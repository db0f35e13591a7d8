import Derived.Test.YtbgnheckoijmeaaGqB
namespace Go.Fq
open Ieee

theorem ik_pos {x : Nat} (h : x ≤ infR) : ik x = (x : Int) := by
  unfold infR at h
  unfold ik ng mg
  rw [show x / 2 ^ 63 = 0 from Nat.div_eq_of_lt (by omega), Nat.mod_eq_of_lt (show x < 2 ^ 63 by omega)]; simp
theorem order_pos {x y : Nat} (hx : x ≤ infR) (hy : y ≤ infR) : FloatKind.f64.format.order x y = some (compare (x : Int) (y : Int)) := by
  have nx : nanB x = false := nan_of_le (by unfold mg; unfold infR at *; omega)
  have ny : nanB y = false := nan_of_le (by unfold mg; unfold infR at *; omega)
  have ex : ik x = (x : Int) := ik_pos hx
  have ey : ik y = (y : Int) := ik_pos hy
  rw [od_num nx ny, ex, ey]
theorem lt0_pos {x : Nat} (hx : x ≤ infR) : (FloatKind.f64.format.order x 0 == some .lt) = false := by
  rw [order_pos hx (Nat.zero_le _), beq_eq_false_iff_ne]; intro h
  rw [Option.some.injEq, Int.compare_eq_lt] at h; omega
theorem lt0_neg {r : Nat} (h0 : 0 < r) (hr : r ≤ infR) : (FloatKind.f64.format.order (double.word true r) 0 == some .lt) = true := by
  have hn : nanB (double.word true r) = false := nan_of_le (by rw [mg_word_true hr]; exact hr)
  rw [cmp_lt, hn, show nanB 0 = false by decide +kernel, show ik 0 = 0 by decide +kernel]
  have : ik (double.word true r) = -(r : Int) := by unfold ik; rw [ng_word_true hr, mg_word_true hr]; rfl
  rw [this]; simp; omega

/-- How far two floats lie from each other. -/
def apart (m s : Nat) : Nat := if s ≤ m then offF m s else offF s m
theorem apart_le {m s : Nat} (hm : m < infR) (hs : s < infR) : apart m s < infR := by
  unfold apart
  split
  · exact Nat.lt_of_le_of_lt (offF_le hm) hm
  · exact Nat.lt_of_le_of_lt (offF_le hs) hs

theorem kth_le {k x : Nat} (hk : k ≤ 8) (hx : x < infR) : kth k x ≤ x := by
  unfold kth
  refine Rn_le_of hx ?_
  have : units x * k ≤ units x * 8 := Nat.mul_le_mul_left _ hk
  have h2 := Nat.mul_le_mul_right (2 ^ 123) this
  rw [show units x * 8 * 2 ^ 123 = units x * 2 ^ 126 by rw [Nat.mul_assoc]] at h2
  exact h2
theorem kth_fin {k x : Nat} (hk : k ≤ 8) (hx : x < infR) : kth k x < infR := Nat.lt_of_le_of_lt (kth_le hk hx) hx

theorem blend_fin7 {x y : Nat} (hx : x < infR) (hy : y < infR) : plusF (kth 7 x) (kth 1 y) < infR := by
  have a : x ≤ MAXF := by unfold MAXF; unfold infR at hx; omega
  have b : y ≤ MAXF := by unfold MAXF; unfold infR at hy; omega
  have := plusF_mono (kth_mono 7 a) (kth_mono 1 b)
  have e : plusF (kth 7 MAXF) (kth 1 MAXF) < infR := by decide +kernel
  exact Nat.lt_of_le_of_lt this e
theorem blend_fin6 {x y : Nat} (hx : x < infR) (hy : y < infR) : plusF (kth 6 x) (kth 2 y) < infR := by
  have a : x ≤ MAXF := by unfold MAXF; unfold infR at hx; omega
  have b : y ≤ MAXF := by unfold MAXF; unfold infR at hy; omega
  have := plusF_mono (kth_mono 6 a) (kth_mono 2 b)
  have e : plusF (kth 6 MAXF) (kth 2 MAXF) < infR := by decide +kernel
  exact Nat.lt_of_le_of_lt this e

/-- A gauge: its N, Mean, Var. -/
def behindF (n : Int) (m v s : Nat) : Int × Nat × Nat :=
  if n = 0 then (1, s, kth 4 s) else (if n < 9223372036854775807 then n + 1 else n, plusF (kth 7 m) (kth 1 s), plusF (kth 6 v) (kth 2 (apart m s)))

def chkF (n : Int) (m v : Nat) : Int := if n = 0 ∧ m = 0 ∧ v = 0 then 0 else if 1 ≤ n ∧ m < infR ∧ v < infR then 0 else 1
def sampB (x : Nat) : Bool := !nanB x && decide (0 ≤ ik x) && !infB x

/-- A gauge behind a sample, and the error. -/
def feedF (n : Int) (m v f : Nat) : (Int × Nat × Nat) × Int :=
  if chkF n m v = 0 then (if sampB f then (behindF n m v (mg f), 0) else ((0, 0, 0), 50)) else ((0, 0, 0), 1)

theorem chkF_ok {n : Int} {m v : Nat} (h : chkF n m v = 0) : 0 ≤ n ∧ m < infR ∧ v < infR := by
  have hi := infR_pos
  unfold chkF at h
  split at h
  · omega
  · split at h
    · omega
    · cases h
theorem chkF_one (n : Int) (m v : Nat) : chkF n m v = 0 ∨ chkF n m v = 1 := by
  unfold chkF; split
  · exact .inl rfl
  · split
    · exact .inl rfl
    · exact .inr rfl
theorem samp_fin {x : Nat} (h : sampB x = true) : mg x < infR := by
  unfold sampB at h
  simp only [Bool.and_eq_true, Bool.not_eq_true', decide_eq_true_eq] at h
  obtain ⟨⟨h1, _⟩, h3⟩ := h
  unfold infB at h3
  exact mg_fin_of x h1 (of_decide_eq_false h3)
theorem samp_cases {x : Nat} (hx : x < 2 ^ 64) (h : sampB x = true) : x < infR ∨ x = 2 ^ 63 := by
  have hf := samp_fin h
  unfold sampB at h
  simp only [Bool.and_eq_true, Bool.not_eq_true', decide_eq_true_eq] at h
  obtain ⟨⟨_, h2⟩, _⟩ := h
  unfold ik at h2
  rw [ng_iff x hx] at h2
  unfold mg at *
  by_cases g : 2 ^ 63 ≤ x
  · rw [decide_eq_true g] at h2
    simp only [if_true] at h2
    right; omega
  · left; rw [Nat.mod_eq_of_lt (by omega)] at hf; exact hf
theorem meas_eq (x : Nat) (hx : x < 2 ^ 64) : (sampB x && !ng x) = decide (x < infR) := by
  rw [Bool.eq_iff_iff, decide_eq_true_eq]
  constructor
  · intro h
    rw [Bool.and_eq_true] at h
    rcases samp_cases hx h.1 with g | g
    · exact g
    · exfalso
      have := h.2
      rw [ng_iff x hx, g] at this
      simp at this
  · intro h
    unfold sampB
    rw [ng_small h, nan_of_le (by rw [mg_small h]; omega)]
    have e : infB x = false := by unfold infB; rw [mg_small h]; simp only [decide_eq_false_iff_not]; omega
    have e2 : ik x = (x : Int) := by unfold ik; rw [ng_small h, mg_small h]; rfl
    rw [e, e2]; simp

theorem inf_ge (a : Nat) (h : 0 ≤ ik a) : (FloatKind.f64.format.order a 9218868437227405311 == some .gt) = infB a := by
  have h2 := inf_two a
  rw [show (9218868437227405311 : Nat) = MAXF from rfl, ← h2]
  have : (FloatKind.f64.format.order a NMAXF == some .lt) = false := by
    rw [order_nmax]
    split
    · rfl
    · rw [beq_eq_false_iff_ne]
      intro hc
      rw [Option.some.injEq, Int.compare_eq_lt] at hc
      omega
  rw [this, Bool.or_false]

theorem ge0_eq (a : Nat) : (FloatKind.f64.format.order a 0 == some .gt || FloatKind.f64.format.order a 0 == some .eq) = (!nanB a && decide (0 ≤ ik a)) := by
  rw [od_eq, show nanB 0 = false by decide +kernel, show ik 0 = 0 by decide +kernel, Bool.or_false]
  cases nanB a
  · rw [Bool.eq_iff_iff]
    simp only [Bool.false_eq_true, if_false, Bool.or_eq_true, beq_iff_eq, Option.some.injEq, Int.compare_eq_gt, Int.compare_eq_eq, Bool.not_false, Bool.true_and, decide_eq_true_eq]
    omega
  · simp
theorem lt0_eq (a : Nat) : (FloatKind.f64.format.order a 0 == some .lt) = (!nanB a && decide (ik a < 0)) := by
  rw [cmp_lt, show nanB 0 = false by decide +kernel, show ik 0 = 0 by decide +kernel]; simp
theorem eq0_eq (a : Nat) : (FloatKind.f64.format.order a 0 == some .eq) = (!nanB a && decide (ik a = 0)) := by
  rw [od_eq, show nanB 0 = false by decide +kernel, show ik 0 = 0 by decide +kernel, Bool.or_false]
  cases nanB a
  · rw [Bool.eq_iff_iff]
    simp only [Bool.false_eq_true, if_false, beq_iff_eq, Option.some.injEq, Int.compare_eq_eq, Bool.not_false, Bool.true_and, decide_eq_true_eq]
  · simp
/-- Is a word finite, as the document asks it? -/
def finB (a : Nat) : Bool := decide (mg a < infR)
theorem fin_le (a : Nat) : (FloatKind.f64.format.order a 9218868437227405311 == some .lt || FloatKind.f64.format.order a 9218868437227405311 == some .eq) = (!nanB a && decide (ik a ≤ 9218868437227405311)) := by
  rw [show (9218868437227405311 : Nat) = MAXF from rfl, order_max]
  cases nanB a
  · rw [Bool.eq_iff_iff]
    simp only [Bool.false_eq_true, if_false, Bool.or_eq_true, beq_iff_eq, Option.some.injEq, Int.compare_eq_lt, Int.compare_eq_eq, Bool.not_false, Bool.true_and, decide_eq_true_eq]
    omega
  · simp
theorem fin_ge (a : Nat) : (FloatKind.f64.format.order a 18442240474082181119 == some .gt || FloatKind.f64.format.order a 18442240474082181119 == some .eq) = (!nanB a && decide (-9218868437227405311 ≤ ik a)) := by
  rw [show (18442240474082181119 : Nat) = NMAXF from rfl, order_nmax]
  cases nanB a
  · rw [Bool.eq_iff_iff]
    simp only [Bool.false_eq_true, if_false, Bool.or_eq_true, beq_iff_eq, Option.some.injEq, Int.compare_eq_gt, Int.compare_eq_eq, Bool.not_false, Bool.true_and, decide_eq_true_eq]
    omega
  · simp
theorem finB_eq (a : Nat) : finB a = ((!nanB a && decide (ik a ≤ 9218868437227405311)) && (!nanB a && decide (-9218868437227405311 ≤ ik a))) := by
  have hi : infR = 9218868437227405312 := by decide +kernel
  unfold finB
  cases h : nanB a
  · unfold nanB at h
    have h := of_decide_eq_false h
    rw [Bool.eq_iff_iff]
    simp only [Bool.not_false, Bool.true_and, Bool.and_eq_true, decide_eq_true_eq]
    unfold ik
    split <;> omega
  · unfold nanB at h
    have h := of_decide_eq_true h
    simp; omega
theorem sampB_eq (a : Nat) : sampB a = (finB a && !(!nanB a && decide (ik a < 0))) := by
  rw [finB_eq]
  unfold sampB
  cases h : nanB a
  · unfold infB
    have hi : infR = 9218868437227405312 := by decide +kernel
    unfold nanB at h
    have h := of_decide_eq_false h
    rw [Bool.eq_iff_iff]
    simp only [Bool.not_false, Bool.true_and, Bool.and_eq_true, decide_eq_true_eq, Bool.not_eq_true', decide_eq_false_iff_not]
    unfold ik
    split <;> omega
  · simp

/-- What is rounded for the cost. -/
def costS (m v : Nat) : Nat := if kth 32 v < infR then plusF m (kth 32 v) else infR
theorem add_inf {x : Nat} (hx : x < infR) : double.add x infR = some infR := by
  unfold Format.add
  rw [read_pos hx, read_inf infR (mg_mod_inf)]
  show some (double.write (.infinity (ng infR))) = _
  decide +kernel
where mg_mod_inf : mg infR = infR := by decide +kernel
theorem cost_add {m v : Nat} (hm : m < infR) : double.add m (kth 32 v) = some (costS m v) ∧ costS m v ≤ infR := by
  unfold costS
  split
  · exact ⟨add_fin hm (by assumption), plusF_le_inf _ _⟩
  · rename_i h
    have e : kth 32 v = infR := by have := kth_le_inf 32 v; omega
    rw [e]
    exact ⟨add_inf hm, Nat.le_refl _⟩
end Go.Fq
