import Derived.Test.YtbgnheckoijmeaaFqT
namespace Go.Fq
open Ieee

/-- A difference whose value a rung has (of two numbers that are not below nought). -/
theorem sub_exact (x y r : Nat) (hx : mg x < infR) (hy : mg y < infR) (nx : ng x = false) (ny : ng y = false) (hr : r < infR) (h : units (mg x) = units (mg y) + units r) : double.sub x y = some r := by
  unfold Format.sub
  rw [read_fin x hx, read_fin y hy, nx, ny]
  unfold Datum.opposite Datum.sum
  simp only [Option.map_some, Bool.not_false]
  generalize hb : min (-1074 + (ex (mg x) : Int)) (-1074 + (ex (mg y) : Int)) = base
  have e1 : (-1074 + (ex (mg x) : Int) - base).toNat + (base + 1074).toNat = ex (mg x) := by omega
  have e2 : (-1074 + (ex (mg y) : Int) - base).toNat + (base + 1074).toNat = ex (mg y) := by omega
  have p := Nat.two_pow_pos (base + 1074).toNat
  have hs : (signed false (sig (mg x)) (-1074 + (ex (mg x) : Int) - base).toNat + signed true (sig (mg y)) (-1074 + (ex (mg y) : Int) - base).toNat) * (2 ^ (base + 1074).toNat : Nat) = (units r : Int) := by
    rw [Int.add_mul, signed_scale, signed_scale, e1, e2, signed_val, signed_val, ← units_eq, ← units_eq]
    simp only [Bool.false_eq_true, if_false, if_true]
    omega
  generalize signed false (sig (mg x)) (-1074 + (ex (mg x) : Int) - base).toNat + signed true (sig (mg y)) (-1074 + (ex (mg y) : Int) - base).toNat = t at hs
  have h0 : 0 ≤ t := by
    rcases Int.lt_or_le t 0 with g | g
    · exfalso
      have hp : (0 : Int) < (2 ^ (base + 1074).toNat : Nat) := by omega
      have := Int.mul_neg_of_neg_of_pos g hp
      omega
    · exact g
  obtain ⟨T, rfl⟩ := Int.eq_ofNat_of_zero_le h0
  have hneg : (if (T : Int) = 0 then false && true else decide ((T : Int) < 0)) = false := by
    split
    · rfl
    · simp
  rw [hneg]
  congr 1
  show double.nearest false T base = r
  rw [nearest_exact false T base r 1074 hr (by omega) (by omega) (by rw [Nat.sub_self, Nat.pow_zero, Nat.mul_one]; exact Int.ofNat_inj.1 (by rw [Int.natCast_mul]; exact hs))]
  exact word_pos r

theorem sub_qw (n m : Nat) (h : n < 2 ^ 53) (hm : m ≤ n) : double.sub (qw n) (qw m) = some (qw (n - m)) := by
  have a := qw_fin h
  have b := qw_fin (n := m) (by omega)
  have c := qw_fin (n := n - m) (by omega)
  refine sub_exact _ _ _ a.1 b.1 a.2.1 b.2.1 c.2.2.2 ?_
  have u := units_qw (n := n - m) (by omega)
  rw [mg_small c.2.2.2] at u
  rw [units_qw h, units_qw (n := m) (by omega), u, ← Nat.add_mul]
  congr 1; omega

/-- Between 1 and 2 ^ 20. -/
structure Mid (f : Nat) : Prop where
  nan : nanB f = false
  neg : ng f = false
  fin : mg f < infR
  lo : UI ≤ units (mg f)
  hi : units (mg f) ≤ 4194304 * UQ

theorem ONE_qw : (4607182418800017408 : Nat) = qw 4 := by decide +kernel
theorem WMAX_qw : (4697254411347427328 : Nat) = qw 4194304 := by decide +kernel
theorem QUART_qw : (4598175219545276416 : Nat) = qw 1 := by decide +kernel
theorem TWO_qw : (4611686018427387904 : Nat) = qw 8 := by decide +kernel

theorem mid_of (f : Nat) (hn : nanB f = false) (h1 : (FloatKind.f64.format.order f 4607182418800017408 == some .lt) = false) (h2 : (FloatKind.f64.format.order f 4697254411347427328 == some .gt) = false) : Mid f := by
  have q1 := qw_fin (n := 4) (by omega)
  have q2 := qw_fin (n := 4194304) (by omega)
  have hU := UQ_pos
  have hI := UI_eq
  rw [ONE_qw, cmp_lt, hn, qw_nan (by omega)] at h1
  rw [WMAX_qw, cmp_gt, hn, qw_nan (by omega)] at h2
  simp only [Bool.not_false, Bool.true_and, decide_eq_false_iff_not, Int.not_lt] at h1 h2
  have v1 := ik_lt_val f (qw 4)
  have v2 := ik_lt_val (qw 4194304) f
  rw [q1.2.2.1] at v1
  rw [q2.2.2.1] at v2
  have hneg : ng f = false := by
    cases hg : ng f
    · rfl
    · exfalso
      have : ik f ≤ 0 := by unfold ik; rw [hg]; simp
      have : 0 < ik (qw 4) := by rw [← ONE_qw]; decide +kernel
      omega
  have hv : val f = (units (mg f) : Int) := by unfold val; rw [hneg]; simp
  rw [hv] at v1 v2
  have hf : mg f < infR := by
    have e1 : ik f = (mg f : Int) := by unfold ik; rw [hneg]; simp
    have e2 : ik (qw 4194304) = (mg (qw 4194304) : Int) := by unfold ik; rw [q2.2.1]; simp
    have := q2.1
    omega
  exact ⟨hn, hneg, hf, by omega, by omega⟩

/-- The exponent of such a float. -/
theorem mid_ex (f : Nat) (h : Mid f) : 1022 ≤ ex (mg f) ∧ ex (mg f) ≤ 1060 ∧ 2 ^ 52 ≤ sig (mg f) := by
  have hlo := h.lo
  have hhi := h.hi
  have hs := sig_lt (mg f)
  rw [units_eq] at hlo hhi
  have a : 1022 ≤ ex (mg f) := by
    rcases Nat.lt_or_ge (ex (mg f)) 1022 with g | g
    · exfalso
      have h1 : sig (mg f) * 2 ^ ex (mg f) < 2 ^ 53 * 2 ^ ex (mg f) := Nat.mul_lt_mul_of_pos_right hs (Nat.two_pow_pos _)
      have h2 : 2 ^ 53 * 2 ^ ex (mg f) ≤ UI := by
        rw [← Nat.pow_add]; unfold UI; rw [show (1074 : Nat) = 2 + qe from rfl]; exact Nat.pow_le_pow_right (by omega) (by unfold qe; omega)
      omega
    · exact g
  have c := sig_ge (mg f) (by omega)
  refine ⟨a, ?_, c⟩
  rcases Nat.lt_or_ge 1060 (ex (mg f)) with g | g
  · exfalso
    have h1 : 2 ^ 52 * 2 ^ ex (mg f) ≤ sig (mg f) * 2 ^ ex (mg f) := Nat.mul_le_mul_right _ c
    have h2 : 2 ^ 41 * UQ ≤ 2 ^ 52 * 2 ^ ex (mg f) := by
      unfold UQ
      rw [← Nat.pow_add, ← Nat.pow_add]
      exact Nat.pow_le_pow_right (by omega) (by unfold qe; omega)
    have hU := UQ_pos
    omega
  · exact g

/-- Quarters and what is left over, of such a float. -/
def quo (f : Nat) : Nat := units (mg f) / UQ
def rst (f : Nat) : Nat := units (mg f) % UQ
theorem quo_rst (f : Nat) : units (mg f) = quo f * UQ + rst f := by
  unfold quo rst; have := Nat.div_add_mod (units (mg f)) UQ; rw [Nat.mul_comm]; omega
theorem rst_lt (f : Nat) : rst f < UQ := Nat.mod_lt _ UQ_pos
theorem quo_bd (f : Nat) (h : Mid f) : 4 ≤ quo f ∧ quo f ≤ 4194304 := by
  have hU := UQ_pos
  unfold quo
  refine ⟨(Nat.le_div_iff_mul_le hU).2 (by have := h.lo; rw [UI_eq] at this; exact this), ?_⟩
  have := Nat.div_le_div_right (c := UQ) h.hi
  rwa [Nat.mul_div_cancel _ hU] at this

/-- UQ as a multiple of the float's own unit. -/
theorem uq_unit (f : Nat) (h : Mid f) : ∃ k, UQ = 2 ^ k * 2 ^ ex (mg f) ∧ k ≤ 50 ∧ 12 ≤ k := by
  obtain ⟨a, b, _⟩ := mid_ex f h
  refine ⟨1072 - ex (mg f), ?_, by omega, by omega⟩
  unfold UQ
  rw [← Nat.pow_add, show 1072 - ex (mg f) + ex (mg f) = qe by unfold qe; omega]

theorem rst_rep (f : Nat) (h : Mid f) : (∃ r, r < infR ∧ units r = rst f) ∧ ∃ r, r < infR ∧ units r = UQ - rst f := by
  obtain ⟨k, hk, hk2, _⟩ := uq_unit f h
  obtain ⟨a, b, _⟩ := mid_ex f h
  have hp : 0 < 2 ^ ex (mg f) := Nat.two_pow_pos _
  have e : rst f = (sig (mg f) % 2 ^ k) * 2 ^ ex (mg f) := by
    unfold rst; rw [units_eq, hk, Nat.mul_mod_mul_right]
  have hlt : sig (mg f) % 2 ^ k < 2 ^ k := Nat.mod_lt _ (Nat.two_pow_pos _)
  have h50 : 2 ^ k ≤ 2 ^ 50 := Nat.pow_le_pow_right (by omega) hk2
  refine ⟨?_, ?_⟩
  · obtain ⟨r, h1, h2⟩ := rep (sig (mg f) % 2 ^ k) (ex (mg f)) (by omega) (by omega)
    exact ⟨r, h1, by rw [h2, e]⟩
  · obtain ⟨r, h1, h2⟩ := rep (2 ^ k - sig (mg f) % 2 ^ k) (ex (mg f)) (by omega) (by omega)
    exact ⟨r, h1, by rw [h2, e, hk, Nat.sub_mul]⟩

/-- Which number of quarters is nearest; of two as near the even one. -/
def near (f : Nat) : Nat := if UQ < 2 * rst f ∨ (UQ = 2 * rst f ∧ quo f % 2 = 1) then quo f + 1 else quo f

theorem near_bd (f : Nat) (h : Mid f) : 4 ≤ near f ∧ near f ≤ 4194304 := by
  obtain ⟨a, b⟩ := quo_bd f h
  have hq := quo_rst f
  have hr := rst_lt f
  have hU := UQ_pos
  unfold near
  split
  · refine ⟨by omega, ?_⟩
    rcases Nat.lt_or_ge (quo f) 4194304 with g | g
    · omega
    · exfalso
      have e : quo f = 4194304 := by omega
      have := h.hi
      rw [e] at hq
      omega
  · exact ⟨a, b⟩

theorem sig_normal (m e : Nat) (h1 : 2 ^ 52 ≤ m) (h2 : m < 2 ^ 53) : sig (e * 2 ^ 52 + m) = m := by unfold sig; split <;> omega
theorem ex_normal (m e : Nat) (h1 : 2 ^ 52 ≤ m) (h2 : m < 2 ^ 53) : ex (e * 2 ^ 52 + m) = e := by unfold ex; omega

/-- Four times such a float, exactly. -/
theorem mid_mul4 (f : Nat) (h : Mid f) : ∃ r, mul4 f = r ∧ r < infR ∧ units r = 4 * units (mg f) ∧ sig r = sig (mg f) ∧ ex r = ex (mg f) + 2 := by
  obtain ⟨a, b, c⟩ := mid_ex f h
  have hs := sig_lt (mg f)
  have hr : (ex (mg f) + 2) * 2 ^ 52 + sig (mg f) < infR := by unfold infR; omega
  have hu := units_normal (sig (mg f)) (ex (mg f) + 2) c hs
  have h3 : units ((ex (mg f) + 2) * 2 ^ 52 + sig (mg f)) = 4 * units (mg f) := by
    rw [hu, units_eq, Nat.pow_add, Nat.mul_comm 4, Nat.mul_assoc]
  refine ⟨_, mul4_exact f _ h.fin h.neg hr h3, hr, h3, ?_, ?_⟩
  · exact sig_normal _ _ c hs
  · exact ex_normal _ _ c hs

theorem cut_even (neg : Bool) (n drop : Nat) (h : drop ≤ n.log2 + 2) : Toward.even.cut neg n drop = if 2 ^ drop < 2 * (n % 2 ^ drop) ∨ (2 ^ drop = 2 * (n % 2 ^ drop) ∧ n / 2 ^ drop % 2 = 1) then n / 2 ^ drop + 1 else n / 2 ^ drop := by
  unfold Toward.cut
  simp only [Nat.min_eq_left h, shl, Nat.one_mul]
  have e : (decide (2 ^ drop < 2 * (n % 2 ^ drop)) || (2 ^ drop == 2 * (n % 2 ^ drop) && n / 2 ^ drop % 2 == 1)) = decide (2 ^ drop < 2 * (n % 2 ^ drop) ∨ (2 ^ drop = 2 * (n % 2 ^ drop) ∧ n / 2 ^ drop % 2 = 1)) := by
    rw [Bool.eq_iff_iff]; simp
  rw [e]
  by_cases g : 2 ^ drop < 2 * (n % 2 ^ drop) ∨ (2 ^ drop = 2 * (n % 2 ^ drop) ∧ n / 2 ^ drop % 2 = 1)
  · rw [if_pos g, decide_eq_true g]; rfl
  · rw [if_neg g, decide_eq_false g]; rfl

/-- The program's way: to the nearest whole number of quarters. -/
theorem round_even (f : Nat) (h : Mid f) : truncD .even (mul4 f) = qw (4 * near f) := by
  obtain ⟨r, h1, h2, h3, h4, h5⟩ := mid_mul4 f h
  obtain ⟨a, b, c⟩ := mid_ex f h
  obtain ⟨k, hk, hk2, hk3⟩ := uq_unit f h
  obtain ⟨q1, q2⟩ := near_bd f h
  have hs := sig_lt (mg f)
  have hp : 0 < 2 ^ ex (mg f) := Nat.two_pow_pos _
  have hU := UQ_pos
  rw [h1]
  unfold truncD
  rw [read_fin r (by rw [mg_small h2]; exact h2), mg_small h2, ng_small h2, h4, h5]
  show double.nearest false (Toward.even.cut false (sig (mg f) <<< (-1074 + ((ex (mg f) + 2 : Nat) : Int)).toNat) (-(-1074 + ((ex (mg f) + 2 : Nat) : Int))).toNat) 0 = _
  have e1 : (-1074 + ((ex (mg f) + 2 : Nat) : Int)).toNat = 0 := by omega
  have hkx : k + ex (mg f) = qe := by
    have : (2 : Nat) ^ qe = 2 ^ (k + ex (mg f)) := by rw [Nat.pow_add]; exact hk
    exact ((Nat.pow_right_inj (by omega)).1 this).symm
  have e2 : (-(-1074 + ((ex (mg f) + 2 : Nat) : Int))).toNat = k := by unfold qe at hkx; omega
  rw [e1, e2, shl, Nat.pow_zero, Nat.mul_one]
  have hlog : 52 ≤ (sig (mg f)).log2 := (Nat.le_log2 (by omega)).2 c
  rw [cut_even false _ _ (by omega)]
  have eq1 : sig (mg f) / 2 ^ k = quo f := by
    unfold quo; rw [units_eq, hk, Nat.mul_div_mul_right _ _ hp]
  have er : (sig (mg f) % 2 ^ k) * 2 ^ ex (mg f) = rst f := by
    unfold rst; rw [units_eq, hk, Nat.mul_mod_mul_right]
  have c1 : 2 ^ k < 2 * (sig (mg f) % 2 ^ k) ↔ UQ < 2 * rst f := by
    rw [hk, ← er, ← Nat.mul_assoc]
    exact (Nat.mul_lt_mul_right hp).symm
  have c2 : 2 ^ k = 2 * (sig (mg f) % 2 ^ k) ↔ UQ = 2 * rst f := by
    rw [hk, ← er, ← Nat.mul_assoc]
    exact ⟨fun h => congrArg (· * 2 ^ ex (mg f)) h, fun h => Nat.eq_of_mul_eq_mul_right hp h⟩
  rw [eq1]
  simp only [c1, c2]
  have : (if UQ < 2 * rst f ∨ UQ = 2 * rst f ∧ quo f % 2 = 1 then quo f + 1 else quo f) = near f := rfl
  rw [this]
  exact nearest_whole _ (by omega)

/-- The document's way. -/
theorem floor_low (f : Nat) (h : Mid f) : truncD .down (mul4 f) = qw (4 * quo f) := by
  obtain ⟨r, h1, h2, h3, h4, h5⟩ := mid_mul4 f h
  obtain ⟨q1, q2⟩ := quo_bd f h
  have hU := UQ_pos
  have e : units (mg r) / UI = quo f := by
    rw [mg_small h2, h3, UI_eq, Nat.mul_div_mul_left _ _ (by omega)]; rfl
  rw [h1, truncD_down r (by rw [mg_small h2]; exact h2) (ng_small h2) (by rw [e]; omega), e]

theorem two_diffs (f : Nat) (h : Mid f) : ∃ a b, double.sub f (qw (quo f)) = some a ∧ double.sub (qw (quo f + 1)) f = some b ∧ nanB a = false ∧ nanB b = false ∧
    (FloatKind.f64.format.order a b == some .gt) = decide (UQ < 2 * rst f) ∧ (FloatKind.f64.format.order a b == some .eq) = decide (UQ = 2 * rst f) := by
  obtain ⟨⟨a, a1, a2⟩, ⟨b, b1, b2⟩⟩ := rst_rep f h
  obtain ⟨q1, q2⟩ := quo_bd f h
  have hq := quo_rst f
  have hr := rst_lt f
  have w0 := qw_fin (n := quo f) (by omega)
  have w1 := qw_fin (n := quo f + 1) (by omega)
  have na : nanB a = false := nan_of_le (by rw [mg_small a1]; omega)
  have nb : nanB b = false := nan_of_le (by rw [mg_small b1]; omega)
  have va : val a = (rst f : Int) := by unfold val; rw [ng_small a1, mg_small a1, a2]; simp
  have vb : val b = ((UQ - rst f : Nat) : Int) := by unfold val; rw [ng_small b1, mg_small b1, b2]; simp
  have l1 := ik_lt_val b a
  have l2 := ik_eq_val a b
  rw [va, vb] at l1 l2
  refine ⟨a, b, sub_exact _ _ _ h.fin w0.1 h.neg w0.2.1 a1 (by rw [units_qw (by omega), a2]; exact hq), sub_exact _ _ _ w1.1 h.fin w1.2.1 h.neg b1 (by
    rw [units_qw (by omega), b2, Nat.add_mul, Nat.one_mul]; omega), na, nb, ?_, ?_⟩
  · rw [cmp_gt, na, nb, Bool.eq_iff_iff]
    simp only [Bool.not_false, Bool.true_and, decide_eq_true_eq]
    omega
  · rw [od_num na nb, Bool.eq_iff_iff, beq_iff_eq, Option.some.injEq, Int.compare_eq_eq, decide_eq_true_eq]
    omega

theorem weightF_qw (n : Nat) (h1 : 4 ≤ n) (h2 : n ≤ 4194304) : weightF (qw n) = 0 := by
  have hf := qw_fin (n := n) (by omega)
  have o1 := od_qw (n := n) (m := 4) (by omega) (by omega)
  have o2 := od_qw (n := n) (m := 4194304) (by omega) (by omega)
  rw [← ONE_qw] at o1
  rw [← WMAX_qw] at o2
  have c1 : (some (compare (n : Int) ((4 : Nat) : Int)) == some Ordering.lt) = false := by
    rw [beq_eq_false_iff_ne]; intro hc; rw [Option.some.injEq, Int.compare_eq_lt] at hc; omega
  have c2 : (some (compare (n : Int) ((4194304 : Nat) : Int)) == some Ordering.gt) = false := by
    rw [beq_eq_false_iff_ne]; intro hc; rw [Option.some.injEq, Int.compare_eq_gt] at hc; omega
  unfold weightF withinF
  rw [qw_nan (by omega), qw_inf (by omega), hf.2.1, o1, o2, c1, c2, qF_qw n (by omega)]
  rfl

/-- A weight is a number of quarters, and the nearest one is it. -/
theorem weight_near (f : Nat) (hf : f < 2 ^ 64) (h : weightF f = 0) : near f = quo f ∧ f = qw (quo f) := by
  unfold weightF withinF at h
  cases hn : nanB f
  case true => rw [hn] at h; cases h
  cases hi : infB f
  case true => rw [hn, hi] at h; cases h
  cases hg : ng f
  case true => rw [hn, hi, hg] at h; cases h
  cases h1 : (FloatKind.f64.format.order f 4607182418800017408 == some .lt)
  case true => rw [hn, hi, hg, h1] at h; cases h
  cases h2 : (FloatKind.f64.format.order f 4697254411347427328 == some .gt)
  case true => rw [hn, hi, hg, h1, h2] at h; cases h
  cases hq : qF f
  case false => rw [hn, hi, hg, h1, h2, hq] at h; cases h
  have hm := mid_of f hn h1 h2
  have hT : (FloatKind.f64.format.order f 4787326403894837248 == some .gt) = false := by
    have q2 := qw_fin (n := 4398046511104) (by omega)
    rw [cmp_gt, hn, T40_qw, qw_nan (by omega)]
    simp only [Bool.not_false, Bool.true_and, decide_eq_false_iff_not, Int.not_lt]
    have v := ik_lt_val (qw 4398046511104) f
    rw [q2.2.2.1] at v
    have hv : val f = (units (mg f) : Int) := by unfold val; rw [hg]; simp
    rw [hv] at v
    have := hm.hi
    have hU := UQ_pos
    omega
  have ht : toldB f = true := by unfold toldB; rw [hn, hg, hT, hq]; rfl
  obtain ⟨q, hq2, hfq⟩ := told_qw f hf ht
  have hu : units (mg f) = q * UQ := by rw [hfq]; exact units_qw (by omega)
  have hU := UQ_pos
  have hquo : quo f = q := by unfold quo; rw [hu, Nat.mul_div_cancel _ hU]
  have hrst : rst f = 0 := by unfold rst; rw [hu, Nat.mul_mod_left]
  refine ⟨?_, by rw [hquo]; exact hfq⟩
  unfold near; rw [hrst, if_neg (by omega)]

theorem qw_lt64 (n : Nat) (h : n < 2 ^ 53) : qw n < 2 ^ 63 := by
  have := (qw_fin h).2.2.2; unfold infR at this; omega

/-- The exponent field of a whole number. -/
theorem exp_qw (n : Nat) (h1 : 1 ≤ n) (h2 : n < 2 ^ 50) : qw (4 * n) / 2 ^ 52 = n.log2 + 1023 := by
  have hf := qw_fin (n := 4 * n) (by omega)
  have hu := units_qw (n := 4 * n) (by omega)
  rw [mg_small hf.2.2.2] at hu
  generalize qw (4 * n) = r at *
  have hn : n ≠ 0 := by omega
  have e : sig r * 2 ^ ex r = n * 2 ^ (2 + qe) := by
    rw [← units_eq, hu, Nat.pow_add]; unfold UQ; rw [Nat.mul_comm 4 n, Nat.mul_assoc]
  have hs : sig r ≠ 0 := by
    intro h0; rw [h0, Nat.zero_mul] at e
    have := Nat.two_pow_pos (2 + qe)
    rcases Nat.mul_eq_zero.1 e.symm with g | g <;> omega
  have hl := congrArg Nat.log2 e
  rw [log2_shift _ _ hs, log2_shift _ _ hn] at hl
  have h52 := log2_lt hs (sig_lt r)
  have hx : 0 < ex r := by unfold qe at hl; omega
  have hge := sig_ge r hx
  have h3 : 52 ≤ (sig r).log2 := (Nat.le_log2 hs).2 hge
  have hr := ex_sig r
  have hlt := sig_lt r
  unfold qe at hl
  omega

/-- A power of two. -/
theorem pow_qw (L : Nat) (h : L ≤ 40) : (L + 1023) * 2 ^ 52 = qw (4 * 2 ^ L) := by
  have hp : 2 ^ L ≤ 2 ^ 40 := Nat.pow_le_pow_right (by omega) h
  have hf := qw_fin (n := 4 * 2 ^ L) (by omega)
  have hu := units_qw (n := 4 * 2 ^ L) (by omega)
  rw [mg_small hf.2.2.2] at hu
  refine units_inj ?_
  rw [hu]
  have := units_normal (2 ^ 52) (L + 1022) (by omega) (by omega)
  rw [show (L + 1022) * 2 ^ 52 + 2 ^ 52 = (L + 1023) * 2 ^ 52 by omega] at this
  rw [this, ← Nat.pow_add]
  unfold UQ
  rw [show 4 * 2 ^ L * 2 ^ qe = 2 ^ (2 + L + qe) by rw [Nat.pow_add, Nat.pow_add]]
  rw [show 52 + (L + 1022) = 2 + L + qe by unfold qe; omega]

/-- The fraction that Frexp tells, as the program reckons it. -/
def frF (x : Nat) : Nat := (bits .or .u64 (bits .andNot .u64 (x : Int) 9218868437227405312) 4602678819172646912).toNat
theorem frF_eq (x : Nat) (h : x < 2 ^ 63) : frF x = 4602678819172646912 + x % 2 ^ 52 := by
  unfold frF
  rw [show (9218868437227405312 : Int) = ((9218868437227405312 : Nat) : Int) from rfl, u64_andNot_nat x _ (by omega) (by omega)]
  rw [show (18446744073709551615 - 9218868437227405312 : Nat) = 9223372036854775808 ||| 4503599627370495 by decide +kernel, Nat.and_or_distrib_left, nat_bit63,
    show x / 9223372036854775808 = 0 from Nat.div_eq_of_lt (by omega)]
  rw [show 0 % 2 * 9223372036854775808 = 0 from rfl, Nat.zero_or, Nat.and_two_pow_sub_one_eq_mod x 52]
  have hx : x % 2 ^ 52 < 2 ^ 52 := Nat.mod_lt _ (by omega)
  generalize x % 2 ^ 52 = y at *
  rw [show (4602678819172646912 : Int) = ((4602678819172646912 : Nat) : Int) from rfl, u64_or_nat y _ (by omega) (by omega), Int.toNat_natCast, Nat.or_comm, nat_join 52 _ _ (by omega) hx]

theorem frF_two : frF 4611686018427387904 = 4602678819172646912 := by rw [frF_eq _ (by omega)]
theorem frF_ge (x : Nat) (h : x < 2 ^ 63) : (FloatKind.f64.format.order (frF x) 4602678819172646912 == some .lt) = false := by
  rw [frF_eq x h, cmp_lt]
  have hx : x % 2 ^ 52 < 2 ^ 52 := Nat.mod_lt _ (by omega)
  generalize x % 2 ^ 52 = y at *
  have e : ik (4602678819172646912 + y) = ((4602678819172646912 + y : Nat) : Int) := by
    unfold ik
    rw [ng_small (by unfold infR; omega), mg_small (by unfold infR; omega)]; simp
  have e2 : ik 4602678819172646912 = 4602678819172646912 := by decide +kernel
  rw [e, e2]
  have : decide (((4602678819172646912 + y : Nat) : Int) < 4602678819172646912) = false := by rw [decide_eq_false_iff_not]; omega
  rw [this]; simp

/-- The exponent that Frexp tells. -/
theorem fr_exp (x L : Nat) (h : x < 2 ^ 63) (hE : x / 2 ^ 52 = L + 1023) (hL : L ≤ 40) : bits .and .u64 ((x : Int) / 4503599627370496) 2047 = (L : Int) + 1023 := by
  have : (x : Int) / 4503599627370496 = ((x / 4503599627370496 : Nat) : Int) := by omega
  rw [this, show (2047 : Int) = ((2047 : Nat) : Int) from rfl, u64_and_nat _ _ (by omega) (by omega), nat_mask11]
  omega

theorem mul_one_exact (x : Nat) (hx : mg x < infR) (hn : ng x = false) (hm : mg x = x) : double.mul 4607182418800017408 x = some x := by
  unfold Format.mul
  rw [show double.read 4607182418800017408 = .number false (2 ^ 52) (-52) by decide +kernel, read_fin x hx, hn]
  show some (double.nearest (false ^^ false) (2 ^ 52 * sig (mg x)) (-52 + (-1074 + (ex (mg x) : Int)))) = some x
  rw [show (false ^^ false) = false from rfl, nearest_exact false _ _ (mg x) 1126 hx (by omega) (by omega) ?_]
  · rw [word_pos, hm]
  · have e : (-52 + (-1074 + (ex (mg x) : Int)) + ((1126 : Nat) : Int)).toNat = ex (mg x) := by omega
    rw [e, units_eq]
    rw [show (1126 - 1074 : Nat) = 52 from rfl, Nat.mul_comm (2 ^ 52) (sig (mg x)), Nat.mul_assoc, Nat.mul_comm (2 ^ 52) (2 ^ ex (mg x)), ← Nat.mul_assoc]

theorem qw_word_lt {n m : Nat} (hn : n < 2 ^ 53) (hm : m < 2 ^ 53) (h : n < m) : qw n < qw m := by
  have a := qw_fin hn
  have b := qw_fin hm
  have u := units_qw hn
  have v := units_qw hm
  rw [mg_small a.2.2.2] at u
  rw [mg_small b.2.2.2] at v
  refine units_lt_iff.1 ?_
  rw [u, v]
  exact Nat.mul_lt_mul_of_pos_right h UQ_pos

theorem qw_geq (n m : Nat) (hn : n < 2 ^ 53) (hm : m < 2 ^ 53) : (FloatKind.f64.format.order (qw n) (qw m) == some .gt || FloatKind.f64.format.order (qw n) (qw m) == some .eq) = decide (m ≤ n) := by
  rw [od_qw hn hm, Bool.eq_iff_iff, Bool.or_eq_true, beq_iff_eq, beq_iff_eq, Option.some.injEq, Option.some.injEq, Int.compare_eq_gt, Int.compare_eq_eq, decide_eq_true_eq]
  omega
theorem qw_lss (n m : Nat) (hn : n < 2 ^ 53) (hm : m < 2 ^ 53) : (FloatKind.f64.format.order (qw n) (qw m) == some .lt) = decide (n < m) := by
  rw [od_qw hn hm, Bool.eq_iff_iff, beq_iff_eq, Option.some.injEq, Int.compare_eq_lt, decide_eq_true_eq]
  omega
theorem qw_eql (n m : Nat) (hn : n < 2 ^ 53) (hm : m < 2 ^ 53) : (FloatKind.f64.format.order (qw n) (qw m) == some .eq) = decide (n = m) := by
  rw [od_qw hn hm, Bool.eq_iff_iff, beq_iff_eq, Option.some.injEq, Int.compare_eq_eq, decide_eq_true_eq]
  omega
theorem sub_pow_mod (n : Nat) (h : 2 ≤ n) : 1 ≤ n.log2 ∧ 2 ^ n.log2 ≤ n ∧ (n - 2 ^ n.log2) % 2 = n % 2 ∧ 0 < 2 ^ n.log2 := by
  have h1 : 1 ≤ n.log2 := (Nat.le_log2 (by omega)).2 (by omega)
  have h2 := ((log2_iff (k := n.log2) (by omega : n ≠ 0)).1 rfl).1
  refine ⟨h1, h2, ?_, Nat.two_pow_pos _⟩
  obtain ⟨j, hj⟩ : ∃ j, n.log2 = j + 1 := ⟨n.log2 - 1, by omega⟩
  have e : 2 ^ n.log2 = 2 * 2 ^ j := by rw [hj, Nat.pow_succ, Nat.mul_comm]
  rw [e] at h2 ⊢
  omega
end Go.Fq
