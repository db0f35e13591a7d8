import Derived.Test.YtbgnheckoijmeaaGqD
namespace Go.Fq
open Ieee

def eU : Nat := 1061
def eD : Nat := 1187
theorem eD_sum : eD = eU + 126 := rfl
theorem eD_kth : eD = 3 + eU + 123 := rfl
theorem eD_thou : eD = 10 + eU + 116 := rfl
theorem qe_sum : qe = 11 + eU := rfl
attribute [irreducible] eU eD
/-- The word of n parts of 8192. -/
def dy (n : Nat) : Nat := Rn (n * 2 ^ eD)
def DU : Nat := 2 ^ eU
theorem DU_pos : 0 < DU := Nat.two_pow_pos _

theorem dy_fin {n : Nat} (h : n < 2 ^ 53) : dy n < infR ∧ units (dy n) = n * DU := by
  obtain ⟨r, h1, h2⟩ := rep n eU h (by unfold eU; omega)
  have e : dy n = r := by
    unfold dy
    rw [← Rn_exact r h1, h2, Nat.mul_assoc, ← Nat.pow_add, eD_sum]
  rw [e]
  exact ⟨h1, h2⟩
theorem dy_mono {n m : Nat} (h : n ≤ m) : dy n ≤ dy m := Rn_mono (Nat.mul_le_mul_right _ h)
theorem dy_of {x n : Nat} (hx : x < infR) (h : units x = n * DU) : x = dy n := by
  unfold dy
  rw [← Rn_exact x hx, h]
  unfold DU
  rw [Nat.mul_assoc, ← Nat.pow_add, eD_sum]

theorem int_dy (k : Nat) (h : k < 2 ^ 20) : qw (4 * k) = dy (8192 * k) := by
  have hf := qw_fin (n := 4 * k) (by omega)
  have hu := units_qw (n := 4 * k) (by omega)
  rw [mg_small hf.2.2.2] at hu
  refine dy_of hf.2.2.2 ?_
  rw [hu]
  unfold UQ DU
  rw [qe_sum, Nat.pow_add, ← Nat.mul_assoc]
  congr 1; omega

theorem pow3 (a b c : Nat) : 2 ^ (a + b + c) = 2 ^ a * (2 ^ b * 2 ^ c) := by rw [Nat.pow_add, Nat.pow_add, Nat.mul_assoc]
theorem shuf8 (k j A B C : Nat) : C * j * A * k * B = k * j * (C * (A * B)) := by
  simp only [Nat.mul_comm, Nat.mul_left_comm]
theorem kth_dy {k j : Nat} (h : 8 * j < 2 ^ 53) : kth k (dy (8 * j)) = dy (k * j) := by
  unfold kth
  rw [(dy_fin h).2]
  unfold dy DU
  rw [shuf8, show (8 : Nat) = 2 ^ 3 from rfl, ← pow3, eD_kth]
theorem plusF_dy {a b : Nat} (ha : a < 2 ^ 53) (hb : b < 2 ^ 53) : plusF (dy a) (dy b) = dy (a + b) := by
  unfold plusF
  rw [(dy_fin ha).2, (dy_fin hb).2, ← Nat.add_mul]
  unfold dy DU
  rw [Nat.mul_assoc, ← Nat.pow_add, eD_sum]
theorem offF_dy {a b : Nat} (ha : a < 2 ^ 53) (hb : b < 2 ^ 53) : offF (dy a) (dy b) = dy (a - b) := by
  unfold offF
  rw [(dy_fin ha).2, (dy_fin hb).2, ← Nat.sub_mul]
  unfold dy DU
  rw [Nat.mul_assoc, ← Nat.pow_add, eD_sum]

/-- One sample more: the mean stays between. -/
theorem mean_between {M S L H : Nat} (hH : H < 2 ^ 20) (hL : L ≤ H) (h1 : dy (8 * (1023 * L)) ≤ M) (h2 : M ≤ dy (8 * (1025 * H))) (s1 : L ≤ S) (s2 : S ≤ H) :
    dy (8 * (1023 * L)) ≤ plusF (kth 7 M) (kth 1 (dy (8192 * S))) ∧ plusF (kth 7 M) (kth 1 (dy (8192 * S))) ≤ dy (8 * (1025 * H)) := by
  have hs : dy (8192 * S) = dy (8 * (1024 * S)) := by rw [show 8192 * S = 8 * (1024 * S) by omega]
  rw [hs, kth_dy (by omega), Nat.one_mul]
  constructor
  · have a := kth_mono 7 h1
    rw [kth_dy (by omega)] at a
    have b := plusF_mono a (dy_mono (show 1024 * L ≤ 1024 * S by omega))
    rw [plusF_dy (by omega) (by omega)] at b
    exact Nat.le_trans (dy_mono (by omega)) b
  · have a := kth_mono 7 h2
    rw [kth_dy (by omega)] at a
    have b := plusF_mono a (dy_mono (show 1024 * S ≤ 1024 * H by omega))
    rw [plusF_dy (by omega) (by omega)] at b
    exact Nat.le_trans b (dy_mono (by omega))
theorem widen {M L H L' H' : Nat} (hL : L' ≤ L) (hH : H ≤ H') (h1 : dy (8 * (1023 * L)) ≤ M) (h2 : M ≤ dy (8 * (1025 * H))) : dy (8 * (1023 * L')) ≤ M ∧ M ≤ dy (8 * (1025 * H')) :=
  ⟨Nat.le_trans (dy_mono (by omega)) h1, Nat.le_trans h2 (dy_mono (by omega))⟩

/-- A thousandth part. -/
theorem div_1000 {x : Nat} (hx : x < infR) : ∃ q, double.div x 4652007308841189376 = some q ∧ Rn (units x * 2 ^ 116) ≤ q ∧ q ≤ Rn (units x * 2 ^ 117) := by
  have hr : double.read 4652007308841189376 = .number false 8796093022208000 (-43) := by decide +kernel
  unfold Format.div
  rw [hr, read_pos hx]
  have hl : (sig x).log2 ≤ 52 := by
    by_cases hs : sig x = 0
    · rw [hs]; simp
    · have := log2_lt hs (sig_lt x); omega
  have h52 : (8796093022208000 : Nat).log2 = 52 := by decide +kernel
  unfold Datum.quotient
  simp only [Option.map_some, h52, show double.fractionBits = 52 from rfl, show ((8796093022208000 : Nat) = 0) = False by simp, if_false]
  obtain ⟨j, hj⟩ : ∃ j, 52 + 2 + 52 - (sig x).log2 = 54 + j := ⟨52 - (sig x).log2, by omega⟩
  have hj2 : j ≤ 52 := by omega
  rw [hj, shl]
  have e0 : sig x * 2 ^ (54 + j) = (sig x * 2 ^ j) * 18014398509481984 := by
    rw [Nat.pow_add, Nat.mul_comm (2 ^ 54), Nat.mul_assoc]
  rw [e0]
  generalize hk : sig x * 2 ^ j = k
  obtain ⟨q, hq⟩ : ∃ q, k * 18014398509481984 / 8796093022208000 = q := ⟨_, rfl⟩
  obtain ⟨t, ht⟩ : ∃ t, (k * 18014398509481984 % 8796093022208000 != 0).toNat = t := ⟨_, rfl⟩
  have ht1 : t ≤ 1 ∧ (k = 0 → t = 0) := by
    subst ht
    constructor
    · cases (k * 18014398509481984 % 8796093022208000 != 0) <;> simp
    · intro h; subst h; simp
  rw [hq, ht]
  show ∃ r, some (double.nearest (false ^^ false) (2 * q + t) _) = some r ∧ _
  rw [show (false ^^ false) = false from rfl, nearest_Rn false _ _ (by omega), word_pos]
  refine ⟨_, rfl, ?_⟩
  obtain ⟨e, he⟩ : ∃ e, (-1074 + (ex x : Int) - -43 - ((54 + j : Nat) : Int) - 1 + 1200).toNat = e := ⟨_, rfl⟩
  have he2 : e + j = ex x + 114 := by omega
  rw [he]
  have hdm : k * 18014398509481984 = 8796093022208000 * q + k * 18014398509481984 % 8796093022208000 := by rw [← hq]; exact (Nat.div_add_mod _ _).symm
  have hlt : k * 18014398509481984 % 8796093022208000 < 8796093022208000 := Nat.mod_lt _ (by omega)
  -- value by value: units x * 2 ^ (116 + j) = k * 4 * 2 ^ e
  have hv : units x * 2 ^ 114 = k * 2 ^ e := by
    refine Nat.eq_of_mul_eq_mul_right (Nat.two_pow_pos j) ?_
    rw [Nat.mul_assoc, Nat.mul_assoc, ← Nat.pow_add, ← Nat.pow_add, he2, units_eq, ← hk, Nat.mul_assoc, Nat.mul_assoc, ← Nat.pow_add, ← Nat.pow_add]
    congr 2; omega
  have hv6 : units x * 2 ^ 116 = (4 * k) * 2 ^ e := by
    rw [show (116 : Nat) = 114 + 2 from rfl, Nat.pow_add, ← Nat.mul_assoc, hv]
    simp only [Nat.mul_comm, Nat.mul_left_comm, Nat.mul_assoc, Nat.reducePow]
  have hv7 : units x * 2 ^ 117 = (8 * k) * 2 ^ e := by
    rw [show (117 : Nat) = 114 + 3 from rfl, Nat.pow_add, ← Nat.mul_assoc, hv]
    simp only [Nat.mul_comm, Nat.mul_left_comm, Nat.mul_assoc, Nat.reducePow]
  rw [hv6, hv7]
  generalize k * 18014398509481984 % 8796093022208000 = rr at *
  exact ⟨Rn_mono (Nat.mul_le_mul_right _ (by omega)), Rn_mono (Nat.mul_le_mul_right _ (by omega))⟩

theorem high_1000 {H : Nat} (h : H < 2 ^ 20) : ∃ q, double.div (dy (8192 * H)) 4652007308841189376 = some q ∧ dy (8 * H) ≤ q ∧ q < infR := by
  obtain ⟨a, b⟩ := dy_fin (n := 8192 * H) (by omega)
  obtain ⟨q, h1, h2, h3⟩ := div_1000 a
  refine ⟨q, h1, ?_, ?_⟩
  · have e : dy (8 * H) = Rn (units (dy (8192 * H)) * 2 ^ 116) := by
      rw [b]
      unfold dy DU
      rw [show 8192 * H = 2 ^ 10 * (8 * H) by omega, show 2 ^ 10 * (8 * H) * 2 ^ eU * 2 ^ 116 = 2 ^ 10 * (8 * H) * 2 ^ eU * 1 * 2 ^ 116 by rw [Nat.mul_one], shuf8, Nat.one_mul, ← pow3, eD_thou]
    rw [e]; exact h2
  · have : Rn (units (dy (8192 * H)) * 2 ^ 117) ≤ dy (8192 * H) := Rn_le_of a (Nat.mul_le_mul_left _ (Nat.pow_le_pow_right (by omega) (by omega)))
    omega

attribute [local irreducible] dy DU
theorem sub_either {x y : Nat} (hx : x < infR) (hy : y < infR) : ∃ d, double.sub x y = some d ∧ ((y ≤ x ∧ d = offF x y) ∨ (x < y ∧ d = double.word true (offF y x))) := by
  obtain ⟨sa, sb⟩ := sub_any hx hy
  by_cases h : y ≤ x
  · exact ⟨_, sa h, .inl ⟨h, rfl⟩⟩
  · exact ⟨_, sb (Nat.lt_of_not_le h), .inr ⟨Nat.lt_of_not_le h, rfl⟩⟩

theorem below_neg {M r : Nat} (hM : M < infR) (hr : r ≤ infR) : (FloatKind.f64.format.order M (double.word true r) == some .gt || FloatKind.f64.format.order M (double.word true r) == some .eq) = true := by
  have hn : nanB (double.word true r) = false := nan_of_le (by rw [mg_word_true hr]; exact hr)
  have hk : ik (double.word true r) = -(r : Int) := by unfold ik; rw [ng_word_true hr, mg_word_true hr]; rfl
  have hnM : nanB M = false := nan_of_le (by rw [mg_small hM]; omega)
  rw [od_num hnM hn, hk, ik_pos (Nat.le_of_lt hM), Bool.or_eq_true, beq_iff_eq, beq_iff_eq, Option.some.injEq, Option.some.injEq, Int.compare_eq_gt, Int.compare_eq_eq]
  omega

/-- What is asked in the end. -/
theorem between_end {M L H : Nat} (hH : H < 2 ^ 20) (hL : L ≤ H) (hM : M < infR) (h1 : dy (8 * (1023 * L)) ≤ M) (h2 : M ≤ dy (8 * (1025 * H))) :
    ∃ q d s, double.div (dy (8192 * H)) 4652007308841189376 = some q ∧ double.sub (dy (8192 * L)) q = some d ∧ double.add (dy (8192 * H)) q = some s ∧
      (FloatKind.f64.format.order M d == some .gt || FloatKind.f64.format.order M d == some .eq) = true ∧ (FloatKind.f64.format.order M s == some .lt || FloatKind.f64.format.order M s == some .eq) = true := by
  obtain ⟨q, hq, q1, q2⟩ := high_1000 hH
  obtain ⟨a, _⟩ := dy_fin (n := 8192 * L) (by omega)
  obtain ⟨b, _⟩ := dy_fin (n := 8192 * H) (by omega)
  obtain ⟨d, hd, hcase⟩ := sub_either a q2
  refine ⟨q, d, _, hq, hd, add_fin b q2, ?_, ?_⟩
  · rcases hcase with ⟨h, rfl⟩ | ⟨h, rfl⟩
    · rw [ge_pos (Nat.le_of_lt hM) (offF_le_inf _ _), decide_eq_true_eq]
      have hu : offF (dy (8192 * L)) q ≤ offF (dy (8192 * L)) (dy (8 * H)) := Rn_mono (Nat.mul_le_mul_right _ (Nat.sub_le_sub_left (units_le q1) _))
      rw [offF_dy (by omega) (by omega)] at hu
      exact Nat.le_trans (Nat.le_trans hu (dy_mono (by omega))) h1
    · exact below_neg hM (offF_le_inf _ _)
  · rw [le_pos (Nat.le_of_lt hM) (plusF_le_inf _ _), decide_eq_true_eq]
    have hu := plusF_mono (Nat.le_refl (dy (8192 * H))) q1
    rw [plusF_dy (by omega) (by omega)] at hu
    exact Nat.le_trans h2 (Nat.le_trans (dy_mono (by omega)) hu)
end Go.Fq
