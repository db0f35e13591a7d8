import Derived.Test.YtloaajoeciajaaaDoorFqP
namespace Go.Fq
open Ieee

/-- A quotient whose value a rung has: x / y = r, said without dividing. -/
theorem div_exact (x y r : Nat) (hx : mg x < infR) (hy : mg y < infR) (nx : ng x = false) (ny : ng y = false) (hr : r < infR) (hy0 : sig (mg y) ≠ 0) (hx0 : sig (mg x) ≠ 0)
    (h : units (mg x) * UI = units (mg y) * units r) : double.div x y = some r := by
  have hr0 : sig r ≠ 0 := by
    intro h0
    have : units r = 0 := by rw [units_eq, h0, Nat.zero_mul]
    rw [this, Nat.mul_zero, units_eq] at h
    have p1 := Nat.two_pow_pos (ex (mg x))
    have p2 := UI_pos
    rcases Nat.mul_eq_zero.1 h with g | g
    · rcases Nat.mul_eq_zero.1 g with g | g <;> omega
    · omega
  have lx := log2_lt hx0 (sig_lt (mg x))
  have ly := log2_lt hy0 (sig_lt (mg y))
  have lr := log2_lt hr0 (sig_lt r)
  -- the equation as significands and powers
  have he : sig (mg x) * 2 ^ (ex (mg x) + (2 + qe)) = sig (mg y) * sig r * 2 ^ (ex (mg y) + ex r) := by
    have hU : UI = 2 ^ (2 + qe) := by unfold UI; rw [show (1074 : Nat) = 2 + qe from rfl]
    rw [units_eq, units_eq, units_eq, hU, Nat.mul_assoc, ← Nat.pow_add] at h
    rw [h, Nat.pow_add]
    simp only [Nat.mul_comm, Nat.mul_left_comm, Nat.mul_assoc]
  -- how long both sides are
  have hlo : (sig (mg x)).log2 + (ex (mg x) + (2 + qe)) ≤ (sig (mg y)).log2 + (sig r).log2 + 1 + (ex (mg y) + ex r) := by
    have e1 := log2_shift (sig (mg x)) (ex (mg x) + (2 + qe)) hx0
    have hyr : sig (mg y) * sig r ≠ 0 := Nat.mul_ne_zero hy0 hr0
    have e2 := log2_shift (sig (mg y) * sig r) (ex (mg y) + ex r) hyr
    rw [he] at e1
    have hub : sig (mg y) * sig r < 2 ^ ((sig (mg y)).log2 + 1 + ((sig r).log2 + 1)) := by
      rw [Nat.pow_add]
      exact Nat.mul_lt_mul_of_lt_of_lt ((log2_iff hy0).1 rfl).2 ((log2_iff hr0).1 rfl).2
    have := log2_lt hyr hub
    omega
  unfold Format.div
  rw [read_fin x hx, read_fin y hy, nx, ny]
  unfold Datum.quotient
  simp only [Option.map_some, show double.fractionBits = 52 from rfl, hy0, if_false]
  generalize hmore : 52 + 2 + (sig (mg y)).log2 - (sig (mg x)).log2 = more
  have hm2 : more + (sig (mg x)).log2 = 54 + (sig (mg y)).log2 := by omega
  -- the dividend is a multiple of the divisor
  obtain ⟨u, hu⟩ : ∃ u, ex (mg y) + ex r + more = ex (mg x) + (2 + qe) + u := ⟨ex (mg y) + ex r + more - (ex (mg x) + (2 + qe)), by omega⟩
  have hdiv : sig (mg x) <<< more = sig r * 2 ^ u * sig (mg y) := by
    rw [shl]
    have hp := Nat.two_pow_pos (ex (mg x) + (2 + qe))
    refine Nat.eq_of_mul_eq_mul_right hp ?_
    have e1 : sig (mg x) * 2 ^ more * 2 ^ (ex (mg x) + (2 + qe)) = sig (mg x) * 2 ^ (ex (mg x) + (2 + qe)) * 2 ^ more := by
      rw [Nat.mul_assoc, Nat.mul_comm (2 ^ more), ← Nat.mul_assoc]
    have e2 : sig r * 2 ^ u * sig (mg y) * 2 ^ (ex (mg x) + (2 + qe)) = sig (mg y) * sig r * 2 ^ (ex (mg x) + (2 + qe) + u) := by
      rw [Nat.pow_add 2 (ex (mg x) + (2 + qe)) u]
      simp only [Nat.mul_comm, Nat.mul_left_comm, Nat.mul_assoc]
    rw [e1, he, e2, Nat.mul_assoc, ← Nat.pow_add, hu]
  rw [hdiv, Nat.mul_div_cancel _ (by omega), Nat.mul_mod_left]
  show some (double.nearest (false ^^ false) (2 * (sig r * 2 ^ u) + 0) _) = some r
  rw [show (false ^^ false) = false from rfl, Nat.add_zero]
  have hu2 : u ≤ 5000 := by
    have a := ex_le _ hy
    have b := ex_le _ hr
    unfold qe at hu
    omega
  have hxe := ex_le _ hx
  rw [nearest_exact false _ _ r 8000 hr (by unfold qe at hu; omega) (by omega) ?_]
  · exact congrArg some (word_pos r)
  · generalize hp : (-1074 + (ex (mg x) : Int) - (-1074 + (ex (mg y) : Int)) - (more : Int) - 1 + ((8000 : Nat) : Int)).toNat = p
    generalize hkk : (8000 - 1074 : Nat) = kk
    have e : 1 + u + p = ex r + kk := by unfold qe at hu; omega
    rw [units_eq, Nat.mul_assoc (sig r), ← Nat.pow_add, ← e, Nat.pow_add, Nat.pow_add]
    simp only [Nat.mul_comm, Nat.mul_left_comm, Nat.mul_assoc, Nat.pow_one]

theorem TEN_qw : (4621819117588971520 : Nat) = qw 40 := by decide +kernel
theorem HUND_qw : (4636737291354636288 : Nat) = qw 400 := by decide +kernel

theorem sig_qw (n : Nat) (h : n < 2 ^ 53) (h0 : n ≠ 0) : sig (mg (qw n)) ≠ 0 := by
  intro hs
  have u := units_qw h
  rw [units_eq, hs, Nat.zero_mul] at u
  have := UQ_pos
  rcases Nat.mul_eq_zero.1 u.symm with g | g <;> omega

/-- A whole number through ten, or a hundred, that comes out in quarters. -/
theorem div_qw (m t n : Nat) (hm : 4 * m < 2 ^ 53) (ht : 4 * t < 2 ^ 53) (hm0 : m ≠ 0) (ht0 : t ≠ 0) (hn : n < 2 ^ 53) (h : 4 * m = t * n) : double.div (qw (4 * m)) (qw (4 * t)) = some (qw n) := by
  have a := qw_fin hm
  have b := qw_fin ht
  have c := qw_fin hn
  refine div_exact _ _ _ a.1 b.1 a.2.1 b.2.1 c.2.2.2 (sig_qw _ ht (by omega)) (sig_qw _ hm (by omega)) ?_
  have u := units_qw hn
  rw [mg_small c.2.2.2] at u
  rw [units_qw hm, units_qw ht, u, UI_eq, h]
  simp only [Nat.mul_comm, Nat.mul_left_comm, Nat.mul_assoc]

/-- The text's number through its power of ten is the float. -/
theorem mant_zero (q : Nat) : (expQ q = 0 ∧ q % 4 = 0 ∧ mantQ q = q / 4) ∨ (expQ q = -1 ∧ q % 4 = 2 ∧ mantQ q = 10 * (q / 4) + 5) ∨ (expQ q = -2 ∧ 4 * mantQ q = 100 * q ∧ mantQ q ≠ 0) := by
  unfold expQ mantQ
  have : q % 4 = 0 ∨ q % 4 = 1 ∨ q % 4 = 2 ∨ q % 4 = 3 := by omega
  rcases this with h | h | h | h <;> simp [h] <;> omega
end Go.Fq
