/- Bits of numbers of 64 bits: groups of 7, bytes. -/
import Derived.Test.YtbepipnnhkaemaaDoorWqM
import Derived.Lib.EndianBits
import Derived.Lib.QuoteBits
namespace Go.Wq
open Go.Lib

theorem and127 (n : Nat) (h : n < 18446744073709551616) : bits BinOp.and IntKind.u64 (n : Int) 127 = ((n % 128 : Nat) : Int) := by
  have e := bits_and_u64_nat n 127 h (by omega)
  have : n &&& 127 = n % 128 := Nat.and_two_pow_sub_one_eq_mod n 7
  rw [this] at e
  exact e
theorem or128 (m : Nat) (h : m < 128) : bits BinOp.or IntKind.u64 (m : Int) 128 = ((m + 128 : Nat) : Int) := by
  have := bits_join_low .u64 64 (by decide) wraps_u64 7 (m : Int) 128 (by omega) (by omega) (by omega) (by omega) (by decide) (by omega)
  rw [this]; omega
theorem group7 (n : Nat) (h : n < 18446744073709551616) : bits BinOp.or IntKind.u64 (bits BinOp.and IntKind.u64 (n : Int) 127) 128 % 256 = ((UInt8.ofNat (n % 128 + 128)).toNat : Int) := by
  rw [and127 n h, or128 _ (Nat.mod_lt _ (by omega)), toNat_ofNat (by omega)]
  omega
theorem last7 (n : Nat) (h : n < 128) : (n : Int) % 256 = ((UInt8.ofNat n).toNat : Int) := by
  rw [toNat_ofNat (by omega)]; omega
theorem vint_ten (n : Nat) (h : n < 18446744073709551616) : (vint n).length ≤ 10 := vint_len 10 n (Nat.lt_of_lt_of_le h (by decide)) (by omega)
theorem xor_max (y : Nat) (h : y < 2 ^ 64) : 18446744073709551615 ^^^ y = 18446744073709551615 - y := by
  apply Nat.eq_of_testBit_eq
  intro j
  rw [Nat.testBit_xor, show 18446744073709551615 - y = 2 ^ 64 - (y + 1) by omega, Nat.testBit_two_pow_sub_succ h, show (18446744073709551615 : Nat) = 2 ^ 64 - 1 from rfl, Nat.testBit_two_pow_sub_one]
  by_cases hj : j < 64
  · simp [hj]
  · have : y.testBit j = false := Nat.testBit_lt_two_pow (Nat.lt_of_lt_of_le h (Nat.pow_le_pow_right (by omega) (by omega)))
    simp [hj, this]
theorem zig_pos (i : Int) (h0 : ¬ i < 0) (h1 : i ≤ 9223372036854775807) : IntKind.u64.wrap (IntKind.u64.wrap i * 2) = ((zig i : Nat) : Int) := by
  rw [Go.IntKind.wrap_u64, Go.IntKind.wrap_u64]
  unfold zig
  rw [if_neg h0]
  omega
theorem zig_neg (i : Int) (h0 : i < 0) (h1 : -9223372036854775808 ≤ i) : bits BinOp.xor IntKind.u64 IntKind.u64.max (IntKind.u64.wrap (IntKind.u64.wrap i * 2)) = ((zig i : Nat) : Int) := by
  have hw : IntKind.u64.wrap (IntKind.u64.wrap i * 2) = ((18446744073709551616 + 2 * i).toNat : Int) := by
    rw [Go.IntKind.wrap_u64, Go.IntKind.wrap_u64]; omega
  have hm : IntKind.u64.max = ((18446744073709551615 : Nat) : Int) := rfl
  rw [hw, hm, bits_xor_u64_nat _ _ (by omega) (by omega), xor_max _ (by omega)]
  unfold zig
  rw [if_pos h0]
  omega
theorem bytes8_take (f j : Nat) (h : j < 8) : (bytesOf 8 f).take (j + 1) = (bytesOf 8 f).take j ++ [UInt8.ofNat (f / 2 ^ (56 - 8 * j) % 256)] := by
  have : j = 0 ∨ j = 1 ∨ j = 2 ∨ j = 3 ∨ j = 4 ∨ j = 5 ∨ j = 6 ∨ j = 7 := by omega
  rcases this with rfl | rfl | rfl | rfl | rfl | rfl | rfl | rfl <;> rfl
theorem byte_shift (f j : Nat) : (f : Int) / 2 ^ (56 - 8 * j) % 256 = ((UInt8.ofNat (f / 2 ^ (56 - 8 * j) % 256)).toNat : Int) := by
  rw [toNat_ofNat (Nat.mod_lt _ (by omega))]
  simp
theorem loop_len (bs : ByteArray) : ∀ (k i : Nat) (r : List UInt8), bs.size - i = k → (ByteArray.toList.loop bs i r).length = r.length + k := by
  intro k
  induction k with
  | zero => intro i r h; rw [ByteArray.toList.loop]; rw [if_neg (by omega)]; simp
  | succ k ih => intro i r h; rw [ByteArray.toList.loop]; rw [if_pos (by omega), ih (i + 1) _ (by omega)]; simp; omega
theorem toList_nil (t : ByteArray) : t.toList = [] ↔ t.size = 0 := by
  have := loop_len t t.size 0 [] (by omega)
  rw [← List.length_eq_zero_iff]
  show (ByteArray.toList.loop t 0 []).length = 0 ↔ _
  rw [this]; simp
end Go.Wq
