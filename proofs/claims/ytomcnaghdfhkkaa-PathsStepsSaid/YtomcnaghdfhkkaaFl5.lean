/- The place of the first least one: the program's walk and the document's own. -/
import Derived.Test.YtomcnaghdfhkkaaFl1
import Derived.Test.YtomcnaghdfhkkaaFqL
import Derived.LoopTactic
import Derived.BigQuiet
import Derived.Deep.QuietTactic
namespace Go.Proofs.Ytomcnaghdfhkkaa
open Go.Fq Go.RowKit

/-- A row of floats that lies in memory. -/
def FRow (w : World) (a : Option Addr) (len : Nat) (zs : List Nat) : Prop :=
  len = zs.length ∧ (0 < len → ∃ b off, a = some ⟨b, off, none⟩ ∧ ∀ i, i < len → w.cell? ⟨b, off + i, none⟩ = some (.float .f64 (zs.getD i 0)))

set_option maxHeartbeats 400000 in
theorem least_row (b off len cap : Nat) (zs : List Nat) (w : World) (hm : len ≤ 9223372036854775807) (hc : ∀ i, i < len → w.cell? ⟨b, off + i, none⟩ = some (.float .f64 (zs.getD i 0))) :
    Calls Try.prog 64 #[.slice (some ⟨b, off, none⟩) len cap] w fun e w' => e = .returned (.int .i64 (leastTo zs len)) ∧ w = w' := by
  have HC := Lib.hid hc; clear hc
  go_enter Try.func64, Try.ntmps64
  go_wp2
  go_loop [3, 8] (fun m i => ∃ k : Nat, k ≤ len ∧ i = .int .i64 k ∧ m = .int .i64 (leastTo zs k)) (fun _ i => len - (intOf i).toNat)
  case atStart => exact ⟨0, Nat.zero_le _, rfl, rfl⟩
  case round =>
    obtain ⟨k, hk, rfl, rfl⟩ := hrel
    by_cases hlt : k < len
    · have hck := HC.out k hlt
      have hb := leastTo_bd zs k
      by_cases hneg : leastTo zs k < 0
      · have HN := Lib.hid (leastTo_first zs k hneg)
        obtain ⟨m, hm'⟩ : ∃ m, leastTo zs k = m := ⟨_, rfl⟩
        rw [hm'] at hneg hb ⊢
        clear hm' hb
        obtain ⟨z, hz⟩ : ∃ z, zs.getD k 0 = z := ⟨_, rfl⟩
        rw [hz] at hck
        clear hz
        go_wp2_with (go_at_call 83; refine (compare_any _ _ _).mono ?_; rintro e w' ⟨rfl, rfl⟩)
        go_round
        case rel => exact ⟨k + 1, by omega, by go_num, by rw [HN.out]⟩
        case measure => simp [intOf]; omega
      · obtain ⟨M, hM⟩ := Int.eq_ofNat_of_zero_le (Int.not_lt.1 hneg)
        have hMk : M < k := by omega
        have hcM := HC.out M (by omega)
        have H1 := Lib.hid (leastTo_less zs k M hM)
        have H2 := Lib.hid (leastTo_keep zs k M hM)
        rw [hM]
        clear hb hneg
        have HM := Lib.hid hM; clear hM
        obtain ⟨z, hz⟩ : ∃ z, zs.getD k 0 = z := ⟨_, rfl⟩
        obtain ⟨y, hy⟩ : ∃ y, zs.getD M 0 = y := ⟨_, rfl⟩
        rw [hz] at hck
        rw [hy] at hcM
        have HZ := Lib.hid hz; clear hz
        have HY := Lib.hid hy; clear hy
        by_cases hcmp : cmpF z y < 0
        · have HN : Hid (leastTo zs (k + 1) = k) := Lib.hid (H1.out (by rw [HZ.out, HY.out]; exact hcmp))
          go_wp2_with (go_at_call 83; refine (compare_any _ _ _).mono ?_; rintro e w' ⟨rfl, rfl⟩)
          go_round
          case rel => exact ⟨k + 1, by omega, by go_num, by rw [HN.out]⟩
          case measure => simp [intOf]; omega
        · have HN : Hid (leastTo zs (k + 1) = M) := Lib.hid (H2.out (by rw [HZ.out, HY.out]; exact hcmp))
          go_wp2_with (go_at_call 83; refine (compare_any _ _ _).mono ?_; rintro e w' ⟨rfl, rfl⟩)
          go_round
          case rel => exact ⟨k + 1, by omega, by go_num, by rw [HN.out]⟩
          case measure => simp [intOf]; omega
    · have hke : k = len := by omega
      subst hke
      go_wp2
      go_ret
      exact ⟨rfl, rfl⟩

end Go.Proofs.Ytomcnaghdfhkkaa
