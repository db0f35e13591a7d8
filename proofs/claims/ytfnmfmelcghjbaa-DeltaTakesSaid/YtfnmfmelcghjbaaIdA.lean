/- Package ident's and the document's own small functions: Mix, Sum, letters, CheckId, CheckName. -/
import Derived.Test.YtfnmfmelcghjbaaProg
import Derived.WalkKit
import Derived.ProofKit
import Derived.Lib.Hide
import Derived.LoopTactic
import Derived.Outline
import Derived.IntWalk
import Derived.BigQuiet
import Derived.Deep.QuietTactic
import Derived.Test.YtfnmfmelcghjbaaFqA
namespace Go.Proofs.Ytfnmfmelcghjbaa
open Go.RowKit Go.Lib Go.Iq
set_option linter.unusedVariables false

theorem ret_ik {k : IntKind} {a b : Int} (h : a = b) : Ending.returned (.int k a) = .returned (.int k b) := by rw [h]

theorem isLetter_any (c : Int) (w : World) : Calls Try.prog 104 #[.int .u8 c] w fun e w' => e = .returned (.bool (letB c)) ∧ w = w' := by
  by_cases h : 97 ≤ c <;> by_cases g : c ≤ 122 <;>
  · go_enter Try.func104, Try.ntmps104
    go_wp2
    go_ret
    exact ⟨by simp [letB, h, g], rfl⟩
theorem isDigit_any (c : Int) (w : World) : Calls Try.prog 105 #[.int .u8 c] w fun e w' => e = .returned (.bool (digB c)) ∧ w = w' := by
  by_cases h : 48 ≤ c <;> by_cases g : c ≤ 57 <;>
  · go_enter Try.func105, Try.ntmps105
    go_wp2
    go_ret
    exact ⟨by simp [digB, h, g], rfl⟩
theorem checkId_any (n : Int) (w : World) : Calls Try.prog 93 #[.int .i64 n] w fun e w' => e = .returned (.int .i64 (idE n)) ∧ w = w' := by
  by_cases h : 1 ≤ n <;> by_cases g : n ≤ 2147483647 <;>
  · go_enter Try.func93, Try.ntmps93
    go_wp2
    go_ret
    exact ⟨by simp [idE, idB, h, g], rfl⟩
theorem refcheckId_any (n : Int) (w : World) : Calls Try.prog 73 #[.int .i64 n] w fun e w' => e = .returned (.int .i64 (idE n)) ∧ w = w' := by
  by_cases h : 1 ≤ n <;> by_cases g : n ≤ 2147483647 <;>
  · go_enter Try.func73, Try.ntmps73
    go_wp2
    go_ret
    exact ⟨by simp [idE, idB, h, g], rfl⟩

theorem getD_eq (s : ByteArray) (k : Nat) (h : k < s.size) : s.data.toList.getD k 0 = s[k] := getD_size s k h

set_option maxHeartbeats 1000000 in
theorem checkName_any (s : ByteArray) (w : World) (hs : s.size ≤ 9223372036854775807) : Calls Try.prog 99 #[.string s] w fun e w' => e = .returned (.int .i64 (nameE s.data.toList)) ∧ w = w' := by
  by_cases hl : s.size = 0
  · have hn := Lib.hid (nameE_no (name_len s (.inl (by omega))))
    go_enter Try.func99, Try.ntmps99
    go_wp2
    go_ret
    exact ⟨ret_ik (by rw [hn.out]), rfl⟩
  · have hp : 0 < s.size := by omega
    by_cases hg : 32 < s.size
    · have hn := Lib.hid (nameE_no (name_len s (.inr hg)))
      go_enter Try.func99, Try.ntmps99
      go_wp2
      go_ret
      exact ⟨ret_ik (by rw [hn.out]), rfl⟩
    · go_enter Try.func99, Try.ntmps99
      go_wp2
      go_loop [14] (fun i => ∃ k : Nat, k ≤ s.size ∧ i = .int .i64 k ∧ (s.data.toList.take k).all (fun c => okB (c.toNat : Int)) = true) (fun i => s.size - (intOf i).toNat)
      case atStart => exact ⟨0, Nat.zero_le _, rfl, rfl⟩
      case round =>
        obtain ⟨k, hk, rfl, hr⟩ := hrel
        have HR := Lib.hid hr; clear hr
        by_cases hlt : k < s.size
        · have HA := Lib.hid (all_take s k hlt)
          have HB := Lib.hid (all_bad s k hlt)
          go_wp2_with (first | (go_at_call 104; refine (isLetter_any _ _).mono ?_; rintro e w' ⟨rfl, rfl⟩) | (go_at_call 105; refine (isDigit_any _ _).mono ?_; rintro e w' ⟨rfl, rfl⟩))
          · have ho := okB_let (by assumption)
            exact ⟨⟨k + 1, by omega, by go_num, by rw [HA.out, HR.out, ho]; rfl⟩, by simp [intOf]; omega⟩
          · have ho := okB_dig (by assumption)
            exact ⟨⟨k + 1, by omega, by go_num, by rw [HA.out, HR.out, ho]; rfl⟩, by simp [intOf]; omega⟩
          · have ho := okB_no (by assumption) (by assumption) (by assumption)
            go_ret
            exact ⟨ret_ik (nameE_no (HB.out ho)).symm, rfl⟩
          · have ho := okB_dash (by assumption)
            exact ⟨⟨k + 1, by omega, by go_num, by rw [HA.out, HR.out, ho]; rfl⟩, by simp [intOf]; omega⟩
        · obtain rfl : k = s.size := by omega
          have HA := Lib.hid (name_ends s hp (by omega))
          have HR' : Hid (s.data.toList.all (fun c => okB (c.toNat : Int)) = true) := Lib.hid (by have := HR.out; rwa [List.take_of_length_le (by simp)] at this)
          go_wp2_with (first | (go_at_call 104; refine (isLetter_any _ _).mono ?_; rintro e w' ⟨rfl, rfl⟩))
          · go_ret
            exact ⟨ret_ik (nameE_no (by rw [HA.out, HR'.out, ‹letB _ = true›, ends_yes ‹_›]; rfl)).symm, rfl⟩
          · go_ret
            exact ⟨ret_ik (nameE_yes (by rw [HA.out, HR'.out, ‹letB _ = true›, ends_no ‹_›]; rfl)).symm, rfl⟩
          · go_ret
            exact ⟨ret_ik (nameE_no (by rw [HA.out, HR'.out, Bool.eq_false_iff.2 ‹¬ letB _ = true›]; rfl)).symm, rfl⟩

end Go.Proofs.Ytfnmfmelcghjbaa
