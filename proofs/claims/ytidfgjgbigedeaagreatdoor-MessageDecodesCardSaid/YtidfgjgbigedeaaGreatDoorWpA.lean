/- The program's varints, and its checks. -/
import Derived.Test.YtidfgjgbigedeaaGreatDoorWrA
import Derived.Test.YtidfgjgbigedeaaGreatDoorWqAll
namespace Go.Proofs.YtidfgjgbigedeaaGreatDoor
open Go.RowKit Go.Lib Go.Wq
set_option linter.unusedVariables false
set_option linter.unusedSimpArgs false
set_option maxRecDepth 100000

theorem hnot (x : Bool) (w : World) : (Op.unary .not (.bool x)).run Tryz.prog w = .ok (.bool (!x)) w := rfl
theorem check_ok (n place : Int) (w : World) : Calls Tryz.prog 84 #[.bool true, .int .i64 n, .int .i64 place] w fun e w' => e = .returned (.tuple #[]) ∧ w = w' := by
  have hnot := hnot
  go_enter Tryz.func84, Tryz.ntmps84
  go_wp2
  first | go_end0 | refine bodyPost_ret (results_none rfl _ _ _) rfl ?_
  exact ⟨rfl, rfl⟩
/-- A panic with a Fault. -/
def Dies (code place : Int) (w : World) (e : Ending) (w' : World) : Prop :=
  ∃ pb : Nat, e = .panicked [{ v := .iface 132 (.pointer (some ⟨pb, 0, none⟩)), recovered := false }] ∧ w.heap.size ≤ pb ∧ w'.cell? ⟨pb, 0, none⟩ = some (.int .i64 code) ∧ w'.cell? ⟨pb, 1, none⟩ = some (.int .i64 place)
theorem Dies.from {code place : Int} {w0 w : World} {e : Ending} {w' : World} (h : Dies code place w e w') (hs : w0.heap.size ≤ w.heap.size) : Dies code place w0 e w' := by
  obtain ⟨pb, h1, h2, h3, h4⟩ := h
  exact ⟨pb, h1, by omega, h3, h4⟩
theorem check_bad (n place : Int) (w : World) : Calls Tryz.prog 84 #[.bool false, .int .i64 n, .int .i64 place] w fun e w' => Dies n place w e w' ∧ Below w.heap.size w w' := by
  have hnot := hnot
  go_enter Tryz.func84, Tryz.ntmps84
  go_wp2
  exact ⟨rfl, ⟨_, rfl, Nat.le_refl _, by simp [go_sem], by simp [go_sem]⟩, (Below.refl _ w).alloc (Nat.le_refl _) _⟩
theorem checkShape_ok (w : World) : Calls Tryz.prog 63 #[.bool true] w fun e w' => e = .returned (.tuple #[]) ∧ w = w' := by
  go_enter Tryz.func63, Tryz.ntmps63
  go_wp2_with (go_at_call 84; refine (check_ok _ _ _).mono ?_; rintro e w3 ⟨rfl, rfl⟩)
  first | go_end0 | refine bodyPost_ret (results_none rfl _ _ _) rfl ?_
  exact ⟨rfl, rfl⟩
theorem checkShape_bad (w : World) : Calls Tryz.prog 63 #[.bool false] w fun e w' => Dies 40 0 w e w' ∧ Below w.heap.size w w' := by
  go_enter Tryz.func63, Tryz.ntmps63
  go_wp2_with fail
  refine (check_bad _ _ _).mono ?_
  rintro e w3 ⟨⟨pb, rfl, h1⟩, hb⟩
  go_wp2_with fail
  exact ⟨rfl, ⟨pb, rfl, h1⟩, hb⟩
theorem checkField_ok (w : World) : Calls Tryz.prog 65 #[.bool true] w fun e w' => e = .returned (.tuple #[]) ∧ w = w' := by
  go_enter Tryz.func65, Tryz.ntmps65
  go_wp2_with (go_at_call 84; refine (check_ok _ _ _).mono ?_; rintro e w3 ⟨rfl, rfl⟩)
  first | go_end0 | refine bodyPost_ret (results_none rfl _ _ _) rfl ?_
  exact ⟨rfl, rfl⟩
theorem checkField_bad (w : World) : Calls Tryz.prog 65 #[.bool false] w fun e w' => Dies 41 0 w e w' ∧ Below w.heap.size w w' := by
  go_enter Tryz.func65, Tryz.ntmps65
  go_wp2_with fail
  refine (check_bad _ _ _).mono ?_
  rintro e w3 ⟨⟨pb, rfl, h1⟩, hb⟩
  go_wp2_with fail
  exact ⟨rfl, ⟨pb, rfl, h1⟩, hb⟩

/-- How appending ends: with bytes that the call owns. -/
def Appended (base : Nat) (x : List UInt8) (v : Value) (w : World) (e : Ending) (w' : World) : Prop :=
  ∃ (v' : Value), e = .returned v' ∧ w'.ownsRow base 5 1 v' x.length (bcs x) ∧ Grew w w' v v'
theorem vint_ten' {n : Nat} (h : n < 18446744073709551616) : (vint n).length ≤ 10 := vint_len 10 n (by omega) (by omega)

set_option maxHeartbeats 1000000 in
theorem appendVarint_any (base : Nat) (v0 : Value) (b : List UInt8) (n0 : Nat) (h0 : n0 < 18446744073709551616) (w : World) (hown : w.ownsRow base 5 1 v0 b.length (bcs b)) (hbase : base ≤ w.heap.size) (hs : b.length ≤ 70368744177664) :
    Calls Tryz.prog 115 #[v0, .int .u64 (n0 : Int)] w fun e w' => Appended base (b ++ vint n0) v0 w e w' := by
  obtain ⟨i0, hi, hz0, hz1, hz2⟩ := info8
  have HO0 := Lib.hid hown
  clear hown
  go_enter Tryz.func115, Tryz.ntmps115
  go_wp2
  go_loopw [0, 1] (fun v m wr => ∃ (n : Nat) (pre : List UInt8), n < 18446744073709551616 ∧ m = .int .u64 (n : Int) ∧ pre.length + (vint n).length = (vint n0).length ∧ pre ++ vint n = vint n0 ∧ wr.ownsRow base 5 1 v (b ++ pre).length (bcs (b ++ pre)) ∧ Grew w wr v0 v) (fun _ m _ => (intOf m).toNat)
  case atStart => exact ⟨n0, [], h0, rfl, by simp, rfl, by simpa using HO0.out, Grew.refl _ _⟩
  case round =>
    obtain ⟨n, pre, hn, rfl, hkl, hpre, hown, hg0⟩ := hrel
    have hten := vint_ten' h0
    have hsz := hg0.g.size
    have hbl : (b ++ pre).length = b.length + pre.length := List.length_append
    by_cases hlt : 127 < n
    · have HO := Lib.hid hown
      have HG0 := Lib.hid hg0
      have hv : vint n = UInt8.ofNat (n % 128 + 128) :: vint (n / 128) := vint_big (by omega)
      have hkl2 : pre.length + ((vint (n / 128)).length + 1) = (vint n0).length := by rw [← hkl, hv]; simp
      have H63 : Hid ((b ++ pre).length + 1 ≤ maxLen) := Lib.hid (by unfold maxLen; omega)
      have H47 : Hid (((b ++ pre).length + 1) * 1 ≤ 140737488355328) := Lib.hid (by omega)
      have HPre := Lib.hid hpre
      have HV := Lib.hid hv
      have HN := Lib.hid hn
      have HKL := Lib.hid hkl2
      have ht : (128 : Int) ≤ (n : Int) := by omega
      clear hown hg0 hpre hv
      have ho8 := or8 n
      have HREL : Hid (∀ (w3 : World) (v' : Value), w3.ownsRow base 5 1 v' ((b ++ pre).length + 1) (bcs (b ++ pre) ++ bcs [UInt8.ofNat (n % 128 + 128)]) → w3.ownsRow base 5 1 v' (b ++ (pre ++ [UInt8.ofNat (n % 128 + 128)])).length (bcs (b ++ (pre ++ [UInt8.ofNat (n % 128 + 128)])))) := Lib.hid (fun w3 v' h => by
        rw [← List.append_assoc, bcs_append, List.length_append]; exact h)
      generalize (b ++ pre).length = k at *
      generalize bcs (b ++ pre) = X at *
      generalize hc : UInt8.ofNat (n % 128 + 128) = c at *
      have HCS : Hid (∀ j u, (bcs [c])[j]? = some u → (wr.alloc (.cells #[.int .u8 (c.toNat : Int)] 5)).cell? ((⟨wr.heap.size, 0, none⟩ : Addr).add j) = some u) := Lib.hid (by
        intro j u hj
        cases j with
        | zero => simp [bcs] at hj; subst hj; simp [Addr.add]
        | succ j => simp [bcs] at hj)
      go_wp2_with (at_builtin; refine wpList_append_vals _ rfl _ _ 61 rfl base 5 i0 (.int .u8 0) 1 1 Tryz.underlying61 hi hz0 hz1 hz2 rfl (by decide) _ k X rfl (HO.out.alloc _) ⟨wr.heap.size, 0, none⟩ 1 1 (bcs [c]) rfl rfl HCS.out (by intro u hu; simp [bcs] at hu; subst hu; rfl) H63.out H47.out (by simp; omega) ?_; intro v' w3 hown hg; have HO2 := Lib.hid hown; have HG := Lib.hid hg; clear hown hg)
      have hHN := HN.out
      refine ⟨⟨n / 128, pre ++ [c], by omega, by simp, by have := HKL.out; simp; omega, by rw [List.append_assoc, List.singleton_append, ← HV.out]; exact HPre.out, HREL.out _ _ HO2.out, (HG0.out.trans (Grew.alloc _ _ _)).trans HG.out⟩, ?_⟩
      simp only [intOf]
      omega
    · have HO := Lib.hid hown
      have HG0 := Lib.hid hg0
      have hn7 : n < 128 := by omega
      have hv : vint n = [UInt8.ofNat n] := vint_small hn7
      have hkl2 : pre.length + 1 = (vint n0).length := by rw [← hkl, hv]; simp
      have H63 : Hid ((b ++ pre).length + 1 ≤ maxLen) := Lib.hid (by unfold maxLen; omega)
      have H47 : Hid (((b ++ pre).length + 1) * 1 ≤ 140737488355328) := Lib.hid (by omega)
      have hl7 : bcs [UInt8.ofNat n] = [Value.int .u8 (n : Int)] := by simp [bcs, Nat.mod_eq_of_lt (show n < 256 by omega)]
      have hm7 : (n : Int) % 256 = (n : Int) := by omega
      have HCS : Hid (∀ j u, ([Value.int .u8 (n : Int)] : List Value)[j]? = some u → (wr.alloc (.cells #[.int .u8 (n : Int)] 5)).cell? ((⟨wr.heap.size, 0, none⟩ : Addr).add j) = some u) := Lib.hid (by
        intro j u hj
        cases j with
        | zero => simp at hj; subst hj; simp [Addr.add]
        | succ j => simp at hj)
      have ht : ¬ (128 : Int) ≤ (n : Int) := by omega
      have HT : Hid (∀ (w' : World) (v' : Value), w'.ownsRow base 5 1 v' ((b ++ pre).length + 1) (bcs (b ++ pre) ++ [Value.int .u8 (n : Int)]) → w'.ownsRow base 5 1 v' (b ++ vint n0).length (bcs (b ++ vint n0))) := Lib.hid (fun w' v' h => by
        rw [← hpre, hv, ← List.append_assoc, bcs_append, hl7, List.length_append]; exact h)
      clear hown hg0 hpre hv hl7
      generalize (b ++ pre).length = k at *
      generalize bcs (b ++ pre) = X at *
      go_wp2_with (at_builtin; refine wpList_append_vals _ rfl _ _ 61 rfl base 5 i0 (.int .u8 0) 1 1 Tryz.underlying61 hi hz0 hz1 hz2 rfl (by decide) _ k X rfl (HO.out.alloc _) ⟨wr.heap.size, 0, none⟩ 1 1 [.int .u8 (n : Int)] rfl rfl HCS.out (by intro u hu; simp at hu; subst hu; rfl) H63.out H47.out (by simp; omega) ?_; intro v' w3 hown hg; have HO2 := Lib.hid (HT.out _ _ hown); have HG := Lib.hid hg; clear hown hg)
      go_ret
      exact ⟨_, rfl, HO2.out, (HG0.out.trans (Grew.alloc _ _ _)).trans HG.out⟩

end Go.Proofs.YtidfgjgbigedeaaGreatDoor
