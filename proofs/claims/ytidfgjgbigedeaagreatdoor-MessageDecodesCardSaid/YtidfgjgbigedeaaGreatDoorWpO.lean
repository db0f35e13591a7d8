/- The program's reader: float, truth, the sign of a whole number. -/
import Derived.Test.YtidfgjgbigedeaaGreatDoorWpM
import Derived.Test.YtidfgjgbigedeaaGreatDoorWsA
namespace Go.Proofs.YtidfgjgbigedeaaGreatDoor
open Go.RowKit Go.Lib Go.Wq
set_option linter.unusedVariables false
set_option linter.unusedSimpArgs false
set_option maxRecDepth 100000

/-- How reading a float ends. -/
def FltEnds (rb : Nat) (s : ByteArray) (p : Nat) (w : World) (e : Ending) (w' : World) : Prop :=
  Kept (fun k => k = rb) w w' ∧ if s.data.toList.length < p + 8 then Dies 42 p w e w' else e = .returned (.float .f64 (numOf ((s.data.toList.drop p).take 8) 0)) ∧ Rd w' rb s (p + 8)

set_option maxHeartbeats 2000000 in
theorem pfloat_any (rb : Nat) (s : ByteArray) (p : Nat) (w : World) (H : Rd w rb s p) (hs : s.size ≤ 65536) :
    Calls Tryz.prog 123 #[.pointer (some ⟨rb, 0, none⟩), .int .i64 (p : Int)] w (FltEnds rb s p w) := by
  have hl : s.data.toList.length = s.size := Array.length_toList
  by_cases hend : p + 8 ≤ s.size
  · obtain ⟨T, hT⟩ : ∃ T, T = s.extract p (p + 8) := ⟨_, rfl⟩
    have hTs : T.size = 8 := by rw [hT]; exact extract_size s p 8 hend
    have HTk : Hid (Calls Tryz.prog 126 #[.pointer (some ⟨rb, 0, none⟩), .int .u64 8, .int .i64 (p : Int)] w fun e w' => e = .returned (.string T) ∧ Rd w' rb s (p + 8) ∧ Kept (fun k => k = rb) w w') := Lib.hid (by rw [hT]; exact take_ok rb s p 8 p w H hs hend)
    have HNx : Hid (∀ j, (hj : j < T.size) → numOf ((s.data.toList.drop p).take (j + 1)) 0 = numOf ((s.data.toList.drop p).take j) 0 * 256 + (T[j]'hj).toNat ∧ numOf ((s.data.toList.drop p).take j) 0 < 2 ^ 56) := Lib.hid (fun j hj => by
      have h := num_next s.data.toList p j (by omega) (by omega)
      have e : T[j]'hj = s.data.toList[p + j]'(by omega) := by
        subst hT
        rw [extract_at s p 8 j (by omega) hend]
        rw [Array.getElem_toList]
        rfl
      rw [e]; exact h)
    have HFin : Hid (∀ w', Rd w' rb s (p + 8) → Kept (fun k => k = rb) w w' → FltEnds rb s p w (.returned (.float .f64 (numOf ((s.data.toList.drop p).take 8) 0))) w') := Lib.hid (fun w' h1 h2 => ⟨h2, by rw [if_neg (by omega)]; exact ⟨rfl, h1⟩⟩)
    obtain ⟨N, hN⟩ : ∃ N : Nat → Nat, N = fun j => numOf ((s.data.toList.drop p).take j) 0 := ⟨_, rfl⟩
    have HN0 : Hid (N 0 = 0) := Lib.hid (by rw [hN]; simp [numOf])
    have HNx2 : Hid (∀ j, (hj : j < T.size) → N (j + 1) = N j * 256 + (T[j]'hj).toNat ∧ N j < 2 ^ 56) := Lib.hid (by rw [hN]; exact HNx.out)
    have HN8 : Hid (N 8 < 2 ^ 64) := Lib.hid (by rw [hN]; exact num_lt8 _ _)
    have HFin2 : Hid (∀ w', Rd w' rb s (p + 8) → Kept (fun k => k = rb) w w' → FltEnds rb s p w (.returned (.float .f64 (N 8))) w') := Lib.hid (by rw [hN]; exact HFin.out)
    have HTs := Lib.hid hTs
    have hxb := x_fromB
    clear H hT HNx HFin hN hl hTs
    go_enter Tryz.func123, Tryz.ntmps123
    go_wp2_with fail
    refine HTk.out.mono ?_
    rintro e w2 ⟨rfl, hr2, hk2⟩
    have HR2 := Lib.hid hr2
    have HK2 := Lib.hid hk2
    clear hr2 hk2
    go_wp2_with fail
    go_loopw [6, 13] (fun v i wr => ∃ k : Nat, k ≤ 8 ∧ i = .int .i64 (k : Int) ∧ v = .int .u64 ((N k : Nat) : Int) ∧ wr = w2) (fun _ i _ => 8 - (intOf i).toNat)
    case atStart => exact ⟨0, by omega, rfl, by rw [HN0.out]; rfl, rfl⟩
    case round =>
      obtain ⟨k, hk, rfl, rfl, rfl⟩ := hrel
      by_cases hk8 : k < 8
      · have hkT : k < T.size := by rw [HTs.out]; exact hk8
        have hki : (k : Int) < (T.size : Int) := by omega
        obtain ⟨hn1, hn2⟩ := HNx2.out k hkT
        obtain ⟨C, hC⟩ : ∃ C : Nat, ((T[k]'hkT).toNat : Int) = (C : Int) := ⟨_, rfl⟩
        have hC' : (T[k]'hkT).toNat = C := by exact_mod_cast hC
        have hC256 : C < 256 := by rw [← hC']; exact (T[k]'hkT).toNat_lt
        rw [hC'] at hn1
        have hs8 := shl8 (N k) hn2
        have hor := byte_or (N k) C hn2 hC256
        rw [← hn1] at hor
        have gw : IntKind.u64.wrap ((C : Nat) : Int) = ((C : Nat) : Int) := by rw [IntKind.wrap_u64]; omega
        obtain ⟨M, hM⟩ : ∃ M, N k = M := ⟨_, rfl⟩
        obtain ⟨M1, hM1⟩ : ∃ M1, N (k + 1) = M1 := ⟨_, rfl⟩
        have HM1 := Lib.hid hM1
        rw [hM] at hs8 hor ⊢
        rw [hM1] at hor
        obtain ⟨M2, hM2⟩ : ∃ M2, M * 256 = M2 := ⟨_, rfl⟩
        rw [hM2] at hs8 hor
        clear hn1 hn2 hC' hM hM1 hM2
        go_wp2_with fail
        go_roundw
        case rel => exact ⟨k + 1, by omega, by go_num, by rw [HM1.out]; try simp [hs8, gw, hor], by first | rfl | trivial⟩
        case measure => simp [intOf]; omega
      · obtain rfl : k = 8 := by omega
        have hki : ¬ (((8 : Nat) : Int) < (T.size : Int)) := by have := HTs.out; omega
        have hk2 : ¬ ((8 : Int) < (T.size : Int)) := by have := HTs.out; omega
        go_wp2_with fail
        (try simp only [Exit.inBlock, Exit.then])
        refine bodyPost_ret (v := .float .f64 (N 8)) (by simp [results, Tryz.results123, go_sem]) rfl ?_
        exact HFin2.out _ HR2.out HK2.out
  · have HTB := Lib.hid (take_bad rb s p 8 p w H hs (by omega) (by decide))
    clear H
    go_enter Tryz.func123, Tryz.ntmps123
    go_wp2_with fail
    refine HTB.out.mono ?_
    rintro e w2 ⟨⟨pb, rfl, hd⟩, hb2⟩
    have HD := Lib.hid hd
    have HB2 := Lib.hid (Kept.of_below (S := fun k => k = rb) hb2)
    clear hd hb2
    go_wp2_with fail
    refine ⟨rfl, HB2.out, ?_⟩
    rw [if_pos (by omega)]
    exact ⟨pb, rfl, HD.out⟩

/-- How reading a truth ends. -/
def TruEnds (rb : Nat) (s : ByteArray) (p : Nat) (w : World) (e : Ending) (w' : World) : Prop :=
  Kept (fun k => k = rb) w w' ∧ match s.data.toList[p]? with
    | none => Dies 42 p w e w'
    | some c => if 1 < c.toNat then Dies 43 p w e w' else e = .returned (.bool (c.toNat == 1)) ∧ Rd w' rb s (p + 1)

set_option maxHeartbeats 2000000 in
theorem rtruth_any (rb : Nat) (s : ByteArray) (p : Nat) (w : World) (H : Rd w rb s p) (hs : s.size ≤ 65536) :
    Calls Tryz.prog 124 #[.pointer (some ⟨rb, 0, none⟩), .int .i64 (p : Int)] w (TruEnds rb s p w) := by
  have hl : s.data.toList.length = s.size := Array.length_toList
  by_cases hend : p + 1 ≤ s.size
  · have hP : p < s.size := by omega
    obtain ⟨T, hT⟩ : ∃ T, T = s.extract p (p + 1) := ⟨_, rfl⟩
    have hTs : T.size = 1 := by rw [hT]; exact extract_size s p 1 hend
    have hT0 : 0 < T.size := by omega
    obtain ⟨C, hC⟩ : ∃ C : Nat, ((T[0]'hT0).toNat : Int) = (C : Int) := ⟨_, rfl⟩
    have hC' : (s[p]'hP).toNat = C := by
      have h1 : (T[0]'hT0).toNat = C := by exact_mod_cast hC
      rw [← h1]
      congr 1
      subst hT
      exact (extract_at s p 1 0 (by omega) hend).symm
    have hget : s.data.toList[p]? = some (s[p]'hP) := by
      rw [Array.getElem?_toList]
      exact Array.getElem?_eq_getElem hP
    have HTk : Hid (Calls Tryz.prog 126 #[.pointer (some ⟨rb, 0, none⟩), .int .u64 1, .int .i64 (p : Int)] w fun e w' => e = .returned (.string T) ∧ Rd w' rb s (p + 1) ∧ Kept (fun k => k = rb) w w') := Lib.hid (by rw [hT]; exact take_ok rb s p 1 p w H hs hend)
    have HE : Hid (∀ e w', TruEnds rb s p w e w' = (Kept (fun k => k = rb) w w' ∧ if 1 < C then Dies 43 p w e w' else e = .returned (.bool (C == 1)) ∧ Rd w' rb s (p + 1))) := Lib.hid (fun e w' => by unfold TruEnds; rw [hget, ← hC'])
    clear H hT hget hC' hl
    by_cases h1 : 1 < C
    · have hd1 : decide ((C : Int) ≤ 1) = false := decide_eq_false (by omega)
      go_enter Tryz.func124, Tryz.ntmps124
      go_wp2_with fail
      refine HTk.out.mono ?_
      rintro e w2 ⟨rfl, hr2, hk2⟩
      have HK2 := Lib.hid hk2
      have hs2 := HK2.out.size
      clear hr2 hk2
      go_wp2_with fail
      refine (check_bad _ _ _).mono ?_
      rintro e w3 ⟨⟨pb, rfl, hd⟩, hb3⟩
      have HD := Lib.hid hd
      have HB3 := Lib.hid (Kept.of_below (S := fun k => k = rb) hb3)
      clear hd hb3
      go_wp2_with fail
      refine ⟨rfl, ?_⟩
      rw [HE.out, if_pos h1]
      exact ⟨HK2.out.trans HB3.out, pb, rfl, by have := HD.out.1; omega, HD.out.2⟩
    · have hd1 : decide ((C : Int) ≤ 1) = true := decide_eq_true (by omega)
      obtain ⟨B, hB⟩ : ∃ B, (C == 1) = B := ⟨_, rfl⟩
      have hB' : ((C : Int) == 1) = B := by rw [← hB, Bool.eq_iff_iff]; simp; omega
      rw [hB] at HE
      have HN1 := Lib.hid h1
      clear h1 hB
      go_enter Tryz.func124, Tryz.ntmps124
      go_wp2_with fail
      refine HTk.out.mono ?_
      rintro e w2 ⟨rfl, hr2, hk2⟩
      have HK2 := Lib.hid hk2
      have HR2 := Lib.hid hr2
      clear hr2 hk2
      go_wp2_with fail
      refine (check_ok _ _ _).mono ?_
      rintro e w3 ⟨rfl, rfl⟩
      go_wp2_with fail
      (try simp only [Exit.inBlock, Exit.then])
      refine bodyPost_ret (v := .bool B) (by simp [results, Tryz.results124, go_sem, hB']) rfl ?_
      rw [HE.out, if_neg HN1.out]
      exact ⟨HK2.out, rfl, HR2.out⟩
  · have HTB := Lib.hid (take_bad rb s p 1 p w H hs (by omega) (by decide))
    have hget : s.data.toList[p]? = none := by
      rw [List.getElem?_eq_none]
      omega
    have HG := Lib.hid hget
    clear H hget
    go_enter Tryz.func124, Tryz.ntmps124
    go_wp2_with fail
    refine HTB.out.mono ?_
    rintro e w2 ⟨⟨pb, rfl, hd⟩, hb2⟩
    have HD := Lib.hid hd
    have HB2 := Lib.hid (Kept.of_below (S := fun k => k = rb) hb2)
    clear hd hb2
    go_wp2_with fail
    refine ⟨rfl, ?_⟩
    unfold TruEnds
    rw [HG.out]
    exact ⟨HB2.out, pb, rfl, HD.out⟩

set_option maxHeartbeats 2000000 in
/-- A whole number out of its number. -/
theorem unfold_any (n : Nat) (hn : n < 18446744073709551616) (w : World) : Calls Tryz.prog 122 #[.int .u64 (n : Int)] w fun e w' => e = .returned (.int .i64 (zag n)) ∧ w = w' := by
  obtain ⟨H, hH0⟩ : ∃ H : Nat, (n : Int) / 2 = (H : Int) := ⟨n / 2, by omega⟩
  have hH63 : H < 9223372036854775808 := by omega
  have hH : IntKind.i64.wrap (H : Int) = (H : Int) := by go_arith
  have hA : bits BinOp.and IntKind.u64 (n : Int) 1 = ((n % 2 : Nat) : Int) := by
    rw [show (1 : Int) = ((1 : Nat) : Int) from rfl, u64_and_nat _ _ (by omega) (by omega), Nat.and_one_is_mod]
  by_cases hodd : n % 2 = 1
  · have hz : zag n = -(H : Int) - 1 := by unfold zag; rw [if_pos hodd]; omega
    have hX := xor_m1' H hH63
    rw [hz]
    rw [hodd] at hA
    clear hz hodd
    go_enter Tryz.func122, Tryz.ntmps122
    go_wp2_with fail
    go_ret
    simp [hX]
  · have hz : zag n = (H : Int) := by unfold zag; rw [if_neg hodd]; omega
    have hX := xor_0' H hH63
    have h0 : n % 2 = 0 := by omega
    rw [hz]
    rw [h0] at hA
    clear hz hodd h0
    go_enter Tryz.func122, Tryz.ntmps122
    go_wp2_with fail
    go_ret
    simp [hX]
end Go.Proofs.YtidfgjgbigedeaaGreatDoor
