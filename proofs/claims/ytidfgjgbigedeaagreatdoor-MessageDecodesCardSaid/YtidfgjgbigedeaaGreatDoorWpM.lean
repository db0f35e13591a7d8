/- The program's reader: take. The program's reader: number, float, truth. -/
import Derived.Test.YtidfgjgbigedeaaGreatDoorWpR
import Derived.Test.YtidfgjgbigedeaaGreatDoorWqAll
import Derived.Handy
section
namespace Go.Proofs.YtidfgjgbigedeaaGreatDoor
open Go.RowKit Go.Lib Go.Wq
set_option linter.unusedVariables false
set_option linter.unusedSimpArgs false
set_option maxRecDepth 100000

/-- A reader, in block rb: its text and where the next byte is. -/
structure Rd (w : World) (rb : Nat) (s : ByteArray) (p : Nat) : Prop where
  c0 : w.cell? ⟨rb, 0, none⟩ = some (.string s)
  c1 : w.cell? ⟨rb, 1, none⟩ = some (.int .i64 (p : Int))
  fz : w.frozen? ⟨rb, 1, none⟩ = false
  le : p ≤ s.size

set_option maxHeartbeats 1000000 in
theorem take_ok (rb : Nat) (s : ByteArray) (p n bg : Nat) (w : World) (H : Rd w rb s p) (hs : s.size ≤ 65536) (hn : p + n ≤ s.size) :
    Calls Tryz.prog 126 #[.pointer (some ⟨rb, 0, none⟩), .int .u64 (n : Int), .int .i64 (bg : Int)] w fun e w' => e = .returned (.string (s.extract p (p + n))) ∧ Rd w' rb s (p + n) ∧ Kept (fun k => k = rb) w w' := by
  obtain ⟨c0, c1, fz, le⟩ := H
  have hle : (p : Int) ≤ (s.size : Int) := by omega
  have hd : decide (n ≤ s.size - p) = true := by simp; omega
  have HX : Hid ((s.extract p s.size).extract 0 n = s.extract p (p + n)) := Lib.hid (by
    apply ByteArray.ext
    simp only [ByteArray.data_extract, Array.extract_extract]
    congr 1 <;> omega)
  have HK : Hid (∀ m : Nat, Kept (fun k => k = rb) w ((w.drewN m).setCell ⟨rb, 1, none⟩ (.int .i64 ((p : Int) + (n : Int)))) ∧ Rd ((w.drewN m).setCell ⟨rb, 1, none⟩ (.int .i64 ((p : Int) + (n : Int)))) rb s (p + n)) := Lib.hid (fun m => by
    have hk0 : Kept (fun k => k = rb) w (w.drewN m) := ⟨rfl, rfl, rfl, Nat.le_refl _, fun _ _ _ => rfl⟩
    refine ⟨hk0.setCell ⟨rb, 1, none⟩ _ rfl, ⟨?_, ?_, ?_, hn⟩⟩
    · have : (w.drewN m).cell? ⟨rb, 0, none⟩ = some (.string s) := c0
      simp [go_sem, this]
    · have : (w.drewN m).cell? ⟨rb, 1, none⟩ = some (.int .i64 (p : Int)) := c1
      simp [go_sem, this]
    · have : (w.drewN m).frozen? ⟨rb, 1, none⟩ = false := fz
      simp [go_sem, this])
  go_enter Tryz.func126, Tryz.ntmps126
  go_wp2_with fail
  go_quiet (fail)
  go_wp2_with fail
  try rw [hd]
  refine (check_ok _ _ _).mono ?_
  rintro e w3 ⟨rfl, rfl⟩
  have k1 : (w.drewN nq).cell? ⟨rb, 1, none⟩ = some (.int .i64 (p : Int)) := c1
  have kf : (w.drewN nq).frozen? ⟨rb, 1, none⟩ = false := fz
  have hnm : (n : Int) ≤ ((s.size - p : Nat) : Int) := by omega
  go_wp2_with fail
  refine bodyPost_ret (v := .string ((s.extract p s.size).extract 0 n)) (by simp [results, Tryz.results126, go_sem]) rfl ?_
  exact ⟨by rw [HX.out], (HK.out nq).2, (HK.out nq).1⟩

set_option maxHeartbeats 1000000 in
theorem take_bad (rb : Nat) (s : ByteArray) (p n bg : Nat) (w : World) (H : Rd w rb s p) (hs : s.size ≤ 65536) (hn : s.size < p + n) (h64 : n < 18446744073709551616) :
    Calls Tryz.prog 126 #[.pointer (some ⟨rb, 0, none⟩), .int .u64 (n : Int), .int .i64 (bg : Int)] w fun e w' => Dies 42 (bg : Int) w e w' ∧ Below w.heap.size w w' := by
  obtain ⟨c0, c1, fz, le⟩ := H
  have hle : (p : Int) ≤ (s.size : Int) := by omega
  have hd : decide (n ≤ s.size - p) = false := by simp; omega
  go_enter Tryz.func126, Tryz.ntmps126
  go_wp2_with fail
  go_quiet (fail)
  go_wp2_with fail
  try rw [hd]
  refine (check_bad _ _ _).mono ?_
  rintro e w3 ⟨⟨pb, rfl, hd1⟩, hb3⟩
  go_wp2_with fail
  exact ⟨rfl, ⟨pb, rfl, hd1⟩, ⟨hb3.os, hb3.tape, hb3.output, hb3.size, fun k hk => hb3.block k hk⟩⟩
end Go.Proofs.YtidfgjgbigedeaaGreatDoor
end

section
namespace Go.Proofs.YtidfgjgbigedeaaGreatDoor
open Go.RowKit Go.Lib Go.Wq
set_option linter.unusedVariables false
set_option linter.unusedSimpArgs false
set_option maxRecDepth 100000

theorem Dies.more {code place : Int} {w0 w : World} {e : Ending} {w' : World} (h : Dies code place w e w') (hs : w0.heap.size ≤ w.heap.size) : Dies code place w0 e w' := h.from hs
theorem Rd.kept {w w' : World} {rb : Nat} {s : ByteArray} {p : Nat} (h : Rd w rb s p) (hk : w'.heap[rb]? = w.heap[rb]?) : Rd w' rb s p :=
  ⟨(World.cell?_of_block hk).trans h.c0, (World.cell?_of_block hk).trans h.c1, (World.frozen?_of_block hk).trans h.fz, h.le⟩
theorem extract_size (s : ByteArray) (p n : Nat) (h : p + n ≤ s.size) : (s.extract p (p + n)).size = n := by
  simp; omega
theorem extract_data (s : ByteArray) (p n : Nat) : (s.extract p (p + n)).data.toList = (s.data.toList.drop p).take n := by
  simp [ByteArray.data_extract, List.extract_eq_take_drop]

theorem extract_at (s : ByteArray) (p n j : Nat) (hj : j < n) (h : p + n ≤ s.size) : (s.extract p (p + n))[j]'(by rw [extract_size s p n h]; exact hj) = s[p + j]'(by omega) := by
  simp [ByteArray.getElem_extract]

/-- How reading a number ends. -/
def NumEnds (rb : Nat) (s : ByteArray) (p : Nat) (w : World) (e : Ending) (w' : World) : Prop :=
  Kept (fun k => k = rb) w w' ∧ match rdVar s.data.toList p with
    | .ok n q => e = .returned (.int .u64 (n : Int)) ∧ Rd w' rb s q
    | .bad er fr => Dies er fr w e w'

set_option maxHeartbeats 2000000 in
theorem rnum_any (rb : Nat) (s : ByteArray) (p : Nat) (w : World) (H : Rd w rb s p) (hs : s.size ≤ 65536) :
    Calls Tryz.prog 121 #[.pointer (some ⟨rb, 0, none⟩), .int .i64 (p : Int)] w (NumEnds rb s p w) := by
  have HT := Lib.hid (fun (P : Nat) (wr : World) (h : Rd wr rb s P) (hp : P + 1 ≤ s.size) => (take_ok rb s P 1 p wr h hs hp))
  have HTB := Lib.hid (fun (P : Nat) (wr : World) (h : Rd wr rb s P) (hp : s.size < P + 1) => (take_bad rb s P 1 p wr h hs hp (by decide)))
  have HH := Lib.hid H
  have HS := Lib.hid hs
  clear H hs
  go_enter Tryz.func121, Tryz.ntmps121
  go_wp2_with fail
  go_loopw [5, 6] (fun v i wr => ∃ k n P : Nat, k ≤ 9 ∧ i = .int .i64 (7 * (k : Int)) ∧ v = .int .u64 n ∧ n < 128 ^ k ∧ Rd wr rb s P ∧ Kept (fun k => k = rb) w wr ∧ rdVar s.data.toList p = varGo s.data.toList p (10 - k) k P n) (fun _ i _ => 100 - (intOf i).toNat)
  case atStart => exact ⟨0, 0, p, by omega, rfl, rfl, by simp, HH.out, Kept.refl _ _, rfl⟩
  case round =>
    obtain ⟨k, n, P, hk, rfl, rfl, hn, hr, hkp, hrd⟩ := hrel
    have HKp := Lib.hid hkp
    have HRD := Lib.hid hrd
    have HN := Lib.hid hn
    have HR := Lib.hid hr
    clear hkp hrd hn hr
    by_cases hend : P + 1 ≤ s.size
    · have hP : P < s.size := by omega
      obtain ⟨T, hT⟩ : ∃ T, T = s.extract P (P + 1) := ⟨_, rfl⟩
      have hTs : T.size = 1 := by rw [hT]; exact extract_size s P 1 hend
      have hT0 : 0 < T.size := by omega
      obtain ⟨C, hC⟩ : ∃ C : Nat, ((T[0]'hT0).toNat : Int) = (C : Int) := ⟨_, rfl⟩
      have hC' : (s[P]'hP).toNat = C := by
        have h1 : (T[0]'hT0).toNat = C := by exact_mod_cast hC
        rw [← h1]
        congr 1
        subst hT
        exact (extract_at s P 1 0 (by omega) hend).symm
      have hC256 : C < 256 := by rw [← hC']; exact (s[P]'hP).toNat_lt
      have hget : s.data.toList[P]? = some (s[P]'hP) := by
        rw [Array.getElem?_toList]
        exact Array.getElem?_eq_getElem hP
      have hstep := varGo_some s.data.toList p (9 - k) k P n _ hget
      rw [show 9 - k + 1 = 10 - k by omega, ← HRD.out, hC'] at hstep
      have HStep := Lib.hid hstep
      have HTk : Hid (Calls Tryz.prog 126 #[.pointer (some ⟨rb, 0, none⟩), .int .u64 1, .int .i64 (p : Int)] wr fun e w' => e = .returned (.string T) ∧ Rd w' rb s (P + 1) ∧ Kept (fun k => k = rb) wr w') := Lib.hid (by rw [hT]; exact HT.out P wr HR.out hend)
      clear hget hstep hC' hT
      by_cases hover : k = 9 ∧ 1 < C
      · rw [if_pos hover] at HStep
        obtain ⟨rfl, hC1⟩ := hover
        have hd1 : decide ((C : Int) ≤ 1) = false := decide_eq_false (by omega)
        go_wp2_with fail
        refine HTk.out.mono ?_
        rintro e w2 ⟨rfl, hr2, hk2⟩
        have HK2 := Lib.hid (HKp.out.trans hk2)
        have hs2 := HK2.out.size
        clear hr2 hk2
        go_wp2_with fail
        refine (check_bad _ _ _).mono ?_
        rintro e w3 ⟨⟨pb, rfl, hd⟩, hb3⟩
        have HD := Lib.hid hd
        have HB3 := Lib.hid (Kept.of_below (S := fun k => k = rb) hb3)
        clear hd hb3
        go_wp2_with fail
        refine ⟨rfl, HK2.out.trans HB3.out, ?_⟩
        rw [HStep.out]
        exact ⟨pb, rfl, by have := HD.out.1; omega, HD.out.2⟩
      · rw [if_neg hover] at HStep
        obtain ⟨go1, go2, go3⟩ := group_or n (C % 128) k (by omega) HN.out (by omega) (fun h => by omega)
        have gsh := group_shl (C % 128) k go2
        have gan := andNot128n C hC256
        have gnx := group_next n (C % 128) k HN.out (by omega)
        have gw : IntKind.u64.wrap ((C % 128 : Nat) : Int) = ((C % 128 : Nat) : Int) := by rw [IntKind.wrap_u64]; omega
        obtain ⟨G, hG⟩ : ∃ G, C % 128 = G := ⟨_, rfl⟩
        rw [hG] at go1 gsh gan gw gnx HStep
        obtain ⟨S, hS⟩ : ∃ S, G * 128 ^ k = S := ⟨_, rfl⟩
        rw [hS] at go1 gsh gnx HStep
        obtain ⟨U, hU⟩ : ∃ U, n + S = U := ⟨_, rfl⟩
        rw [hU] at go1 gnx HStep
        have gsh2 : IntKind.u64.wrap ((G : Int) * 2 ^ (7 * (k : Int)).toNat) = (S : Int) := by rw [show (7 * (k : Int)).toNat = 7 * k by omega]; exact gsh
        have HGN := Lib.hid gnx
        clear gnx hG hS hU go2 go3
        have hk97 : k = 9 ∨ (k < 9 ∧ decide (7 * (k : Int) < 63) = true) := by
          by_cases h : k = 9
          · exact Or.inl h
          · exact Or.inr ⟨by omega, decide_eq_true (by omega)⟩
        by_cases h128 : C < 128
        · rw [if_pos h128] at HStep
          have hd128 : decide ((C : Int) < 128) = true := decide_eq_true (by omega)
          by_cases hz : C = 0 ∧ 0 < k
          · rw [if_pos hz] at HStep
            obtain ⟨rfl, hk0⟩ := hz
            rcases hk97 with rfl | ⟨hk9, hd63⟩
            · have gsh9 : IntKind.u64.wrap ((G : Int) * 9223372036854775808) = (S : Int) := gsh
              go_wp2_with fail
              refine HTk.out.mono ?_
              rintro e w2 ⟨rfl, hr2, hk2⟩
              have HK2 := Lib.hid (HKp.out.trans hk2)
              have hs2 := HK2.out.size
              clear hr2 hk2
              go_wp2_with fail
              refine (check_ok _ _ _).mono ?_
              rintro e w3 ⟨rfl, rfl⟩
              go_wp2_with fail
              refine (check_bad _ _ _).mono ?_
              rintro e w3 ⟨⟨pb, rfl, hd⟩, hb3⟩
              have HD := Lib.hid hd
              have HB3 := Lib.hid (Kept.of_below (S := fun k => k = rb) hb3)
              clear hd hb3
              go_wp2_with fail
              refine ⟨rfl, HK2.out.trans HB3.out, ?_⟩
              rw [HStep.out]
              exact ⟨pb, rfl, by have := HD.out.1; omega, HD.out.2⟩
            · have hk0' : ((7 * (k : Int)) == 0) = false := by simp; omega
              go_wp2_with fail
              refine HTk.out.mono ?_
              rintro e w2 ⟨rfl, hr2, hk2⟩
              have HK2 := Lib.hid (HKp.out.trans hk2)
              have hs2 := HK2.out.size
              clear hr2 hk2
              go_wp2_with fail
              refine (check_ok _ _ _).mono ?_
              rintro e w3 ⟨rfl, rfl⟩
              go_wp2_with fail
              refine (check_bad _ _ _).mono ?_
              rintro e w3 ⟨⟨pb, rfl, hd⟩, hb3⟩
              have HD := Lib.hid hd
              have HB3 := Lib.hid (Kept.of_below (S := fun k => k = rb) hb3)
              clear hd hb3
              go_wp2_with fail
              refine ⟨rfl, HK2.out.trans HB3.out, ?_⟩
              rw [HStep.out]
              exact ⟨pb, rfl, by have := HD.out.1; omega, HD.out.2⟩
          · rw [if_neg hz] at HStep
            rcases hk97 with rfl | ⟨hk9, hd63⟩
            · have gsh9 : IntKind.u64.wrap ((G : Int) * 9223372036854775808) = (S : Int) := gsh
              have hd1 : decide ((C : Int) ≤ 1) = true := decide_eq_true (by omega)
              have hz' : 0 < C := by omega
              have hz1 : (0 : Int) < (C : Int) := by omega
              have hz3 : decide ((0 : Int) < (C : Int)) = true := decide_eq_true hz1
              have hz4 : decide (0 < C) = true := decide_eq_true hz'
              clear hz hover
              go_wp2_with fail
              refine HTk.out.mono ?_
              rintro e w2 ⟨rfl, hr2, hk2⟩
              have HK2 := Lib.hid (HKp.out.trans hk2)
              have HR2 := Lib.hid hr2
              clear hr2 hk2
              go_wp2_with fail
              refine (check_ok _ _ _).mono ?_
              rintro e w3 ⟨rfl, rfl⟩
              go_wp2_with fail
              refine (check_ok _ _ _).mono ?_
              rintro e w3 ⟨rfl, rfl⟩
              go_wp2_with fail
              (try simp only [Exit.inBlock, Exit.then])
              refine bodyPost_ret (v := .int .u64 (U : Int)) (by simp [results, Tryz.results121, go_sem]) rfl ?_
              exact ⟨HK2.out, by rw [HStep.out]; exact ⟨rfl, HR2.out⟩⟩
            · have hzz : (0 < C) ∨ (C = 0 ∧ k = 0) := by omega
              clear hz hover
              rcases hzz with hz' | ⟨rfl, rfl⟩
              · have hz1 : (0 : Int) < (C : Int) := by omega
                have hz3 : decide ((0 : Int) < (C : Int)) = true := decide_eq_true hz1
                have hz4 : decide (0 < C) = true := decide_eq_true hz'
                go_wp2_with fail
                refine HTk.out.mono ?_
                rintro e w2 ⟨rfl, hr2, hk2⟩
                have HK2 := Lib.hid (HKp.out.trans hk2)
                have HR2 := Lib.hid hr2
                clear hr2 hk2
                go_wp2_with fail
                refine (check_ok _ _ _).mono ?_
                rintro e w3 ⟨rfl, rfl⟩
                go_wp2_with fail
                refine (check_ok _ _ _).mono ?_
                rintro e w3 ⟨rfl, rfl⟩
                go_wp2_with fail
                (try simp only [Exit.inBlock, Exit.then])
                refine bodyPost_ret (v := .int .u64 (U : Int)) (by simp [results, Tryz.results121, go_sem]) rfl ?_
                exact ⟨HK2.out, by rw [HStep.out]; exact ⟨rfl, HR2.out⟩⟩
              · have gsh0 : IntKind.u64.wrap (G : Int) = (S : Int) := by simpa using gsh
                have hGS : (S : Int) = (G : Int) := by rw [← gsh0, gw]
                rw [hGS] at go1
                have g0 : bits BinOp.andNot IntKind.u8 0 128 = (G : Int) := by simpa using gan
                go_wp2_with fail
                refine HTk.out.mono ?_
                rintro e w2 ⟨rfl, hr2, hk2⟩
                have HK2 := Lib.hid (HKp.out.trans hk2)
                have HR2 := Lib.hid hr2
                clear hr2 hk2
                go_wp2_with fail
                refine (check_ok _ _ _).mono ?_
                rintro e w3 ⟨rfl, rfl⟩
                go_wp2_with fail
                refine (check_ok _ _ _).mono ?_
                rintro e w3 ⟨rfl, rfl⟩
                go_wp2_with fail
                (try simp only [Exit.inBlock, Exit.then])
                refine bodyPost_ret (v := .int .u64 (U : Int)) (by simp [results, Tryz.results121, go_sem, g0, gw, go1]) rfl ?_
                exact ⟨HK2.out, by rw [HStep.out]; exact ⟨rfl, HR2.out⟩⟩
        · rw [if_neg h128] at HStep
          have hd128 : decide ((C : Int) < 128) = false := decide_eq_false (by omega)
          have h9 : ¬ k = 9 := fun h => hover ⟨h, by omega⟩
          have hd63 : decide (7 * (k : Int) < 63) = true := decide_eq_true (by omega)
          have hnx : 10 - (k + 1) = 9 - k := by omega
          go_wp2_with fail
          refine HTk.out.mono ?_
          rintro e w2 ⟨rfl, hr2, hk2⟩
          have HK2 := Lib.hid (HKp.out.trans hk2)
          have HR2 := Lib.hid hr2
          clear hr2 hk2
          go_wp2_with fail
          refine (check_ok _ _ _).mono ?_
          rintro e w3 ⟨rfl, rfl⟩
          go_wp2_with fail
          go_roundw
          case rel => exact ⟨k + 1, U, P + 1, by omega, by go_num, by simp [gan, gw, gsh, go1], HGN.out, HR2.out, HK2.out, by rw [hnx]; exact HStep.out⟩
          case measure => simp [intOf]; omega
    · go_wp2_with fail
      refine (HTB.out P wr HR.out (by omega)).mono ?_
      rintro e w2 ⟨⟨pb, rfl, hd⟩, hb2⟩
      have hget : s.data.toList[P]? = none := by
        rw [List.getElem?_eq_none]
        rw [Array.length_toList]; exact (by omega : s.size ≤ P)
      have hbad := varGo_none s.data.toList p (9 - k) k P n hget
      rw [show 9 - k + 1 = 10 - k by omega, ← HRD.out] at hbad
      have HB9 := Lib.hid hbad
      have HD := Lib.hid hd
      have HB2 := Lib.hid (HKp.out.trans (Kept.of_below (S := fun k => k = rb) hb2))
      have hs2 := HKp.out.size
      clear hbad hget hd hb2
      go_wp2_with fail
      refine ⟨rfl, HB2.out, ?_⟩
      rw [HB9.out]
      exact ⟨pb, rfl, by have := HD.out.1; omega, HD.out.2⟩
end Go.Proofs.YtidfgjgbigedeaaGreatDoor
end
