/- Go's own reading of a float's text, at texts of digits and at most one point. -/
import Derived.Test.YtloaajoeciajaaaDoorFlX
import Derived.Test.YtloaajoeciajaaaDoorFqP
import Derived.LoopTactic
import Derived.WalkMore
import Derived.Deep.LoopGhost
namespace Go.Proofs.YtloaajoeciajaaaDoor
open Go.Fq Go.RowKit

set_option maxRecDepth 100000 in
set_option maxHeartbeats 4000000 in
theorem readFloat_rd (s : ByteArray) (st : Nat → Rd) (w : World) (h : RdOk s st) :
    Calls Tryd.prog 65 #[.string s] w fun e w' =>
      e = .returned (.tuple #[.int .u64 (st s.size).M, .int .i64 (rdExp (st s.size)), .bool false, .bool false, .bool false, .int .i64 s.size, .bool true]) ∧ ∃ n, w' = w.drewN n := by
  obtain ⟨l1, l2⟩ := h.len
  have hsz : s.size ≤ maxLen := by unfold maxLen; omega
  have hp : 0 < s.size := by omega
  have HO := Lib.hid h
  have hf := h.first
  have t1 : (((s[0]'hp).toNat : Int) == 43) = false := by rw [beq_eq_false_iff_ne]; omega
  have t2 : (((s[0]'hp).toNat : Int) == 45) = false := by rw [beq_eq_false_iff_ne]; omega
  have hne : ¬ s = ByteArray.empty := by intro he; subst he; simp at hp
  have hlow : ∀ n : Nat, n < 58 → (bits .or .u8 (n : Int) 32 == 120) = false := by decide +kernel
  have tl : ∀ h1 : 1 < s.size, (bits .or .u8 ((s[1]'h1).toNat : Int) 32 == 120) = false := fun h1 => hlow _ (by have := h.second h1; omega)
  clear hf h hlow
  have HT := Lib.hid tl; clear tl
  have main : ∀ (b0 : Bool), (decide (2 < (s.size : Int)) = b0) → ∀ (b1 : Bool), ((((s[0]'hp).toNat : Int) == 48) = b1) → 
    Calls Tryd.prog 65 #[.string s] w fun e w' =>
      e = .returned (.tuple #[.int .u64 (st s.size).M, .int .i64 (rdExp (st s.size)), .bool false, .bool false, .bool false, .int .i64 s.size, .bool true]) ∧ ∃ n, w' = w.drewN n := by
    intro b0 hb0 b1 hb1
    go_enter Tryd.func65, Tryd.ntmps65
    go_wp2_with fail
    go_step3
    cases b0 with
    | false =>
      cases b1
      all_goals go_wp2
      all_goals go_step3
      all_goals go_wp2_with fail
      all_goals (
        go_loopg [2, 5, 7, 9, 13, 14, 15, 16, 17] s.size (fun gk m tr i us sd sg nd ndm dp wr => ∃ k n : Nat, k ≤ s.size ∧ gk = s.size - k ∧ i = .int .i64 k ∧ m = .int .u64 (st k).M ∧ tr = .bool false ∧ us = .bool false ∧ sd = .bool (st k).dot ∧ sg = .bool (st k).dig ∧ nd = .int .i64 (st k).N ∧ ndm = .int .i64 (st k).N ∧ dp = .int .i64 (st k).D ∧ wr = w.drewN n)
        case atStart => exact ⟨0, 0, Nat.zero_le _, by simp, rfl, by rw [HO.out.start]; rfl, rfl, rfl, by rw [HO.out.start], by rw [HO.out.start], by rw [HO.out.start]; rfl, by rw [HO.out.start]; rfl, by rw [HO.out.start], rfl⟩
        case round =>
          obtain ⟨k, n, hk, hgk, rfl, rfl, rfl, rfl, rfl, rfl, rfl, rfl, rfl, hwr⟩ := hrel
          have HW := Lib.hid hwr; clear hwr
          have HG := Lib.hid hgk; clear hgk
          by_cases hlt : k < s.size
          · have HS := HO.out.step k hlt
            have hbd := HO.out.bd k hk
            have hc : ∃ c : Nat, (s[k]'hlt).toNat = c := ⟨_, rfl⟩
            obtain ⟨c, hc⟩ := hc
            rw [hc] at HS
            obtain ⟨b, hb⟩ : ∃ b, st (k + 1) = b := ⟨_, rfl⟩
            rw [hb] at HS
            have HB := Lib.hid hb; clear hb
            generalize st k = a at HS hbd ⊢
            obtain ⟨M, N, D, dt, dg⟩ := a
            obtain ⟨bM, bN, bD1, bD2⟩ := hbd
            replace bM : M ≤ 1000000000000000000 := bM
            replace bN : N ≤ 18 := bN
            replace bD1 : -18 ≤ D := bD1
            replace bD2 : D ≤ 18 := bD2
            have HC := Lib.hid hc
            rcases HS with ⟨rfl, hdt, hbe⟩ | ⟨rfl, hN, hbe⟩ | ⟨c1, c2, c3, hbe⟩
            · have e1 : (((s[k]'hlt).toNat : Int) == 95) = false := by rw [hc]; rfl
              have e2 : (((s[k]'hlt).toNat : Int) == 46) = true := by rw [hc]; rfl
              have hdt' : dt = false := hdt
              subst hdt'
              clear hdt hc
              have HE := Lib.hid hbe; clear hbe
              go_wp2_with fail
              go_roundg (s.size - (k + 1))
              case measure => have := HG.out; omega
              case rel => exact ⟨k + 1, n, by omega, rfl, by go_num, by rw [HB.out, HE.out], rfl, rfl, by rw [HB.out, HE.out], by rw [HB.out, HE.out], by rw [HB.out, HE.out], by rw [HB.out, HE.out], by rw [HB.out, HE.out], HW.out⟩
            · have e1 : (((s[k]'hlt).toNat : Int) == 95) = false := by rw [hc]; rfl
              have e2 : (((s[k]'hlt).toNat : Int) == 46) = false := by rw [hc]; rfl
              have e3 : (48 : Int) ≤ ((s[k]'hlt).toNat : Int) := by rw [hc]; omega
              have e4 : ((s[k]'hlt).toNat : Int) ≤ 57 := by rw [hc]; omega
              have e5 : (((s[k]'hlt).toNat : Int) == 48) = true := by rw [hc]; rfl
              have hN' : N = 0 := hN
              subst hN'
              clear hN hc
              have HE := Lib.hid hbe; clear hbe
              go_wp2_with fail
              go_roundg (s.size - (k + 1))
              case measure => have := HG.out; omega
              case rel => exact ⟨k + 1, n, by omega, rfl, by go_num, by rw [HB.out, HE.out], rfl, rfl, by rw [HB.out, HE.out], by rw [HB.out, HE.out], by rw [HB.out, HE.out]; rfl, by rw [HB.out, HE.out]; rfl, by rw [HB.out, HE.out], HW.out⟩
            · have e1 : (((s[k]'hlt).toNat : Int) == 95) = false := by rw [hc, beq_eq_false_iff_ne]; omega
              have e2 : (((s[k]'hlt).toNat : Int) == 46) = false := by rw [hc, beq_eq_false_iff_ne]; omega
              have e3 : (48 : Int) ≤ ((s[k]'hlt).toNat : Int) := by rw [hc]; omega
              have e4 : ((s[k]'hlt).toNat : Int) ≤ 57 := by rw [hc]; omega
              have hnn : (N : Int) < 19 := by omega
              have HE := Lib.hid hbe; clear hbe
              cases hz : (((s[k]'hlt).toNat : Int) == 48)
              · clear hc c3
                go_wp2_with fail
                go_roundg (s.size - (k + 1))
                case measure => have := HG.out; omega
                case rel => exact ⟨k + 1, n, by omega, rfl, by go_num, by have := HC.out; rw [HB.out, HE.out]; go_num, rfl, rfl, by rw [HB.out, HE.out], by rw [HB.out, HE.out], by rw [HB.out, HE.out]; go_num, by rw [HB.out, HE.out]; go_num, by rw [HB.out, HE.out], HW.out⟩
              · have hNz : ((N : Int) == 0) = false := by
                  rw [beq_eq_false_iff_ne]; intro h0
                  have : ((s[k]'hlt).toNat : Int) = 48 := by simpa using hz
                  exact c3 ⟨by omega, by show N = 0; omega⟩
                clear hc c3
                go_wp2_with fail
                go_roundg (s.size - (k + 1))
                case measure => have := HG.out; omega
                case rel => exact ⟨k + 1, n, by omega, rfl, by go_num, by have := HC.out; rw [HB.out, HE.out]; go_num, rfl, rfl, by rw [HB.out, HE.out], by rw [HB.out, HE.out], by rw [HB.out, HE.out]; go_num, by rw [HB.out, HE.out]; go_num, by rw [HB.out, HE.out], HW.out⟩
          · have hke : k = s.size := by omega
            subst hke
            have hd := HO.out.fin
            obtain ⟨bM, bN, bD1, bD2⟩ := HO.out.bd s.size (Nat.le_refl _)
            have hnlt : ¬ ((s.size : Int) < (s.size : Int)) := by omega
            cases hdot : (st s.size).dot <;> cases hm : (((st s.size).M : Int) != 0)
            all_goals
              have HX := Lib.hid (rdExp_eq (st s.size))
              rw [hm, hdot] at HX
              go_wp2_with fail
              try rw [Exit.noGoto_ret]
              refine bodyPost_ret (v := .tuple #[.int .u64 (st s.size).M, .int .i64 (rdExp (st s.size)), .bool false, .bool false, .bool false, .int .i64 s.size, .bool true]) (by rw [HX.out]; simp [results, Tryd.results65, go_sem]) rfl ⟨rfl, n, HW.out⟩)
    | true =>
      have h1 : 1 < s.size := by have := of_decide_eq_true hb0; omega
      have h1i : (1 : Int) < (s.size : Int) := by omega
      have tx := HT.out h1
      cases b1
      all_goals go_wp2
      all_goals go_step3
      all_goals go_wp2_with fail
      all_goals (
        go_loopg [2, 5, 7, 9, 13, 14, 15, 16, 17] s.size (fun gk m tr i us sd sg nd ndm dp wr => ∃ k n : Nat, k ≤ s.size ∧ gk = s.size - k ∧ i = .int .i64 k ∧ m = .int .u64 (st k).M ∧ tr = .bool false ∧ us = .bool false ∧ sd = .bool (st k).dot ∧ sg = .bool (st k).dig ∧ nd = .int .i64 (st k).N ∧ ndm = .int .i64 (st k).N ∧ dp = .int .i64 (st k).D ∧ wr = w.drewN n)
        case atStart => exact ⟨0, 0, Nat.zero_le _, by simp, rfl, by rw [HO.out.start]; rfl, rfl, rfl, by rw [HO.out.start], by rw [HO.out.start], by rw [HO.out.start]; rfl, by rw [HO.out.start]; rfl, by rw [HO.out.start], rfl⟩
        case round =>
          obtain ⟨k, n, hk, hgk, rfl, rfl, rfl, rfl, rfl, rfl, rfl, rfl, rfl, hwr⟩ := hrel
          have HW := Lib.hid hwr; clear hwr
          have HG := Lib.hid hgk; clear hgk
          by_cases hlt : k < s.size
          · have HS := HO.out.step k hlt
            have hbd := HO.out.bd k hk
            have hc : ∃ c : Nat, (s[k]'hlt).toNat = c := ⟨_, rfl⟩
            obtain ⟨c, hc⟩ := hc
            rw [hc] at HS
            obtain ⟨b, hb⟩ : ∃ b, st (k + 1) = b := ⟨_, rfl⟩
            rw [hb] at HS
            have HB := Lib.hid hb; clear hb
            generalize st k = a at HS hbd ⊢
            obtain ⟨M, N, D, dt, dg⟩ := a
            obtain ⟨bM, bN, bD1, bD2⟩ := hbd
            replace bM : M ≤ 1000000000000000000 := bM
            replace bN : N ≤ 18 := bN
            replace bD1 : -18 ≤ D := bD1
            replace bD2 : D ≤ 18 := bD2
            have HC := Lib.hid hc
            rcases HS with ⟨rfl, hdt, hbe⟩ | ⟨rfl, hN, hbe⟩ | ⟨c1, c2, c3, hbe⟩
            · have e1 : (((s[k]'hlt).toNat : Int) == 95) = false := by rw [hc]; rfl
              have e2 : (((s[k]'hlt).toNat : Int) == 46) = true := by rw [hc]; rfl
              have hdt' : dt = false := hdt
              subst hdt'
              clear hdt hc
              have HE := Lib.hid hbe; clear hbe
              go_wp2_with fail
              go_roundg (s.size - (k + 1))
              case measure => have := HG.out; omega
              case rel => exact ⟨k + 1, n, by omega, rfl, by go_num, by rw [HB.out, HE.out], rfl, rfl, by rw [HB.out, HE.out], by rw [HB.out, HE.out], by rw [HB.out, HE.out], by rw [HB.out, HE.out], by rw [HB.out, HE.out], HW.out⟩
            · have e1 : (((s[k]'hlt).toNat : Int) == 95) = false := by rw [hc]; rfl
              have e2 : (((s[k]'hlt).toNat : Int) == 46) = false := by rw [hc]; rfl
              have e3 : (48 : Int) ≤ ((s[k]'hlt).toNat : Int) := by rw [hc]; omega
              have e4 : ((s[k]'hlt).toNat : Int) ≤ 57 := by rw [hc]; omega
              have e5 : (((s[k]'hlt).toNat : Int) == 48) = true := by rw [hc]; rfl
              have hN' : N = 0 := hN
              subst hN'
              clear hN hc
              have HE := Lib.hid hbe; clear hbe
              go_wp2_with fail
              go_roundg (s.size - (k + 1))
              case measure => have := HG.out; omega
              case rel => exact ⟨k + 1, n, by omega, rfl, by go_num, by rw [HB.out, HE.out], rfl, rfl, by rw [HB.out, HE.out], by rw [HB.out, HE.out], by rw [HB.out, HE.out]; rfl, by rw [HB.out, HE.out]; rfl, by rw [HB.out, HE.out], HW.out⟩
            · have e1 : (((s[k]'hlt).toNat : Int) == 95) = false := by rw [hc, beq_eq_false_iff_ne]; omega
              have e2 : (((s[k]'hlt).toNat : Int) == 46) = false := by rw [hc, beq_eq_false_iff_ne]; omega
              have e3 : (48 : Int) ≤ ((s[k]'hlt).toNat : Int) := by rw [hc]; omega
              have e4 : ((s[k]'hlt).toNat : Int) ≤ 57 := by rw [hc]; omega
              have hnn : (N : Int) < 19 := by omega
              have HE := Lib.hid hbe; clear hbe
              cases hz : (((s[k]'hlt).toNat : Int) == 48)
              · clear hc c3
                go_wp2_with fail
                go_roundg (s.size - (k + 1))
                case measure => have := HG.out; omega
                case rel => exact ⟨k + 1, n, by omega, rfl, by go_num, by have := HC.out; rw [HB.out, HE.out]; go_num, rfl, rfl, by rw [HB.out, HE.out], by rw [HB.out, HE.out], by rw [HB.out, HE.out]; go_num, by rw [HB.out, HE.out]; go_num, by rw [HB.out, HE.out], HW.out⟩
              · have hNz : ((N : Int) == 0) = false := by
                  rw [beq_eq_false_iff_ne]; intro h0
                  have : ((s[k]'hlt).toNat : Int) = 48 := by simpa using hz
                  exact c3 ⟨by omega, by show N = 0; omega⟩
                clear hc c3
                go_wp2_with fail
                go_roundg (s.size - (k + 1))
                case measure => have := HG.out; omega
                case rel => exact ⟨k + 1, n, by omega, rfl, by go_num, by have := HC.out; rw [HB.out, HE.out]; go_num, rfl, rfl, by rw [HB.out, HE.out], by rw [HB.out, HE.out], by rw [HB.out, HE.out]; go_num, by rw [HB.out, HE.out]; go_num, by rw [HB.out, HE.out], HW.out⟩
          · have hke : k = s.size := by omega
            subst hke
            have hd := HO.out.fin
            obtain ⟨bM, bN, bD1, bD2⟩ := HO.out.bd s.size (Nat.le_refl _)
            have hnlt : ¬ ((s.size : Int) < (s.size : Int)) := by omega
            cases hdot : (st s.size).dot <;> cases hm : (((st s.size).M : Int) != 0)
            all_goals
              have HX := Lib.hid (rdExp_eq (st s.size))
              rw [hm, hdot] at HX
              go_wp2_with fail
              try rw [Exit.noGoto_ret]
              refine bodyPost_ret (v := .tuple #[.int .u64 (st s.size).M, .int .i64 (rdExp (st s.size)), .bool false, .bool false, .bool false, .int .i64 s.size, .bool true]) (by rw [HX.out]; simp [results, Tryd.results65, go_sem]) rfl ⟨rfl, n, HW.out⟩)
  exact main _ rfl _ rfl
end Go.Proofs.YtloaajoeciajaaaDoor
