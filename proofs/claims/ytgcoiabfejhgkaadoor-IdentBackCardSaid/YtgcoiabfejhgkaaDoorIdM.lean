/- Parse: the program's and the document's own. -/
import Derived.Test.YtgcoiabfejhgkaaDoorIdL
namespace Go.Proofs.YtgcoiabfejhgkaaDoor
open Go.RowKit Go.Lib Go.Iq Go.Sort
set_option linter.unusedVariables false

theorem list_ne (D : ByteArray) (h : D.size ≠ 0) : D.data.toList ≠ [] := by
  intro e
  have hl : D.data.toList.length = D.size := by simp
  rw [e, List.length_nil] at hl
  omega
theorem digC_of {c : UInt8} (h : digB (c.toNat : Int) = true) : digC c = true := h
set_option maxHeartbeats 1000000 in
set_option maxRecDepth 100000 in
theorem parse_any (s : ByteArray) (w : World) : Calls Tryd.prog 17 #[.string s] w fun e w' => e = .returned (.tuple #[.int .i64 (parseN s.data.toList), .int .i64 (parseE s.data.toList)]) ∧ w = w' := by
  have HC := Lib.hid (fun w => Tryd.strings_CutPrefix s ⟨#[110]⟩ w)
  rw [show (⟨#[110]⟩ : ByteArray).data.toList = [110] from rfl] at HC
  cases hp : Lib.hasPrefix s.data.toList [110]
  · have h1 := Lib.hid (parse_no (parse_first hp))
    rw [hp] at HC
    generalize Lib.trimPrefix s.data.toList [110] = tr at *
    clear hp
    go_enter Tryd.func17, Tryd.ntmps17
    go_wp2_with (go_at_call 38; refine (HC.out _).mono ?_; rintro e w' ⟨rfl, rfl⟩)
    go_ret2
    exact ⟨ret_int2 h1.out.1.symm h1.out.2.symm, rfl⟩
  · obtain ⟨h2, h3⟩ := prefix_split hp
    rw [hp, h3] at HC
    have hpre := parseB_pre ⟨(s.data.toList.drop 1).toArray⟩
    rw [show (⟨(s.data.toList.drop 1).toArray⟩ : ByteArray).data.toList = s.data.toList.drop 1 by simp, ← h2] at hpre
    generalize hD : (⟨(s.data.toList.drop 1).toArray⟩ : ByteArray) = D at *
    rw [show s.data.toList.drop 1 = D.data.toList by rw [← hD]] at hpre h2
    have HP := Lib.hid hpre
    have HN : Hid (parseB s.data.toList = true → parseN s.data.toList = numN D.data.toList) := Lib.hid (fun h => by rw [(parse_ok h).1, h2]; rfl)
    generalize s.data.toList = l at *
    clear hp hpre hD h2 h3
    have no : Hid (parseB l = false → parseN l = 0 ∧ parseE l = 5) := Lib.hid parse_no
    by_cases hd0 : D.size = 0
    · have h1 := Lib.hid (no.out (by rw [HP.out]; simp [hd0]))
      go_enter Tryd.func17, Tryd.ntmps17
      go_wp2_with (go_at_call 38; refine (HC.out _).mono ?_; rintro e w' ⟨rfl, rfl⟩)
      go_ret2
      exact ⟨ret_int2 h1.out.1.symm h1.out.2.symm, rfl⟩
    · have hdp : 0 < D.size := by omega
      by_cases hd10 : 10 < D.size
      · have h1 := Lib.hid (no.out (by rw [HP.out, show decide (1 ≤ D.size ∧ D.size ≤ 10) = false by simp; omega]; simp))
        go_enter Tryd.func17, Tryd.ntmps17
        go_wp2_with (go_at_call 38; refine (HC.out _).mono ?_; rintro e w' ⟨rfl, rfl⟩)
        go_ret2
        exact ⟨ret_int2 h1.out.1.symm h1.out.2.symm, rfl⟩
      · have HP2 : Hid (parseB l = (!decide (D[0].toNat = 48) && D.data.toList.all digC && decide (numN D.data.toList ≤ 2147483647))) := Lib.hid (by
          rw [HP.out, show decide (1 ≤ D.size ∧ D.size ≤ 10) = true by simp; omega, getD_size D 0 hdp]; simp)
        clear HP
        cases h0 : ((D[0].toNat : Int) == 48)
        · have h0' : decide (D[0].toNat = 48) = false := by simp at h0; simp; omega
          rw [h0'] at HP2
          have HPl : Hid (D.data.toList.all digC = true → Plain D.data.toList) := Lib.hid (fun h => ⟨h, list_ne D (by omega), by rw [getD_size D 0 hdp]; intro e; rw [e] at h0; simp at h0⟩)
          clear h0'
          go_enter Tryd.func17, Tryd.ntmps17
          go_wp2_with (go_at_call 38; refine (HC.out _).mono ?_; rintro e w' ⟨rfl, rfl⟩)
          clear h0
          go_loop [6, 32] (fun v i => ∃ k : Nat, k ≤ D.size ∧ i = .int .i64 k ∧ v = .int .i64 (numN (D.data.toList.take k)) ∧ (D.data.toList.take k).all digC = true) (fun _ i => D.size - (intOf i).toNat)
          case atStart => exact ⟨0, Nat.zero_le _, rfl, rfl, rfl⟩
          case round =>
            obtain ⟨k, hk, rfl, rfl, ha⟩ := hrel
            have HA := Lib.hid ha
            have hbd := numN_bd (D.data.toList.take k) (by rw [List.length_take]; omega) ha
            clear ha
            by_cases hlt : k < D.size
            · have HS := Lib.hid (numN_step D k hlt)
              have HT := Lib.hid (allC_step D k hlt)
              have HB := Lib.hid (allC_bad D k hlt)
              generalize numN (D.data.toList.take k) = n at *
              cases hc : digB (D[k].toNat : Int)
              · have h1 := Lib.hid (no.out (by rw [HP2.out, HB.out hc]; simp))
                go_wp2_with (go_at_call 33; refine (isDigit_any _ _).mono ?_; rintro e w' ⟨rfl, rfl⟩; rw [hc])
                go_ret2
                exact ⟨ret_int2 h1.out.1.symm h1.out.2.symm, rfl⟩
              · have hcb := (digC_iff D[k]).1 hc
                have HX : Hid ((D.data.toList.take (k + 1)).all digC = true) := Lib.hid (by rw [HT.out, HA.out, digC_of hc]; rfl)
                have hcb1 : (48 : Int) ≤ D[k].toNat := by omega
                have hcb2 : (D[k].toNat : Int) ≤ 57 := by omega
                clear HB HT hcb
                go_wp2_with (go_at_call 33; refine (isDigit_any _ _).mono ?_; rintro e w' ⟨rfl, rfl⟩; rw [hc])
                go_round
                case rel => exact ⟨k + 1, by omega, by go_num, by rw [HS.out]; congr 1; omega, HX.out⟩
                case measure => simp [intOf]; omega
            · obtain rfl : k = D.size := by omega
              rw [List.take_of_length_le (by simp)] at hbd ⊢
              have HA2 : Hid (D.data.toList.all digC = true) := Lib.hid (by have := HA.out; rwa [List.take_of_length_le (by simp)] at this)
              have hp1 := numN_pos (HPl.out HA2.out)
              by_cases hmx : numN D.data.toList ≤ 2147483647
              · have hpb : parseB l = true := by rw [HP2.out, HA2.out]; simp [hmx]
                have h1 := Lib.hid (parse_ok hpb).2
                have h2 := Lib.hid (HN.out hpb)
                have h3 := Lib.hid (idE_yes (n := (numN D.data.toList : Int)) (idB_iff.2 (by omega)))
                clear hpb
                generalize numN D.data.toList = n at *
                go_wp2_with (go_at_call 10; refine (checkId_any _ _).mono ?_; rintro e w' ⟨rfl, rfl⟩; rw [h3.out])
                go_ret2
                exact ⟨ret_int2 h2.out.symm h1.out.symm, rfl⟩
              · have hpb : parseB l = false := by rw [HP2.out]; simp; omega
                have h1 := Lib.hid (parse_no hpb)
                have h3 := Lib.hid (idE_no (n := (numN D.data.toList : Int)) (by unfold idB; simp; omega))
                clear hpb
                generalize numN D.data.toList = n at *
                go_wp2_with (go_at_call 10; refine (checkId_any _ _).mono ?_; rintro e w' ⟨rfl, rfl⟩; rw [h3.out])
                go_ret2
                exact ⟨ret_int2 h1.out.1.symm h1.out.2.symm, rfl⟩
        · have h0' : decide (D[0].toNat = 48) = true := by simp at h0; simp; omega
          have h1 := Lib.hid (no.out (by rw [HP2.out, h0']; simp))
          clear h0'
          go_enter Tryd.func17, Tryd.ntmps17
          go_wp2_with (go_at_call 38; refine (HC.out _).mono ?_; rintro e w' ⟨rfl, rfl⟩)
          go_ret2
          exact ⟨ret_int2 h1.out.1.symm h1.out.2.symm, rfl⟩

set_option maxHeartbeats 1000000 in
set_option maxRecDepth 100000 in
theorem refparse_any (s : ByteArray) (w : World) (hs : s.size ≤ 9223372036854775807) : Calls Tryd.prog 18 #[.string s] w fun e w' => e = .returned (.tuple #[.int .i64 (parseN s.data.toList), .int .i64 (parseE s.data.toList)]) ∧ w = w' := by
  have hsz : s.data.toList.length = s.size := by simp
  have no : Hid (parseB s.data.toList = false → parseN s.data.toList = 0 ∧ parseE s.data.toList = 5) := Lib.hid parse_no
  by_cases hl2 : s.size < 2
  · have h1 := Lib.hid (no.out (by unfold parseB; rw [hsz, show decide (2 ≤ s.size ∧ s.size ≤ 11) = false by simp; omega]; rfl))
    clear hsz
    have hd : decide ((s.size : Int) < 2) = true := by simp; omega
    go_enter Tryd.func18, Tryd.ntmps18
    go_wp2
    go_ret2
    exact ⟨ret_int2 h1.out.1.symm h1.out.2.symm, rfl⟩
  · by_cases hl11 : 11 < s.size
    · have h1 := Lib.hid (no.out (by unfold parseB; rw [hsz, show decide (2 ≤ s.size ∧ s.size ≤ 11) = false by simp; omega]; rfl))
      clear hsz
      have hd : decide ((s.size : Int) < 2) = false := by simp; omega
      go_enter Tryd.func18, Tryd.ntmps18
      go_wp2
      go_ret2
      exact ⟨ret_int2 h1.out.1.symm h1.out.2.symm, rfl⟩
    · have h0 : 0 < s.size := by omega
      have h1s : 1 < s.size := by omega
      have hd : decide ((s.size : Int) < 2) = false := by simp; omega
      have hd2 : decide ((11 : Int) < s.size) = false := by simp; omega
      have HP : Hid (parseB s.data.toList = (decide (s[0].toNat = 110) && !decide (s[1].toNat = 48) && (s.data.toList.drop 1).all digC && decide (numN (s.data.toList.drop 1) ≤ 2147483647))) := Lib.hid (by
        unfold parseB
        rw [hsz, show decide (2 ≤ s.size ∧ s.size ≤ 11) = true by simp; omega, getD_size s 0 h0, getD_size s 1 h1s]; simp)
      clear hsz
      cases hn : ((s[0].toNat : Int) != 110)
      · cases hz : ((s[1].toNat : Int) == 48)
        · have HP2 : Hid (parseB s.data.toList = ((s.data.toList.drop 1).all digC && decide (numN (s.data.toList.drop 1) ≤ 2147483647))) := Lib.hid (by
            rw [HP.out, show decide (s[0].toNat = 110) = true by simp at hn; simp; omega, show decide (s[1].toNat = 48) = false by simp at hz; simp; omega]; simp)
          have HPl : Hid (parseB s.data.toList = true → parseN s.data.toList = numN (s.data.toList.drop 1) ∧ parseE s.data.toList = 0) := Lib.hid parse_ok
          clear HP
          have HSt : Hid (∀ k, k < s.size → 1 ≤ k → (s.data.toList.drop 1).take (k + 1 - 1) = (s.data.toList.drop 1).take (k - 1) ++ [s[k]!]) := Lib.hid (fun k h1 h2 => by
            rw [show k + 1 - 1 = (k - 1) + 1 by omega, List.take_succ_eq_append_getElem (by simp; omega), List.getElem_drop]
            congr 2
            rw [getElem!_pos s k h1]
            simp only [show 1 + (k - 1) = k by omega]
            rfl)
          go_enter Tryd.func18, Tryd.ntmps18
          go_wp2
          clear hn hz
          go_loop [4, 5] (fun v i => ∃ k : Nat, 1 ≤ k ∧ k ≤ s.size ∧ i = .int .i64 k ∧ v = .int .i64 (numN ((s.data.toList.drop 1).take (k - 1))) ∧ ((s.data.toList.drop 1).take (k - 1)).all digC = true) (fun _ i => s.size - (intOf i).toNat)
          case atStart => exact ⟨1, Nat.le_refl _, by omega, rfl, rfl, rfl⟩
          case round =>
            obtain ⟨k, hk1, hk, rfl, rfl, ha⟩ := hrel
            have HA := Lib.hid ha
            have hbd := numN_bd ((s.data.toList.drop 1).take (k - 1)) (by rw [List.length_take, List.length_drop]; simp; omega) ha
            clear ha
            by_cases hlt : k < s.size
            · have HS : Hid (numN ((s.data.toList.drop 1).take (k + 1 - 1)) = 10 * numN ((s.data.toList.drop 1).take (k - 1)) + (s[k].toNat - 48)) := Lib.hid (by rw [HSt.out k hlt hk1, numN_snoc, getElem!_pos s k hlt])
              have HT : Hid (((s.data.toList.drop 1).take (k + 1 - 1)).all digC = (((s.data.toList.drop 1).take (k - 1)).all digC && digC s[k])) := Lib.hid (by rw [HSt.out k hlt hk1, List.all_append, getElem!_pos s k hlt]; simp)
              have HB : Hid (digC s[k] = false → (s.data.toList.drop 1).all digC = false) := Lib.hid (fun h => by
                cases hall : (s.data.toList.drop 1).all digC
                · rfl
                · have h3 := List.all_eq_true.1 hall s[k] (by
                    rw [List.mem_iff_getElem?]
                    refine ⟨k - 1, ?_⟩
                    rw [List.getElem?_drop, show 1 + (k - 1) = k by omega, List.getElem?_eq_getElem (by simpa using hlt)]; rfl)
                  rw [h] at h3; cases h3)
              generalize numN ((s.data.toList.drop 1).take (k - 1)) = n at *
              cases hc : digB (s[k].toNat : Int)
              · have h1 := Lib.hid (no.out (by rw [HP2.out, HB.out hc]; rfl))
                go_wp2_with (go_at_call 35; refine (digit_any _ _).mono ?_; rintro e w' ⟨rfl, rfl⟩; rw [hc])
                go_ret2
                exact ⟨ret_int2 h1.out.1.symm h1.out.2.symm, rfl⟩
              · have hcb := (digC_iff s[k]).1 hc
                have HX : Hid (((s.data.toList.drop 1).take (k + 1 - 1)).all digC = true) := Lib.hid (by rw [HT.out, HA.out, digC_of hc]; rfl)
                have hcb1 : (48 : Int) ≤ s[k].toNat := by omega
                have hcb2 : (s[k].toNat : Int) ≤ 57 := by omega
                clear HB HT hcb
                go_wp2_with (go_at_call 35; refine (digit_any _ _).mono ?_; rintro e w' ⟨rfl, rfl⟩; rw [hc])
                go_round
                case rel => exact ⟨k + 1, by omega, by omega, by go_num, by rw [HS.out]; congr 1; omega, HX.out⟩
                case measure => simp [intOf]; omega
            · obtain rfl : k = s.size := by omega
              have ht : (s.data.toList.drop 1).take (s.size - 1) = s.data.toList.drop 1 := List.take_of_length_le (by simp)
              rw [ht] at hbd ⊢
              have HA2 : Hid ((s.data.toList.drop 1).all digC = true) := Lib.hid (by have := HA.out; rwa [ht] at this)
              clear ht
              by_cases hmx : numN (s.data.toList.drop 1) ≤ 2147483647
              · have h1 := Lib.hid (HPl.out (by rw [HP2.out, HA2.out, decide_eq_true hmx]; rfl))
                generalize numN (s.data.toList.drop 1) = n at *
                go_wp2
                go_ret2
                exact ⟨ret_int2 h1.out.1.symm h1.out.2.symm, rfl⟩
              · have h1 := Lib.hid (no.out (by rw [HP2.out, decide_eq_false hmx, Bool.and_false]))
                generalize numN (s.data.toList.drop 1) = n at *
                go_wp2
                go_ret2
                exact ⟨ret_int2 h1.out.1.symm h1.out.2.symm, rfl⟩
        · have h1 := Lib.hid (no.out (by rw [HP.out, show decide (s[1].toNat = 48) = true by simp at hz; simp; omega]; simp))
          go_enter Tryd.func18, Tryd.ntmps18
          go_wp2
          go_ret2
          exact ⟨ret_int2 h1.out.1.symm h1.out.2.symm, rfl⟩
      · have h1 := Lib.hid (no.out (by rw [HP.out, show decide (s[0].toNat = 110) = false by simp at hn; simp; omega]; simp))
        go_enter Tryd.func18, Tryd.ntmps18
        go_wp2
        go_ret2
        exact ⟨ret_int2 h1.out.1.symm h1.out.2.symm, rfl⟩
end Go.Proofs.YtgcoiabfejhgkaaDoor
