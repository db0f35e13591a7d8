/- Draw: the program's and the document's own. -/
import Derived.Test.YtgcoiabfejhgkaaDoorIdE
namespace Go.Proofs.YtgcoiabfejhgkaaDoor
open Go.RowKit Go.Lib Go.Iq
set_option linter.unusedVariables false

theorem ret_int2 {k k' : IntKind} {a b c d : Int} (h : a = b) (g : c = d) : Ending.returned (.tuple #[.int k a, .int k' c]) = .returned (.tuple #[.int k b, .int k' d]) := by rw [h, g]

set_option maxHeartbeats 1000000 in
set_option maxRecDepth 100000 in
theorem draw_any (a : Option Addr) (len cap : Nat) (zs : List Int) (s : ByteArray) (w : World) (hI : IsInts w a len zs) (hl : len * 8 ≤ 140737488355328) (hs : s.size ≤ 9223372036854775807) :
    Calls Tryd.prog 25 #[.slice a len cap, .string s] w fun e w' => e = .returned (.tuple #[.int .i64 (drawN s.data.toList zs), .int .i64 (drawE s.data.toList zs)]) ∧ Below w.heap.size w w' := by
  have HI := Lib.hid hI
  have HZ := Lib.hid hI.1
  have HL := Lib.hid (fun w (h : IsInts w a len zs) => checkIds_any a len cap zs w h hl)
  clear hI
  cases hn : nameB s.data.toList
  · have h1 := Lib.hid (nameE_no hn)
    have h2 := Lib.hid (drawE_name (zs := zs) hn)
    have h3 := Lib.hid (drawN_no (by rw [h2.out]; decide))
    clear hn
    go_enter Tryd.func25, Tryd.ntmps25
    go_wp2_with (first | (go_at_call 12; refine (checkName_any _ _ hs).mono ?_; rintro e w' ⟨rfl, rfl⟩; rw [h1.out]))
    go_ret2
    exact ⟨ret_int2 h3.out.symm h2.out.symm, Below.refl _ _⟩
  · have h1 := Lib.hid (nameE_yes hn)
    by_cases hE : listE zs = 0
    · obtain ⟨hA, hD⟩ := listE_zero hE
      by_cases hk : zs.length = 0
      · have h2 := Lib.hid (drawE_none hn hE hk)
        have h3 := Lib.hid (drawN_no (by rw [h2.out]; decide))
        have h4 := Lib.hid hE
        obtain rfl : len = 0 := by rw [← HZ.out]; exact hk
        clear hn hE hA hD hk
        go_enter Tryd.func25, Tryd.ntmps25
        go_wp2_with (first | (go_at_call 12; refine (checkName_any _ _ hs).mono ?_; rintro e w' ⟨rfl, rfl⟩; rw [h1.out]) | (go_at_call 42; refine (HL.out _ HI.out).mono ?_; rintro e w1 ⟨rfl, hb1⟩; rw [h4.out]))
        go_ret2
        exact ⟨ret_int2 h3.out.symm h2.out.symm, hb1⟩
      · have h2 := Lib.hid (drawE_ok hn hE hk)
        have h3 := Lib.hid (drawN_ok h2.out)
        have h4 := Lib.hid hE
        have hlen : 0 < len := by have := HZ.out; omega
        have HA := Lib.hid hA
        clear hn hE hA hD hk
        have hz : ((len : Int) == 0) = false := by simp; omega
        have HS := Lib.hid (fun w (h : IsInts w a len zs) => stirAll_any a len cap zs w h HA.out hl)
        have HK := Lib.hid (fun g w (h : IsPairs w g len (stirF zs) (stirH zs)) => keeper_any g len len zs s w h HZ.out (Nat.le_refl _) hlen HA.out (by omega) hs)
        go_enter Tryd.func25, Tryd.ntmps25
        go_wp2_with (first | (go_at_call 12; refine (checkName_any _ _ hs).mono ?_; rintro e w' ⟨rfl, rfl⟩; rw [h1.out]) | (go_at_call 42; refine (HL.out _ HI.out).mono ?_; rintro e w1 ⟨rfl, hb1⟩; rw [h4.out]) | (go_at_call 44; refine (HS.out _ (HI.out.below hb1)).mono ?_; rintro e w2 ⟨g, rfl, hp, hb2⟩; have HP := Lib.hid hp; clear hp) | (go_at_call 43; refine (HK.out _ _ HP.out).mono ?_; rintro e w3 ⟨rfl, hb3⟩))
        go_ret2
        exact ⟨ret_int2 h3.out.symm h2.out.symm, below_next (below_next hb1 hb2) hb3⟩
    · have h2 := Lib.hid (drawE_list hn hE)
      have h3 := Lib.hid (drawN_no (by rw [h2.out]; exact hE))
      have hne : (listE zs != 0) = true := by simpa using hE
      clear hn hE
      generalize listE zs = er at *
      go_enter Tryd.func25, Tryd.ntmps25
      go_wp2_with (first | (go_at_call 12; refine (checkName_any _ _ hs).mono ?_; rintro e w' ⟨rfl, rfl⟩; rw [h1.out]) | (go_at_call 42; refine (HL.out _ HI.out).mono ?_; rintro e w1 ⟨rfl, hb1⟩))
      go_ret2
      exact ⟨ret_int2 h3.out.symm h2.out.symm, hb1⟩

set_option maxHeartbeats 1000000 in
set_option maxRecDepth 100000 in
theorem refdraw_any (a : Option Addr) (len cap : Nat) (zs : List Int) (s : ByteArray) (w : World) (hI : IsInts w a len zs) (hl : len * 8 ≤ 140737488355328) (hs : s.size ≤ 9223372036854775807) :
    Calls Tryd.prog 27 #[.slice a len cap, .string s] w fun e w' => e = .returned (.tuple #[.int .i64 (drawN s.data.toList zs), .int .i64 (drawE s.data.toList zs)]) ∧ Below w.heap.size w w' := by
  have HI := Lib.hid hI
  have HZ := Lib.hid hI.1
  have HL := Lib.hid (fun w (h : IsInts w a len zs) => reflist_any a len cap zs w h hl)
  clear hI
  cases hn : nameB s.data.toList
  · have h1 := Lib.hid (nameE_no hn)
    have h2 := Lib.hid (drawE_name (zs := zs) hn)
    have h3 := Lib.hid (drawN_no (by rw [h2.out]; decide))
    clear hn
    go_enter Tryd.func27, Tryd.ntmps27
    go_wp2_with (first | (go_at_call 13; refine (refcheckName_any _ _ hs).mono ?_; rintro e w' ⟨rfl, rfl⟩; rw [h1.out]))
    go_ret2
    exact ⟨ret_int2 h3.out.symm h2.out.symm, Below.refl _ _⟩
  · have h1 := Lib.hid (nameE_yes hn)
    by_cases hE : listE zs = 0
    · obtain ⟨hA, hD⟩ := listE_zero hE
      by_cases hk : zs.length = 0
      · have h2 := Lib.hid (drawE_none hn hE hk)
        have h3 := Lib.hid (drawN_no (by rw [h2.out]; decide))
        have h4 := Lib.hid hE
        obtain rfl : len = 0 := by rw [← HZ.out]; exact hk
        clear hn hE hA hD hk
        go_enter Tryd.func27, Tryd.ntmps27
        go_wp2_with (first | (go_at_call 13; refine (refcheckName_any _ _ hs).mono ?_; rintro e w' ⟨rfl, rfl⟩; rw [h1.out]) | (go_at_call 45; refine (HL.out _ HI.out).mono ?_; rintro e w1 ⟨rfl, hb1⟩; rw [h4.out]))
        go_ret2
        exact ⟨ret_int2 h3.out.symm h2.out.symm, hb1⟩
      · have h2 := Lib.hid (drawE_ok hn hE hk)
        have h3 := Lib.hid (drawN_ok h2.out)
        have h4 := Lib.hid hE
        have hlen : 0 < len := by have := HZ.out; omega
        have HA := Lib.hid hA
        clear hn hE hA hD hk
        have hz : ((len : Int) == 0) = false := by simp; omega
        obtain ⟨b, off, rfl, hc⟩ := HI.out.2 hlen
        have HC := Lib.hid hc
        have hcb := block_lt (hc 0 hlen)
        clear hc
        have HB1 := Lib.hid (bestTo_one (sumI s.data.toList) zs (by rw [HZ.out]; exact hlen))
        have HMo := Lib.hid (fun x y (hx : idB x = true) (hy : idB y = true) w => more_any x y s hx hy hs w)
        generalize sumI s.data.toList = t at *
        obtain ⟨z00, hz00⟩ : ∃ z, zs.getD 0 0 = z := ⟨_, rfl⟩
        rw [hz00] at HB1
        have HZ0 := Lib.hid hz00; clear hz00
        go_enter Tryd.func27, Tryd.ntmps27
        go_wp2_with fail
        refine (refcheckName_any _ _ hs).mono ?_
        rintro e w' ⟨rfl, rfl⟩
        rw [h1.out]
        go_wp2_with fail
        refine (HL.out _ HI.out).mono ?_
        rintro e w1 ⟨rfl, hb1⟩
        rw [h4.out]
        have HW1 := Lib.hid hb1
        have hcc : ∀ i, i < len → w1.cell? ⟨b, off + i, none⟩ = some (.int .i64 (zs.getD i 0)) := fun i hi => (hb1.cell (p := ⟨b, off + i, none⟩) hcb).trans (HC.out i hi)
        have HC1 := Lib.hid hcc
        have hc0 : w1.cell? ⟨b, off, none⟩ = some (.int .i64 z00) := by rw [← HZ0.out]; exact hcc 0 hlen
        clear hcc hb1
        go_wp2
        go_loop [7, 8] (fun m i => ∃ k : Nat, k ≤ len ∧ i = .int .i64 k ∧ m = .int .i64 (bestTo t zs (if k = 0 then 1 else k))) (fun _ i => len - (intOf i).toNat)
        case atStart => exact ⟨0, Nat.zero_le _, rfl, by rw [if_pos rfl, HB1.out]⟩
        case round =>
          obtain ⟨k, hk, rfl, rfl⟩ := hrel
          by_cases hlt : k < len
          · have hck := HC1.out k hlt
            have hx := idB_at HA.out k (by rw [HZ.out]; exact hlt)
            have hy : idB (bestTo t zs (if k = 0 then 1 else k)) = true := List.all_eq_true.1 HA.out _ (bestTo_mem t zs _ (by split <;> omega) (by have := HZ.out; split <;> omega))
            have HS : Hid (bestTo t zs (if k + 1 = 0 then 1 else k + 1) = better t (bestTo t zs (if k = 0 then 1 else k)) (zs.getD k 0)) := Lib.hid (by
              rw [if_neg (by omega)]
              by_cases h0 : k = 0
              · subst h0
                rw [if_pos rfl, HB1.out, HZ0.out, better_no (more_irrefl _ _)]
              · rw [if_neg h0]; exact bestTo_succ t zs k (by omega) (by rw [HZ.out]; exact hlt))
            have HM := Lib.hid (HMo.out _ _ hx hy)
            have HC := Lib.hid hc0
            clear hx hy hc0
            generalize bestTo t zs (if k = 0 then 1 else k) = bb at *
            generalize zs.getD k 0 = z at *
            cases hm : moreB t z bb
            · have HS' := Lib.hid (HS.out.trans (better_no hm))
              go_wp2_with (go_at_call 46; refine (HM.out _).mono ?_; rintro e w' ⟨rfl, rfl⟩; rw [hm])
              go_round
              case rel => exact ⟨k + 1, by omega, by go_num, by rw [HS'.out]⟩
              case measure => simp [intOf]; omega
            · have HS' := Lib.hid (HS.out.trans (better_yes hm))
              go_wp2_with (go_at_call 46; refine (HM.out _).mono ?_; rintro e w' ⟨rfl, rfl⟩; rw [hm])
              go_round
              case rel => exact ⟨k + 1, by omega, by go_num, by rw [HS'.out]⟩
              case measure => simp [intOf]; omega
          · obtain rfl : k = len := by omega
            have HX : Hid (bestTo t zs k = bestOf t zs) := Lib.hid (by rw [← HZ.out, bestTo_all])
            go_wp2
            go_ret2
            exact ⟨ret_int2 (by rw [h3.out, ← HX.out]) h2.out.symm, HW1.out⟩
    · have h2 := Lib.hid (drawE_list hn hE)
      have h3 := Lib.hid (drawN_no (by rw [h2.out]; exact hE))
      have hne : (listE zs != 0) = true := by simpa using hE
      clear hn hE
      generalize listE zs = er at *
      go_enter Tryd.func27, Tryd.ntmps27
      go_wp2_with (first | (go_at_call 13; refine (refcheckName_any _ _ hs).mono ?_; rintro e w' ⟨rfl, rfl⟩; rw [h1.out]) | (go_at_call 45; refine (HL.out _ HI.out).mono ?_; rintro e w1 ⟨rfl, hb1⟩))
      go_ret2
      exact ⟨ret_int2 h3.out.symm h2.out.symm, hb1⟩
end Go.Proofs.YtgcoiabfejhgkaaDoor
