/- Lists of numbers: checkIds and the document's own list. -/
import Derived.Test.YtgcoiabfejhgkaaDoorIdB
import Derived.Test.YtgcoiabfejhgkaaDoorIqS
import Derived.Test.YtgcoiabfejhgkaaDoorShelf
namespace Go.Proofs.YtgcoiabfejhgkaaDoor
open Go.RowKit Go.Lib Go.Iq
set_option linter.unusedVariables false

theorem clone_any (a : Option Addr) (len cap : Nat) (zs : List Int) (w : World) (hI : IsInts w a len zs) (hl : len * 8 ≤ 140737488355328) :
    Calls Tryd.prog 51 #[.slice a len cap] w fun e w' => ∃ a' cap', e = .returned (.slice a' len cap') ∧ w'.ownsRow w.heap.size 3 1 (.slice a' len cap') len (zs.map (Value.int .i64)) ∧ Below w.heap.size w w' := by
  have key : ∀ {w1 : World} {v' : Value} {n : Nat}, w1.ownsRow w.heap.size 3 1 v' n (zs.map (Value.int .i64)) → v' ≠ .slice none 0 0 → ∃ a' cap', v' = .slice a' n cap' := by
    intro w1 v' n h hv
    obtain ⟨a', cap', e, _⟩ := ints_of_own h
    exact ⟨a', cap', e⟩
  cases a with
  | none =>
    have h0 : len = 0 := by
      rcases Nat.eq_zero_or_pos len with h | h
      · exact h
      · obtain ⟨b, off, h1, _⟩ := hI.2 h; cases h1
    subst h0
    have hz : zs = [] := List.eq_nil_of_length_eq_zero hI.1
    subst hz
    refine (Tryd.slices_Clone_int_nil 0 cap w).mono ?_
    rintro e w' ⟨rfl, rfl⟩
    exact ⟨none, 0, rfl, World.ownsRow_nil _ _ _ _, Below.refl _ _⟩
  | some x =>
    by_cases h0 : len = 0
    · subst h0
      have hz : zs = [] := List.eq_nil_of_length_eq_zero hI.1
      subst hz
      refine (Tryd.slices_Clone_int_zero x cap w).mono ?_
      rintro e w' ⟨v', rfl, h1, h2, h3⟩
      obtain ⟨a', cap', rfl⟩ := key h1 h2
      exact ⟨a', cap', rfl, h1, h3⟩
    · obtain ⟨b, off, hx, hc⟩ := hI.2 (by omega)
      cases hx
      refine (Tryd.slices_Clone_int b off len cap zs w (by rw [hI.1]; exact Nat.le_refl _) hl (fun j hj => hc j (by rw [← hI.1]; exact hj))).mono ?_
      rintro e w' ⟨v', rfl, h1, h2, h3⟩
      rw [List.take_of_length_le (by rw [hI.1]; exact Nat.le_refl _)] at h1
      obtain ⟨a', cap', rfl⟩ := key h1 h2
      exact ⟨a', cap', rfl, h1, h3⟩
theorem sort_any (base : Nat) (a : Option Addr) (len cap : Nat) (zs : List Int) (w : World) (hI : w.ownsRow base 3 1 (.slice a len cap) len (zs.map (Value.int .i64))) (hb : base ≤ w.heap.size) (hl : len * 8 ≤ 140737488355328) :
    Calls Tryd.prog 52 #[.slice a len cap] w fun e w' => e = .returned (.tuple #[]) ∧ IsInts w' a len (sortI zs) ∧ Below base w w' := by
  have hn : zs.length = len := by simpa using hI.1
  by_cases hv : (Value.slice a len cap) = .slice none 0 0
  · obtain ⟨rfl, rfl, rfl⟩ := Value.slice.inj hv
    have hz : zs = [] := List.eq_nil_of_length_eq_zero hn
    subst hz
    refine (Tryd.slices_Sort_int_none none 0 w).mono ?_
    rintro e w' ⟨rfl, rfl⟩
    exact ⟨rfl, ⟨sortI_length _, fun h => absurd h (by omega)⟩, Below.refl _ _⟩
  · obtain ⟨g, cap', he, h1, h2, _, _, _, hH⟩ := holds_of_ownsRow hI hv
    obtain ⟨rfl, _, rfl⟩ := Value.slice.inj he
    subst hn
    refine (Tryd.slices_Sort_int g 0 cap zs w hH h2 (by omega)).mono ?_
    rintro e w' ⟨rfl, q, os, rfl⟩
    obtain ⟨h3, h4⟩ := ints_sorted (q := q) (ys := sortI zs) os hI (sortI_length zs) h1
    exact ⟨rfl, h3, h4 hb⟩
set_option maxHeartbeats 1000000 in
set_option maxRecDepth 100000 in
theorem checkIds_any (a : Option Addr) (len cap : Nat) (zs : List Int) (w : World) (hI : IsInts w a len zs) (hl : len * 8 ≤ 140737488355328) :
    Calls Tryd.prog 42 #[.slice a len cap] w fun e w' => e = .returned (.int .i64 (listE zs)) ∧ Below w.heap.size w w' := by
  have HI := Lib.hid hI
  have HZ := Lib.hid hI.1
  clear hI
  go_enter Tryd.func42, Tryd.ntmps42
  go_wp2
  go_loop [10] (fun i => ∃ k : Nat, k ≤ len ∧ i = .int .i64 k ∧ (zs.take k).all idB = true) (fun i => len - (intOf i).toNat)
  case atStart => exact ⟨0, Nat.zero_le _, rfl, rfl⟩
  case round =>
    obtain ⟨k, hk, rfl, hr⟩ := hrel
    have HR := Lib.hid hr; clear hr
    by_cases hlt : k < len
    · have HT := Lib.hid (all_takeL zs k (by rw [HZ.out]; exact hlt))
      have HB := Lib.hid (all_badL zs k (by rw [HZ.out]; exact hlt))
      obtain ⟨b, off, rfl, hc⟩ := HI.out.2 (by omega)
      have hck := hc k hlt
      clear hc
      generalize zs.getD k 0 = z at *
      cases hz : idB z
      · have HE := Lib.hid (idE_no hz)
        have HN := Lib.hid (listE_id (HB.out hz))
        clear hz
        go_wp2_with (go_at_call 10; refine (checkId_any _ _).mono ?_; rintro e w' ⟨rfl, rfl⟩; rw [HE.out])
        go_ret
        exact ⟨ret_int HN.out.symm, Below.refl _ _⟩
      · have HE := Lib.hid (idE_yes hz)
        have HZ' := Lib.hid hz
        clear hz
        go_wp2_with (go_at_call 10; refine (checkId_any _ _).mono ?_; rintro e w' ⟨rfl, rfl⟩; rw [HE.out])
        go_round
        case rel => exact ⟨k + 1, by omega, by go_num, by rw [HT.out, HR.out, HZ'.out]; rfl⟩
        case measure => simp [intOf]; omega
    · obtain rfl : k = len := by omega
      have HA : Hid (zs.all idB = true) := Lib.hid (by have := HR.out; rwa [List.take_of_length_le (by rw [HZ.out]; exact Nat.le_refl _)] at this)
      clear hlt HR
      go_wp2_with fail
      refine (clone_any _ _ _ zs _ HI.out hl).mono ?_
      rintro e w1 ⟨a', cap', rfl, hown, hb1⟩
      have HO := Lib.hid hown; clear hown
      go_wp2_with fail
      refine (sort_any w.heap.size _ _ _ zs _ HO.out hb1.size hl).mono ?_
      rintro e w2 ⟨rfl, hS, hb2⟩
      have hbB : Below w.heap.size w w2 := hb1.trans hb2
      have HB := Lib.hid hbB
      have HS := Lib.hid hS
      have HL : Hid (w.heap.size ≤ w2.heap.size) := Lib.hid hbB.size
      clear hS hb1 hb2 hbB HO HI
      have HP := Lib.hid (sortI_pair zs)
      have HD := Lib.hid (nodup_perm (sortI_perm zs))
      have HK : Hid ((sortI zs).length = k) := Lib.hid (by rw [sortI_length, HZ.out])
      generalize sortI zs = ss at *
      go_wp2
      go_loopw [7] (fun i wr => ∃ j n : Nat, 1 ≤ j ∧ i = .int .i64 j ∧ (∀ m, 0 < m → m < j → m < ss.length → ss.getD m 0 ≠ ss.getD (m - 1) 0) ∧ wr = w2.drewN n) (fun i _ => k + 1 - (intOf i).toNat)
      case atStart => exact ⟨1, 0, Nat.le_refl _, rfl, fun m h1 h2 => absurd h2 (by omega), rfl⟩
      case round =>
        obtain ⟨j, n, hj, rfl, hq, hwr⟩ := hrel
        have HQ := Lib.hid hq; clear hq
        by_cases hlt : j < k
        · obtain ⟨b, off, rfl, hc⟩ := HS.out.2 (by omega)
          have c1 : wr.cell? ⟨b, off + j, none⟩ = some (.int .i64 (ss.getD j 0)) := by rw [hwr]; exact hc j hlt
          have c2 : wr.cell? ⟨b, off + (j - 1), none⟩ = some (.int .i64 (ss.getD (j - 1) 0)) := by rw [hwr]; exact hc (j - 1) (by omega)
          clear hc
          have HW := Lib.hid hwr; clear hwr
          have HX : Hid (ss.getD j 0 = ss.getD (j - 1) 0 → nodupB ss = false) := Lib.hid (fun h => dup_adj j (by omega) (by rw [HK.out]; exact hlt) h)
          have HY : Hid (ss.getD j 0 ≠ ss.getD (j - 1) 0 → ∀ m, 0 < m → m < j + 1 → m < ss.length → ss.getD m 0 ≠ ss.getD (m - 1) 0) := Lib.hid (fun h m h1 h2 h3 => by
            by_cases e : m = j
            · subst e; exact h
            · exact HQ.out m h1 (by omega) h3)
          clear HQ
          generalize ss.getD j 0 = x at *
          generalize ss.getD (j - 1) 0 = y at *
          by_cases hxy : x = y
          · subst hxy
            have hbx : ((x : Int) == x) = true := by simp
            have HN := Lib.hid (listE_dup HA.out (by rw [← HD.out]; exact HX.out rfl))
            go_wp2
            go_quiet (fail)
            go_wp2
            go_ret
            exact ⟨ret_int HN.out.symm, by rw [HW.out]; exact below_drewN (below_drewN HB.out _) _⟩
          · have hbx : ((x : Int) == y) = false := by simpa using hxy
            have HY' := Lib.hid (HY.out hxy)
            clear HX HY
            go_wp2
            go_quiet (fail)
            go_wp2
            go_roundw
            case rel => exact ⟨j + 1, _, by omega, by go_num, HY'.out, by rw [HW.out, World.drewN_drewN]⟩
            case measure => simp [intOf]; omega
        · have HN := Lib.hid (listE_ok HA.out (by rw [← HD.out]; exact nodup_adj HP.out (fun m h1 h2 => HQ.out m h1 (by have := HK.out; omega) h2)))
          have HW := Lib.hid hwr; clear hwr
          go_wp2
          go_ret
          exact ⟨ret_int HN.out.symm, by rw [HW.out]; exact below_drewN HB.out _⟩


set_option maxHeartbeats 1000000 in
set_option maxRecDepth 100000 in
theorem reflist_any (a : Option Addr) (len cap : Nat) (zs : List Int) (w : World) (hI : IsInts w a len zs) (hl : len * 8 ≤ 140737488355328) :
    Calls Tryd.prog 45 #[.slice a len cap] w fun e w' => e = .returned (.int .i64 (listE zs)) ∧ Below w.heap.size w w' := by
  have HI := Lib.hid hI
  have HZ := Lib.hid hI.1
  clear hI
  go_enter Tryd.func45, Tryd.ntmps45
  go_wp2
  go_loop [3] (fun i => ∃ k : Nat, k ≤ len ∧ i = .int .i64 k ∧ (zs.take k).all idB = true) (fun i => len - (intOf i).toNat)
  case atStart => exact ⟨0, Nat.zero_le _, rfl, rfl⟩
  case round =>
    obtain ⟨k, hk, rfl, hr⟩ := hrel
    have HR := Lib.hid hr; clear hr
    by_cases hlt : k < len
    · have HT := Lib.hid (all_takeL zs k (by rw [HZ.out]; exact hlt))
      have HB := Lib.hid (all_badL zs k (by rw [HZ.out]; exact hlt))
      obtain ⟨b, off, rfl, hc⟩ := HI.out.2 (by omega)
      have hck := hc k hlt
      clear hc
      generalize zs.getD k 0 = z at *
      cases hz : idB z
      · have HE := Lib.hid (idE_no hz)
        have HN := Lib.hid (listE_id (HB.out hz))
        clear hz
        go_wp2_with (go_at_call 11; refine (refcheckId_any _ _).mono ?_; rintro e w' ⟨rfl, rfl⟩; rw [HE.out])
        go_ret
        exact ⟨ret_int HN.out.symm, Below.refl _ _⟩
      · have HE := Lib.hid (idE_yes hz)
        have HZ' := Lib.hid hz
        clear hz
        go_wp2_with (go_at_call 11; refine (refcheckId_any _ _).mono ?_; rintro e w' ⟨rfl, rfl⟩; rw [HE.out])
        go_round
        case rel => exact ⟨k + 1, by omega, by go_num, by rw [HT.out, HR.out, HZ'.out]; rfl⟩
        case measure => simp [intOf]; omega
    · obtain rfl : k = len := by omega
      have HA : Hid (zs.all idB = true) := Lib.hid (by have := HR.out; rwa [List.take_of_length_le (by rw [HZ.out]; exact Nat.le_refl _)] at this)
      clear hlt HR
      go_wp2
      go_loopw [5] (fun i wr => ∃ j n : Nat, j ≤ k ∧ i = .int .i64 j ∧ (∀ x y, y < x → x < j → zs.getD y 0 ≠ zs.getD x 0) ∧ wr = w.drewN n) (fun i _ => k - (intOf i).toNat)
      case atStart => exact ⟨0, 0, Nat.zero_le _, rfl, fun x y _ h2 => absurd h2 (by omega), rfl⟩
      case round =>
        obtain ⟨j, n, hj, rfl, hq, hwr⟩ := hrel
        have HQ := Lib.hid hq; clear hq
        obtain ⟨wo, rfl⟩ : ∃ wo : World, wo = wr := ⟨_, rfl⟩
        have HW' := Lib.hid hwr; clear hwr
        by_cases hlt : j < k
        · go_wp2
          go_loopw [6] (fun i wi => ∃ m q : Nat, m ≤ j ∧ i = .int .i64 m ∧ (∀ y, y < m → zs.getD y 0 ≠ zs.getD j 0) ∧ wi = w.drewN q) (fun i _ => j - (intOf i).toNat)
          case atStart => exact ⟨0, n, Nat.zero_le _, rfl, fun y h2 => absurd h2 (by omega), HW'.out⟩
          case round =>
            obtain ⟨m, q, hm, rfl, hq, hwi⟩ := hrel
            have HQ2 := Lib.hid hq; clear hq
            by_cases hlt2 : m < j
            · obtain ⟨b, off, rfl, hc⟩ := HI.out.2 (by omega)
              have c1 : wr.cell? ⟨b, off + j, none⟩ = some (.int .i64 (zs.getD j 0)) := by rw [hwi]; exact hc j hlt
              have c2 : wr.cell? ⟨b, off + m, none⟩ = some (.int .i64 (zs.getD m 0)) := by rw [hwi]; exact hc m (by omega)
              clear hc
              have HW2 := Lib.hid hwi; clear hwi
              have HX : Hid (zs.getD m 0 = zs.getD j 0 → nodupB zs = false) := Lib.hid (fun h => dup_at j m hlt2 (by rw [HZ.out]; exact hlt) h)
              have HY : Hid (zs.getD m 0 ≠ zs.getD j 0 → ∀ y, y < m + 1 → zs.getD y 0 ≠ zs.getD j 0) := Lib.hid (fun h y h1 => by
                by_cases e : y = m
                · subst e; exact h
                · exact HQ2.out y (by omega))
              clear HQ2
              generalize zs.getD j 0 = x at *
              generalize zs.getD m 0 = y at *
              by_cases hxy : y = x
              · subst hxy
                have hbx : ((y : Int) == y) = true := by simp
                have HN := Lib.hid (listE_dup HA.out (HX.out rfl))
                go_wp2
                go_quiet (fail)
                go_wp2
                go_ret
                exact ⟨ret_int HN.out.symm, by rw [HW2.out]; exact below_drewN (below_drewN (Below.refl _ _) _) _⟩
              · have hbx : ((y : Int) == x) = false := by simpa using hxy
                have HY' := Lib.hid (HY.out hxy)
                clear HX HY
                go_wp2
                go_quiet (fail)
                go_wp2
                go_roundw
                case rel => exact ⟨m + 1, _, by omega, by go_num, HY'.out, by rw [HW2.out, World.drewN_drewN]⟩
                case measure => simp [intOf]; omega
            · obtain rfl : m = j := by omega
              have HW2 := Lib.hid hwi; clear hwi
              go_wp2
              go_roundw
              case rel =>
                exact ⟨m + 1, q, by omega, by go_num, fun x y h1 h2 => by
                  by_cases e : x = m
                  · subst e; exact HQ2.out y h1
                  · exact HQ.out x y h1 (by omega), HW2.out⟩
              case measure => simp [intOf]; omega
        · obtain rfl : j = k := by omega
          have HN := Lib.hid (listE_ok HA.out (nodup_at (fun i k h1 h2 => HQ.out i k h1 (by have := HZ.out; omega))))
          go_wp2
          go_ret
          exact ⟨ret_int HN.out.symm, by rw [HW'.out]; exact below_drewN (Below.refl _ _) _⟩
end Go.Proofs.YtgcoiabfejhgkaaDoor
