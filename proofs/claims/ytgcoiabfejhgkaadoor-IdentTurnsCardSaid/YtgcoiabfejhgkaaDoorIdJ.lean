/- Order, whatever it is told; the law on who keeps a name. -/
import Derived.Test.YtgcoiabfejhgkaaDoorIdI
namespace Go.Proofs.YtgcoiabfejhgkaaDoor
open Go.RowKit Go.Lib Go.Iq Go.Sort
set_option linter.unusedVariables false

set_option maxHeartbeats 1000000 in
set_option maxRecDepth 100000 in
theorem order_no (a : Option Addr) (len cap : Nat) (zs : List Int) (s : ByteArray) (w : World) (hI : IsInts w a len zs) (hl : len * 8 ≤ 140737488351232) (hs : s.size ≤ 9223372036854775807) (hE : orderE s.data.toList zs ≠ 0) :
    Calls Tryd.prog 28 #[.slice a len cap, .string s] w fun e w' => e = .returned (.tuple #[.slice none 0 0, .int .i64 (orderE s.data.toList zs)]) ∧ Below w.heap.size w w' := by
  have HI := Lib.hid hI
  have HL := Lib.hid (fun w (h : IsInts w a len zs) => checkIds_any a len cap zs w h (by omega))
  clear hI
  cases hn : nameB s.data.toList
  · have h1 := Lib.hid (nameE_no hn)
    have h2 := Lib.hid (orderE_name (zs := zs) hn)
    clear hn hE
    rw [h2.out]
    go_enter Tryd.func28, Tryd.ntmps28
    go_wp2_with (first | (go_at_call 12; refine (checkName_any _ _ hs).mono ?_; rintro e w' ⟨rfl, rfl⟩; rw [h1.out]))
    go_ret2
    exact ⟨rfl, Below.refl _ _⟩
  · have h1 := Lib.hid (nameE_yes hn)
    rw [orderE_list hn] at hE ⊢
    have hne : (listE zs != 0) = true := by simpa using hE
    clear hn hE
    generalize listE zs = er at *
    go_enter Tryd.func28, Tryd.ntmps28
    go_wp2_with (first | (go_at_call 12; refine (checkName_any _ _ hs).mono ?_; rintro e w' ⟨rfl, rfl⟩; rw [h1.out]) | (go_at_call 42; refine (HL.out _ HI.out).mono ?_; rintro e w1 ⟨rfl, hb1⟩))
    go_ret2
    exact ⟨rfl, hb1⟩
set_option maxHeartbeats 1000000 in
set_option maxRecDepth 100000 in
theorem reforder_no (a : Option Addr) (len cap : Nat) (zs : List Int) (s : ByteArray) (w : World) (hI : IsInts w a len zs) (hl : len * 8 ≤ 140737488351232) (hs : s.size ≤ 9223372036854775807) (hE : orderE s.data.toList zs ≠ 0) :
    Calls Tryd.prog 29 #[.slice a len cap, .string s] w fun e w' => e = .returned (.tuple #[.slice none 0 0, .int .i64 (orderE s.data.toList zs)]) ∧ Below w.heap.size w w' := by
  have HI := Lib.hid hI
  have HL := Lib.hid (fun w (h : IsInts w a len zs) => reflist_any a len cap zs w h (by omega))
  clear hI
  cases hn : nameB s.data.toList
  · have h1 := Lib.hid (nameE_no hn)
    have h2 := Lib.hid (orderE_name (zs := zs) hn)
    clear hn hE
    rw [h2.out]
    go_enter Tryd.func29, Tryd.ntmps29
    go_wp2_with (first | (go_at_call 13; refine (refcheckName_any _ _ hs).mono ?_; rintro e w' ⟨rfl, rfl⟩; rw [h1.out]))
    go_ret2
    exact ⟨rfl, Below.refl _ _⟩
  · have h1 := Lib.hid (nameE_yes hn)
    rw [orderE_list hn] at hE ⊢
    have hne : (listE zs != 0) = true := by simpa using hE
    clear hn hE
    generalize listE zs = er at *
    go_enter Tryd.func29, Tryd.ntmps29
    go_wp2_with (first | (go_at_call 13; refine (refcheckName_any _ _ hs).mono ?_; rintro e w' ⟨rfl, rfl⟩; rw [h1.out]) | (go_at_call 45; refine (HL.out _ HI.out).mono ?_; rintro e w1 ⟨rfl, hb1⟩))
    go_ret2
    exact ⟨rfl, hb1⟩

/-- A slice that is nil or has an address and room. -/
def Fits (a : Option Addr) (len cap : Nat) : Prop := len ≤ cap ∧ (a = none → cap = 0)
theorem fits_own {w : World} {base : Nat} {e : TypeId} {a : Option Addr} {n cap : Nat} {xs : List Value} (h : w.ownsRow base e 1 (.slice a n cap) n xs) : Fits a n cap := by
  rcases h.2 with ⟨h1, h2⟩ | ⟨g, c, cur, h1, _, _, h2, _⟩
  · cases h1; exact ⟨Nat.le_refl _, fun _ => rfl⟩
  · cases h1; exact ⟨h2, fun h => by cases h⟩
theorem order_any (a : Option Addr) (len cap : Nat) (zs : List Int) (s : ByteArray) (w : World) (hI : IsInts w a len zs) (hl : len * 8 ≤ 140737488351232) (hs : s.size ≤ 9223372036854775807) :
    Calls Tryd.prog 28 #[.slice a len cap, .string s] w fun e w' => ∃ a' n' cap', e = .returned (.tuple #[.slice a' n' cap', .int .i64 (orderE s.data.toList zs)]) ∧ IsInts w' a' n' (orderR s.data.toList zs) ∧ Fits a' n' cap' ∧ Below w.heap.size w w' := by
  by_cases h0 : orderE s.data.toList zs = 0
  · obtain ⟨h1, h2⟩ := orderE_zero h0
    rw [orderR_ok h0, h0]
    refine (order_ok a len cap zs s w hI hl hs h1 h2).mono ?_
    rintro e w' ⟨a', cap', rfl, hown, hb⟩
    obtain ⟨x, y, e, _, hi⟩ := ints_of_own hown
    cases e
    exact ⟨_, _, _, rfl, hi, fits_own hown, hb⟩
  · rw [orderR_no h0]
    refine (order_no a len cap zs s w hI hl hs h0).mono ?_
    rintro e w' ⟨rfl, hb⟩
    exact ⟨none, 0, 0, rfl, isInts_nil _ _, ⟨Nat.le_refl _, fun _ => rfl⟩, hb⟩
theorem reforder_any (a : Option Addr) (len cap : Nat) (zs : List Int) (s : ByteArray) (w : World) (hI : IsInts w a len zs) (hl : len * 8 ≤ 140737488351232) (hs : s.size ≤ 9223372036854775807) :
    Calls Tryd.prog 29 #[.slice a len cap, .string s] w fun e w' => ∃ a' n' cap', e = .returned (.tuple #[.slice a' n' cap', .int .i64 (orderE s.data.toList zs)]) ∧ IsInts w' a' n' (orderR s.data.toList zs) ∧ Fits a' n' cap' ∧ Below w.heap.size w w' := by
  by_cases h0 : orderE s.data.toList zs = 0
  · obtain ⟨h1, h2⟩ := orderE_zero h0
    obtain ⟨h3, h4⟩ := listE_zero h2
    rw [orderR_ok h0, h0]
    refine (reforder_ok a len cap zs s w hI hl hs h1 h2).mono ?_
    rintro e w' ⟨v, L, rfl, hown, hW, hb⟩
    rw [wanted_unique hW (orderW_wanted _ _ h3 h4) (List.Perm.refl _)] at hown
    obtain ⟨x, y, rfl, _, hi⟩ := ints_of_own hown
    exact ⟨_, _, _, rfl, hi, fits_own hown, hb⟩
  · rw [orderR_no h0]
    refine (reforder_no a len cap zs s w hI hl hs h0).mono ?_
    rintro e w' ⟨rfl, hb⟩
    exact ⟨none, 0, 0, rfl, isInts_nil _ _, ⟨Nat.le_refl _, fun _ => rfl⟩, hb⟩

set_option maxHeartbeats 2000000 in
set_option maxRecDepth 100000 in
theorem law_draws (a : Option Addr) (len cap : Nat) (zs : List Int) (s : ByteArray) (W : World) (wz : IsInts W a len zs ∧ (∀ z ∈ zs, (Lit.int .i64 z).wf = true) ∧ (a = none → cap = 0)) (hl : len * 8 ≤ 140737488351232) (_ : s.size ≤ maxLen) (hs0 : s.size ≤ 140737488351232) :
    Calls Tryd.prog 6 #[.slice a len cap, .string s] W fun e w' => e = .returned (.bool true) ∧ Below W.heap.size W w' := by
  have hs : s.size ≤ 9223372036854775807 := by omega
  have HI := Lib.hid wz.1
  have HC := Lib.hid (fun w (h : IsInts w a len zs) => copied_any a len cap zs w h wz.2.2 (by omega))
  have HD := Lib.hid (fun a' cap' w (h : IsInts w a' len zs) => draw_any a' len cap' zs s w h (by omega) hs)
  have HDR := Lib.hid (fun w (h : IsInts w a len zs) => refdraw_any a len cap zs s w h (by omega) hs)
  have HO := Lib.hid (fun a' cap' w (h : IsInts w a' len zs) => order_any a' len cap' zs s w h hl hs)
  have HOR := Lib.hid (fun w (h : IsInts w a len zs) => reforder_any a len cap zs s w h hl hs)
  have HLe : Hid (∀ a' n' w, IsInts w a' n' (orderR s.data.toList zs) → n' ≤ 9223372036854775807) := Lib.hid (fun a' n' w h => by
    have h1 := h.1
    have h2 := orderR_le s.data.toList zs
    have := wz.1.1
    omega)
  clear wz
  generalize drawN s.data.toList zs = d1 at *
  generalize drawE s.data.toList zs = d2 at *
  generalize orderE s.data.toList zs = d3 at *
  generalize orderR s.data.toList zs = os at *
  have e1 : ((d1 : Int) == d1) = true := by simp
  have e2 : ((d2 : Int) == d2) = true := by simp
  have e3 : ((d3 : Int) == d3) = true := by simp
  go_enter Tryd.func6, Tryd.ntmps6
  go_wp2_with fail
  refine (HC.out _ HI.out).mono ?_
  rintro e w1 ⟨a1, cap1, rfl, hown1, hb1⟩
  have HI1 : Hid (IsInts w1 a1 len zs) := Lib.hid (by obtain ⟨x, y, e, _, hi⟩ := ints_of_own hown1; cases e; exact hi)
  have HB1 := Lib.hid hb1
  clear hown1 hb1
  go_wp2_with fail
  refine (HD.out _ _ _ HI1.out).mono ?_
  rintro e w2 ⟨rfl, hb2⟩
  have HB2 := Lib.hid (below_next HB1.out hb2)
  clear hb2
  go_wp2_with fail
  refine (HDR.out _ (HI.out.below HB2.out)).mono ?_
  rintro e w3 ⟨rfl, hb3⟩
  have HB3 := Lib.hid (below_next HB2.out hb3)
  clear hb3
  go_wp2_with fail
  refine (HC.out _ (HI.out.below HB3.out)).mono ?_
  rintro e w4 ⟨a4, cap4, rfl, hown4, hb4⟩
  have HI4 : Hid (IsInts w4 a4 len zs) := Lib.hid (by obtain ⟨x, y, e, _, hi⟩ := ints_of_own hown4; cases e; exact hi)
  have HB4 := Lib.hid (below_next HB3.out hb4)
  clear hown4 hb4
  go_wp2_with fail
  refine (HO.out _ _ _ HI4.out).mono ?_
  rintro e w5 ⟨a5, n5, cap5, rfl, hi5, _, hb5⟩
  have HI5 := Lib.hid hi5
  have HB5 := Lib.hid (below_next HB4.out hb5)
  clear hi5 hb5
  go_wp2_with fail
  refine (HOR.out _ (HI.out.below HB5.out)).mono ?_
  rintro e w6 ⟨a6, n6, cap6, rfl, hi6, _, hb6⟩
  have hi5 := HI5.out.below hb6
  have hle5 := HLe.out _ _ _ hi5
  obtain rfl : n6 = n5 := by rw [← hi6.1, ← hi5.1]
  have HS := Lib.hid (same_yes a5 a6 n6 cap5 cap6 os w6 hi5 hi6 hle5)
  have HB6 := Lib.hid (below_next HB5.out hb6)
  clear hi5 hi6 hb6 hle5
  go_wp2_with fail
  refine HS.out.mono ?_
  rintro e w7 ⟨rfl, n7, hw7⟩
  have HB7 : Hid (Below W.heap.size W w7) := Lib.hid (by rw [hw7]; exact below_drewN HB6.out _)
  clear hw7
  go_wp2_with (go_at_call 14; refine (awake_any _).mono ?_; rintro e w8 ⟨rfl, hb8⟩)
  go_ret
  exact ⟨rfl, below_next HB7.out hb8⟩
end Go.Proofs.YtgcoiabfejhgkaaDoor
