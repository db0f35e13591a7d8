/- Texts of numbers: the program's and the document's own. -/
import Derived.Test.YtgcoiabfejhgkaaDoorIdG
import Derived.Test.YtgcoiabfejhgkaaDoorIqT
import Derived.WalkSpells
import Derived.Lib.LaidTab
namespace Go.Proofs.YtgcoiabfejhgkaaDoor
open Go.RowKit Go.Lib Go.Iq Go.Sort
set_option linter.unusedVariables false

theorem cat_bytes (c : UInt8) (l : List UInt8) : (⟨#[c]⟩ : ByteArray) ++ ⟨l.toArray⟩ = ⟨(c :: l).toArray⟩ := by
  apply ByteArray.ext
  simp
theorem add_pre (c : UInt8) (l : List UInt8) (h : l.length ≤ 1000) (w : World) : (Op.stringOp .add ⟨#[c]⟩ ⟨l.toArray⟩).run Tryd.prog w = .ok (.string ⟨(c :: l).toArray⟩) w := by
  have hs : (⟨#[c]⟩ : ByteArray).size + (⟨l.toArray⟩ : ByteArray).size ≤ 9223372036854775807 := by
    have : (⟨l.toArray⟩ : ByteArray).size = l.length := by simp [ByteArray.size]
    have h2 : (⟨#[c]⟩ : ByteArray).size = 1 := rfl
    omega
  have := run_string_add_sum (P := Tryd.prog) w ⟨#[c]⟩ ⟨l.toArray⟩ hs
  rwa [cat_bytes] at this
theorem one_byte (c : UInt8) (x : Int) (hx : x = (c.toNat : Int)) (w : World) : (convert 67 9 (.slice (some ⟨w.heap.size, 0, none⟩) 1 1)).run Tryd.prog (w.alloc (.cells #[.int .u8 x] 5)) = .ok (.string ⟨#[c]⟩) (w.alloc (.cells #[.int .u8 x] 5)) := by
  subst hx
  exact run_convert_bytes_back (P := Tryd.prog) (w.alloc (.cells #[.int .u8 (c.toNat : Int)] 5)) 67 9 5 ⟨w.heap.size, 0, none⟩ 1 [c] Tryd.underlying67 Tryd.underlying5 Tryd.underlying9 (fun j hj => by
    have : j = 0 := by simp at hj; omega
    subst this
    simp [Addr.add])

theorem gPow : Tryd.prog.globalNamed "internal/strconv.uint64pow10" = some 0 := by kernel_rfl
abbrev Tab (w : World) : Prop := Lib.TabIs Tryd.prog w "internal/strconv.uint64pow10" .u64 Lib.pow10Tab
theorem tab_lt {w0 : World} (h : Tab w0) : 0 < w0.heap.size := block_lt (h.cell gPow 0 (by decide))
theorem tab_below {w w' : World} (h : Tab w) (hb : Below w.heap.size w w') : Tab w' := var?_below hb gPow (tab_lt h) h

set_option maxHeartbeats 1000000 in
set_option maxRecDepth 100000 in
theorem text_any (n : Int) (w : World) (hi : idB n = true) (ht : Tab w) : Calls Tryd.prog 15 #[.int .i64 n] w fun e w' => e = .returned (.tuple #[.string ⟨(textL n.toNat).toArray⟩, .int .i64 0]) ∧ Below w.heap.size w w' := by
  have hI := idB_iff.1 hi
  have h1 := Lib.hid (idE_yes hi)
  have hit : Lib.itoa n = decDigits n.toNat := by unfold Lib.itoa; rw [if_neg (by omega)]
  have HT := Lib.hid (Tryd.strconv_Itoa n (by omega) (by omega) w ht)
  rw [hit] at HT
  have HA := Lib.hid (fun w => add_pre 110 (decDigits n.toNat) (by have := dec_length n.toNat (by omega) (by omega); omega) w)
  clear hit hi ht
  unfold textL
  generalize decDigits n.toNat = ds at *
  have ha := HA.out
  go_enter Tryd.func15, Tryd.ntmps15
  go_wp2_with (first | (go_at_call 10; refine (checkId_any _ _).mono ?_; rintro e w' ⟨rfl, rfl⟩; rw [h1.out]) | (go_at_call 36; refine HT.out.mono ?_; rintro e w' ⟨rfl, k, os, rfl⟩))
  go_ret2
  exact ⟨rfl, below_grow (below_drewN (Below.refl _ _) k) os (Nat.le_refl _)⟩
set_option maxHeartbeats 1000000 in
theorem text_no (n : Int) (w : World) (hi : idB n = false) : Calls Tryd.prog 15 #[.int .i64 n] w fun e w' => e = .returned (.tuple #[.string ⟨#[]⟩, .int .i64 20]) ∧ w = w' := by
  have h1 := Lib.hid (idE_no hi)
  clear hi
  go_enter Tryd.func15, Tryd.ntmps15
  go_wp2_with (first | (go_at_call 10; refine (checkId_any _ _).mono ?_; rintro e w' ⟨rfl, rfl⟩; rw [h1.out]))
  go_ret2
  exact ⟨rfl, rfl⟩

set_option maxHeartbeats 1000000 in
set_option maxRecDepth 100000 in
theorem digits_any (n0 : Nat) (w : World) (hn : n0 ≤ 2147483647) : Calls Tryd.prog 37 #[.int .i64 n0] w fun e w' => e = .returned (.string ⟨(decDigits n0).toArray⟩) ∧ Below w.heap.size w w' := by
  have HL : Hid (∀ (n : Nat) (t : List UInt8), decDigits n ++ t = decDigits n0 → t.length ≤ 100) := Lib.hid (fun n t h => by
    have h1 : (decDigits n0).length ≤ 10 := by
      by_cases h0 : n0 < 10
      · rw [decDigits_one h0]; simp
      · exact dec_length n0 hn (by omega)
    rw [← h, List.length_append] at h1
    omega)
  go_enter Tryd.func37, Tryd.ntmps37
  go_wp2
  go_loopw [0, 3] (fun v s wr => ∃ (n : Nat) (t : List UInt8), n ≤ 2147483647 ∧ v = .int .i64 n ∧ s = .string ⟨t.toArray⟩ ∧ decDigits n ++ t = decDigits n0 ∧ Below w.heap.size w wr) (fun v _ _ => (intOf v).toNat)
  case atStart => exact ⟨n0, [], hn, rfl, rfl, by simp, Below.refl _ _⟩
  case round =>
    obtain ⟨n, t, hn', rfl, rfl, hd, hb⟩ := hrel
    have HD := Lib.hid hd
    have HB := Lib.hid hb
    have HT := Lib.hid (HL.out n t hd)
    clear hd hb
    by_cases h9 : 9 < n
    · have hcv := one_byte (UInt8.ofNat (48 + n % 10)) (48 + (n : Int) % 10) (by simp; omega) wr
      have ha := fun w => add_pre (UInt8.ofNat (48 + n % 10)) t (by have := HT.out; omega) w
      have HX : Hid (decDigits (n / 10) ++ (UInt8.ofNat (48 + n % 10) :: t) = decDigits n0) := Lib.hid (by
        have := HD.out
        rw [decDigits, dif_neg (by omega), List.append_assoc] at this
        exact this)
      generalize UInt8.ofNat (48 + n % 10) = c at *
      go_wp2
      go_roundw
      case rel => exact ⟨n / 10, c :: t, by omega, by rw [Int.natCast_ediv]; rfl, rfl, HX.out, HB.out.alloc HB.out.size _⟩
      case measure => simp [intOf]; omega
    · have hcv := one_byte (UInt8.ofNat (48 + n)) (48 + (n : Int)) (by simp; omega) wr
      have ha := fun w => add_pre (UInt8.ofNat (48 + n)) t (by have := HT.out; omega) w
      have HX : Hid (UInt8.ofNat (48 + n) :: t = decDigits n0) := Lib.hid (by
        have := HD.out
        rw [decDigits_one (by omega)] at this
        exact this)
      generalize UInt8.ofNat (48 + n) = c at *
      go_wp2
      go_ret
      exact ⟨by rw [← HX.out]; rfl, HB.out.alloc HB.out.size _⟩
theorem digits_text (n : Nat) (h1 : 1 ≤ n) (h2 : n ≤ 2147483647) : (decDigits n).length ≤ 1000 := by have := dec_length n h2 h1; omega

set_option maxHeartbeats 1000000 in
set_option maxRecDepth 100000 in
theorem reftext_any (n : Int) (w : World) (hi : idB n = true) : Calls Tryd.prog 16 #[.int .i64 n] w fun e w' => e = .returned (.tuple #[.string ⟨(textL n.toNat).toArray⟩, .int .i64 0]) ∧ Below w.heap.size w w' := by
  have hI := idB_iff.1 hi
  have h1 := Lib.hid (idE_yes hi)
  obtain ⟨u, rfl⟩ := Int.eq_ofNat_of_zero_le (show 0 ≤ n by omega)
  rw [Int.toNat_natCast]
  have HT := Lib.hid (fun w => digits_any u w (by omega))
  have ha := fun w => add_pre 110 (decDigits u) (digits_text u (by omega) (by omega)) w
  clear hi
  unfold textL
  generalize decDigits u = ds at *
  go_enter Tryd.func16, Tryd.ntmps16
  go_wp2_with (first | (go_at_call 11; refine (refcheckId_any _ _).mono ?_; rintro e w' ⟨rfl, rfl⟩; rw [h1.out]) | (go_at_call 37; refine (HT.out _).mono ?_; rintro e w1 ⟨rfl, hb1⟩))
  go_ret2
  exact ⟨rfl, hb1⟩
set_option maxHeartbeats 1000000 in
theorem reftext_no (n : Int) (w : World) (hi : idB n = false) : Calls Tryd.prog 16 #[.int .i64 n] w fun e w' => e = .returned (.tuple #[.string ⟨#[]⟩, .int .i64 20]) ∧ w = w' := by
  have h1 := Lib.hid (idE_no hi)
  clear hi
  go_enter Tryd.func16, Tryd.ntmps16
  go_wp2_with (first | (go_at_call 11; refine (refcheckId_any _ _).mono ?_; rintro e w' ⟨rfl, rfl⟩; rw [h1.out]))
  go_ret2
  exact ⟨rfl, rfl⟩
end Go.Proofs.YtgcoiabfejhgkaaDoor
