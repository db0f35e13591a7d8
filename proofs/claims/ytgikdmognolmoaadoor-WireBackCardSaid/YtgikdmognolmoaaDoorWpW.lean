/- The law WireBack. -/
import Derived.Test.YtgikdmognolmoaaDoorWpV
namespace Go.Proofs.YtgikdmognolmoaaDoor
open Go.RowKit Go.Lib Go.Wq
set_option linter.unusedVariables false
set_option linter.unusedSimpArgs false
set_option maxRecDepth 100000

theorem dec_of_enc {sh : List UInt8} {fs : List Fld} (hok : ∀ y ∈ fs, Fine y) (h : (encSays sh fs).2 = 0) : decSays sh (encSays sh fs).1 = (fs, 0, 0) := by
  obtain ⟨its, h1, h2, h3⟩ := encSays_ok h
  exact dec_back h1 h2 (fun x hx => (hok x hx).1) h3
theorem enc_of_dec {sh s : List UInt8} (h : (decSays sh s).2.2 = 0) : encSays sh (decSays sh s).1 = (s, 0) := by
  obtain ⟨its, h1, h2, h3, h4⟩ := dec_only h
  unfold encSays
  rw [h1]
  simp only [h3]
  rw [if_neg (by omega)]
theorem mk_toList (s : ByteArray) : (⟨s.data.toList.toArray⟩ : ByteArray) = s := by cases s; rfl

set_option maxHeartbeats 2000000 in
theorem law_back (sh : ByteArray) (fs : List Fld) (fa : Option Addr) (fc : Nat) (s : ByteArray) (W : World) (hm : sh.size ≤ maxLen) (hs : sh.size ≤ 140737488351232) (hfs : FldsIn W W.heap.size fs fa fs.length) (hfine : ∀ y ∈ fs, Fine y) (hr : fs.length * 72 ≤ reachBytes) (hm2 : s.size ≤ maxLen) (hs2 : s.size ≤ 140737488351232) (hg : Handle W) :
    Calls Tryd.prog 4 #[.string sh, .slice fa fs.length fc, .string s] W fun e w' => e = .returned (.bool true) ∧ Below W.heap.size W w' := by
  have hR : reachBytes = 140737488351232 := rfl
  have hn : fs.length < 4611686018427387904 := by omega
  have C0 := Lib.hid (refLarge_any W.heap.size fs fa fc W hn hfs (fun y hy => (hfine y hy).2.2))
  have C1 := Lib.hid (wireEncode_any sh (by omega) fs fa fc W hg hfs hfine hn)
  have HX := Lib.hid (dec_of_enc (sh := sh.data.toList) hfine)
  have HXs : Hid ((encSays sh.data.toList fs).2 = 0 → (encSays sh.data.toList fs).1.length ≤ 65536) := Lib.hid (fun h => by obtain ⟨_, _, _, h⟩ := encSays_ok h; exact h)
  have C2 : Hid ((encSays sh.data.toList fs).2 = 0 → ∀ w, Below W.heap.size W w → Calls Tryd.prog 6 #[.string sh, .string ⟨(encSays sh.data.toList fs).1.toArray⟩] w (TellEnds (fs, 0, 0) w)) := Lib.hid (fun h w hb => by
    have h1 := wireDecode_any sh ⟨(encSays sh.data.toList fs).1.toArray⟩ hs (by have := HXs.out h; simp only [ByteArray.size, List.size_toArray]; omega) w (hg.below hb)
    simp only [] at h1
    rw [HX.out h] at h1
    exact h1)
  have C3 := Lib.hid (fun w (hb : Below W.heap.size W w) => wireDecode_any sh s hs hs2 w (hg.below hb))
  have F1 := Lib.hid (decSays_fine sh.data.toList s.data.toList)
  have HY := Lib.hid (enc_of_dec (sh := sh.data.toList) (s := s.data.toList))
  have C4 := Lib.hid (fun (a : Option Addr) (c : Nat) (w : World) (hb : Below W.heap.size W w) (hf : FldsIn w w.heap.size (decSays sh.data.toList s.data.toList).1 a (decSays sh.data.toList s.data.toList).1.length) => wireEncode_any sh (by omega) (decSays sh.data.toList s.data.toList).1 a c w (hg.below hb) hf F1.out.2 (by have := F1.out.1; omega))
  have C5 : Hid ((decSays sh.data.toList s.data.toList).2.2 = 0 → ∀ (a : Option Addr) (c : Nat) (w : World), Below W.heap.size W w → FldsIn w w.heap.size (decSays sh.data.toList s.data.toList).1 a (decSays sh.data.toList s.data.toList).1.length →
      Calls Tryd.prog 13 #[.string sh, .slice a (decSays sh.data.toList s.data.toList).1.length c] w fun e w' => e = .returned (.tuple #[.string s, .int .i64 0]) ∧ Below w.heap.size w w') := Lib.hid (fun h a c w hb hf => by
    have h1 := C4.out a c w hb hf
    rw [HY.out h] at h1
    simp only [mk_toList] at h1
    exact h1)
  have HZ := Lib.hid (decSays_zero (sh := sh.data.toList) (s := s.data.toList))
  have S1 := Lib.hid (fun (a : Option Addr) (c : Nat) (w : World) (hb : Below W.heap.size W w) (hf : FldsIn w w.heap.size fs a fs.length) => same_says fs fs w.heap.size fa fc a c w ((FldsIn.kept (B := W.heap.size) (fun k hk => hb.block k hk) _ _ _ hfs).kept_up hb.size) hf (Nat.le_refl _) hn hn (fun y hy => (hfine y hy).2.2) (fun y hy => (hfine y hy).2.2))
  have HG := Lib.hid hg
  generalize decSays sh.data.toList s.data.toList = D at *
  obtain ⟨dl, dn, de⟩ := D
  generalize (encSays sh.data.toList fs).2 = c1 at *
  generalize (encSays sh.data.toList fs).1 = x1 at *
  clear hg hm hs hfs hfine hr hm2 hs2 C4 HX HXs HY
  have AW : Hid (∀ w, Below W.heap.size W w → Calls Tryd.prog 11 #[] w fun e w' => e = .returned (.bool true) ∧ Below W.heap.size W w') := Lib.hid (fun w hb => (awake_any w (HG.out.below hb)).mono (fun e w' h => ⟨h.1, hb.trans (h.2.mono hb.size)⟩))
  -- what stands behind the first half, wherever it ended
  go_enter Tryd.func4, Tryd.ntmps4
  go_wp2_with fail
  refine C0.out.mono ?_
  rintro e w0 ⟨⟨lg, rfl⟩, rfl⟩
  cases lg with
  | true =>
    go_wp2_with fail
    refine (AW.out W (Below.refl _ _)).mono ?_
    rintro e w5 ⟨rfl, b5⟩
    go_wp2_with fail
    go_ret
    exact ⟨rfl, b5⟩
  | false =>
    go_wp2_with fail
    refine C1.out.mono ?_
    rintro e w1 ⟨rfl, b1⟩
    have B1 := Lib.hid b1
    clear b1
    by_cases h1 : c1 = 0
    · subst h1
      go_wp2_with fail
      refine (C2.out trivial w1 B1.out).mono ?_
      rintro e w2 ⟨b2, a2, c2, rfl, f2⟩
      have B2 := Lib.hid b2
      have W2 := Lib.hid (B1.out.trans (b2.mono B1.out.size))
      have G2 := Lib.hid f2
      clear b2 f2
      go_wp2_with fail
      refine (S1.out a2 c2 w2 W2.out (flds_in G2.out (Below.refl _ _))).mono ?_
      rintro e w3 ⟨⟨r, rfl, hr⟩, b3⟩
      obtain rfl : r = true := hr.2 rfl
      have W3 := Lib.hid (W2.out.trans (b3.mono W2.out.size))
      clear b3 hr
      go_wp2_with fail
      refine (C3.out w3 W3.out).mono ?_
      rintro e w4 ⟨b4, a4, c4, rfl, f4⟩
      have B4 := Lib.hid b4
      have W4 := Lib.hid (W3.out.trans (b4.mono W3.out.size))
      have G4 := Lib.hid f4
      clear b4 f4
      by_cases h4 : de = 0
      · subst h4
        go_wp2_with fail
        refine (C5.out trivial a4 c4 w4 W4.out (flds_in G4.out (Below.refl _ _))).mono ?_
        rintro e w5 ⟨rfl, b5⟩
        have W5 := Lib.hid (W4.out.trans (b5.mono W4.out.size))
        have hss : (s.toList == s.toList) = true := beq_self_eq_true _
        clear b5
        go_wp2_with fail
        refine (AW.out w5 W5.out).mono ?_
        rintro e w6 ⟨rfl, b6⟩
        go_wp2_with fail
        go_ret
        exact ⟨rfl, b6⟩
      · obtain rfl := HZ.out h4
        have d4 : ((de : Int) == 0) = false := by simp; omega
        go_wp2_with fail
        refine (AW.out w4 W4.out).mono ?_
        rintro e w6 ⟨rfl, b6⟩
        go_wp2_with fail
        go_ret
        exact ⟨rfl, b6⟩
    · have d1 : (c1 == 0) = false := by simp [h1]
      go_wp2_with fail
      refine (C3.out w1 B1.out).mono ?_
      obtain ⟨w3, hw3⟩ : ∃ w3, w3 = w1 := ⟨_, rfl⟩
      rw [← hw3]
      have W3 : Hid (Below W.heap.size W w3) := Lib.hid (by rw [hw3]; exact B1.out)
      clear hw3
      rintro e w4 ⟨b4, a4, c4, rfl, f4⟩
      have B4 := Lib.hid b4
      have W4 := Lib.hid (W3.out.trans (b4.mono W3.out.size))
      have G4 := Lib.hid f4
      clear b4 f4
      by_cases h4 : de = 0
      · subst h4
        go_wp2_with fail
        refine (C5.out trivial a4 c4 w4 W4.out (flds_in G4.out (Below.refl _ _))).mono ?_
        rintro e w5 ⟨rfl, b5⟩
        have W5 := Lib.hid (W4.out.trans (b5.mono W4.out.size))
        have hss : (s.toList == s.toList) = true := beq_self_eq_true _
        clear b5
        go_wp2_with fail
        refine (AW.out w5 W5.out).mono ?_
        rintro e w6 ⟨rfl, b6⟩
        go_wp2_with fail
        go_ret
        exact ⟨rfl, b6⟩
      · obtain rfl := HZ.out h4
        have d4 : ((de : Int) == 0) = false := by simp; omega
        go_wp2_with fail
        refine (AW.out w4 W4.out).mono ?_
        rintro e w6 ⟨rfl, b6⟩
        go_wp2_with fail
        go_ret
        exact ⟨rfl, b6⟩
end Go.Proofs.YtgikdmognolmoaaDoor
