/- The law WireHeads. -/
import Derived.Test.YtgikdmognolmoaaDoorWpW
namespace Go.Proofs.YtgikdmognolmoaaDoor
open Go.RowKit Go.Lib Go.Wq
set_option linter.unusedVariables false
set_option linter.unusedSimpArgs false
set_option maxRecDepth 100000

theorem head_of_enc {sh r : List UInt8} {fs : List Fld} (hok : ∀ y ∈ fs, Fine y) (h : (encSays sh fs).2 = 0) (hl : (encSays sh fs).1.length + r.length ≤ 65536) : headSays sh ((encSays sh fs).1 ++ r) = (fs, (encSays sh fs).1.length, 0) := by
  obtain ⟨its, h1, h2, h3⟩ := encSays_ok h
  exact head_back h1 h2 (fun x hx => (hok x hx).1) hl

set_option maxHeartbeats 2000000 in
theorem law_heads (sh : ByteArray) (fs : List Fld) (fa : Option Addr) (fc : Nat) (s : ByteArray) (W : World) (hm : sh.size ≤ maxLen) (hs : sh.size ≤ 140737488351232) (hfs : FldsIn W W.heap.size fs fa fs.length) (hfine : ∀ y ∈ fs, Fine y) (hr : fs.length * 72 ≤ reachBytes) (hm2 : s.size ≤ maxLen) (hs2 : s.size ≤ 140737488351232) (hg : Handle W) :
    Calls Tryd.prog 5 #[.string sh, .slice fa fs.length fc, .string s] W fun e w' => e = .returned (.bool true) ∧ Below W.heap.size W w' := by
  have hR : reachBytes = 140737488351232 := rfl
  have hn : fs.length < 4611686018427387904 := by omega
  have C0 := Lib.hid (refLarge_any W.heap.size fs fa fc W hn hfs (fun y hy => (hfine y hy).2.2))
  have C1 := Lib.hid (wireEncode_any sh (by omega) fs fa fc W hg hfs hfine hn)
  have HXs : Hid ((encSays sh.data.toList fs).2 = 0 → (encSays sh.data.toList fs).1.length ≤ 65536) := Lib.hid (fun h => by obtain ⟨_, _, _, h⟩ := encSays_ok h; exact h)
  have C2 : Hid ((encSays sh.data.toList fs).2 = 0 → (encSays sh.data.toList fs).1.length + s.size ≤ 65536 → ∀ w, Below W.heap.size W w → Calls Tryd.prog 8 #[.string sh, .string ((⟨(encSays sh.data.toList fs).1.toArray⟩ : ByteArray) ++ s)] w (TellEnds (fs, (encSays sh.data.toList fs).1.length, 0) w)) := Lib.hid (fun h h2 w hb => by
    have hl : s.data.toList.length = s.size := Array.length_toList
    have hd : ((⟨(encSays sh.data.toList fs).1.toArray⟩ : ByteArray) ++ s).data.toList = (encSays sh.data.toList fs).1 ++ s.data.toList := by simp
    have hz : ((⟨(encSays sh.data.toList fs).1.toArray⟩ : ByteArray) ++ s).size = (encSays sh.data.toList fs).1.length + s.size := by
      have := congrArg List.length hd
      rw [List.length_append, hl, Array.length_toList] at this
      exact this
    have h1 := wireHead_any sh ((⟨(encSays sh.data.toList fs).1.toArray⟩ : ByteArray) ++ s) hs (by omega) w (hg.below hb)
    rw [hd, head_of_enc hfine h (by omega)] at h1
    exact h1)
  have S1 := Lib.hid (fun (a : Option Addr) (c : Nat) (w : World) (hb : Below W.heap.size W w) (hf : FldsIn w w.heap.size fs a fs.length) => same_says fs fs w.heap.size fa fc a c w ((FldsIn.kept (B := W.heap.size) (fun k hk => hb.block k hk) _ _ _ hfs).kept_up hb.size) hf (Nat.le_refl _) hn hn (fun y hy => (hfine y hy).2.2) (fun y hy => (hfine y hy).2.2))
  have HG := Lib.hid hg
  have hxz : (⟨(encSays sh.data.toList fs).1.toArray⟩ : ByteArray).size = (encSays sh.data.toList fs).1.length := by simp only [ByteArray.size, List.size_toArray]
  generalize (encSays sh.data.toList fs).2 = c1 at *
  generalize (encSays sh.data.toList fs).1 = x1 at *
  obtain ⟨n1, hn1⟩ : ∃ n1, n1 = x1.length := ⟨_, rfl⟩
  obtain ⟨X, hX⟩ : ∃ X : ByteArray, X = ⟨x1.toArray⟩ := ⟨_, rfl⟩
  rw [← hX] at C1 C2 hxz
  rw [← hn1] at C2 hxz HXs
  have HXZ := Lib.hid hxz
  clear hg hm hs hfs hfine hr hm2 hX hn1 hxz
  have AW : Hid (∀ w, Below W.heap.size W w → Calls Tryd.prog 11 #[] w fun e w' => e = .returned (.bool true) ∧ Below W.heap.size W w') := Lib.hid (fun w hb => (awake_any w (HG.out.below hb)).mono (fun e w' h => ⟨h.1, hb.trans (h.2.mono hb.size)⟩))
  go_enter Tryd.func5, Tryd.ntmps5
  go_wp2_with fail
  refine C0.out.mono ?_
  rintro e w0 ⟨⟨lg, rfl⟩, rfl⟩
  cases lg with
  | true =>
    go_wp2_with fail
    refine (AW.out W (Below.refl _ _)).mono ?_
    rintro e w5 ⟨rfl, b5⟩
    go_wp2_with fail
    go_ret
    exact ⟨rfl, b5⟩
  | false =>
    by_cases hbig : (65536 : Int) < (s.size : Int)
    · go_wp2_with fail
      refine (AW.out W (Below.refl _ _)).mono ?_
      rintro e w5 ⟨rfl, b5⟩
      go_wp2_with fail
      go_ret
      exact ⟨rfl, b5⟩
    · go_wp2_with fail
      refine C1.out.mono ?_
      rintro e w1 ⟨rfl, b1⟩
      have B1 := Lib.hid b1
      clear b1
      by_cases h1 : c1 = 0
      · subst h1
        have hx6 := HXs.out rfl
        obtain ⟨Z, hZ⟩ : ∃ Z : Nat, X.size = Z := ⟨_, rfl⟩
        have hZn : Z = n1 := by rw [← hZ]; exact HXZ.out
        have hsum : IntKind.i64.wrap ((X.size : Int) + (s.size : Int)) = (Z : Int) + (s.size : Int) := by rw [hZ]; rw [IntKind.wrap_i64]; omega
        by_cases hfit : (65536 : Int) < (Z : Int) + (s.size : Int)
        · go_wp2_with fail
          refine (AW.out w1 B1.out).mono ?_
          rintro e w5 ⟨rfl, b5⟩
          go_wp2_with fail
          go_ret
          exact ⟨rfl, b5⟩
        · have HC2 := Lib.hid (C2.out rfl (by omega) w1 B1.out)
          have hnn : ((n1 : Int) == (X.size : Int)) = true := by rw [hZ, hZn]; exact beq_self_eq_true _
          go_wp2_with fail
          refine HC2.out.mono ?_
          rintro e w2 ⟨b2, a2, c2, rfl, f2⟩
          have B2 := Lib.hid b2
          have W2 := Lib.hid (B1.out.trans (b2.mono B1.out.size))
          have G2 := Lib.hid f2
          clear b2 f2
          go_wp2_with fail
          refine (S1.out a2 c2 w2 W2.out (flds_in G2.out (Below.refl _ _))).mono ?_
          rintro e w3 ⟨⟨r, rfl, hr⟩, b3⟩
          obtain rfl : r = true := hr.2 rfl
          have W3 := Lib.hid (W2.out.trans (b3.mono W2.out.size))
          clear b3 hr
          go_wp2_with fail
          refine (AW.out w3 W3.out).mono ?_
          rintro e w5 ⟨rfl, b5⟩
          go_wp2_with fail
          go_ret
          exact ⟨rfl, b5⟩
      · have d1 : (c1 != 0) = true := by simp [h1]
        go_wp2_with fail
        refine (AW.out w1 B1.out).mono ?_
        rintro e w5 ⟨rfl, b5⟩
        go_wp2_with fail
        go_ret
        exact ⟨rfl, b5⟩
end Go.Proofs.YtgikdmognolmoaaDoor
