/- What the four readers tell: the law WireDecodes. -/
import Derived.Test.YtgikdmognolmoaaDoorWpU
import Derived.Test.YtgikdmognolmoaaDoorWsI
import Derived.Test.YtgikdmognolmoaaDoorWpK
import Derived.Test.YtgikdmognolmoaaDoorWqAll
namespace Go.Proofs.YtgikdmognolmoaaDoor
open Go.RowKit Go.Lib Go.Wq
set_option linter.unusedVariables false
set_option linter.unusedSimpArgs false
set_option maxRecDepth 100000

theorem headSays_fine (sh s : List UInt8) : (headSays sh s).1.length ≤ 256 ∧ ∀ y ∈ (headSays sh s).1, Fine y := by
  by_cases h : (headSays sh s).2.2 = 0
  · obtain ⟨its, h1, h2, h3⟩ := headSays_ok h
    have h4 := headSays_at h
    obtain ⟨a, ha, hok, hat, hq⟩ := only_all s (by omega) its (shape_ok h1) _ _ _ h3
    obtain ⟨h256, hsm⟩ := shape_sm h1
    have h5 := encAll_len ha
    exact ⟨by omega, fun y hy => ⟨hok y hy, all_fine its _ a (shape_ok h1) hsm ha (by omega) y hy⟩⟩
  · rw [headSays_zero h]; simp
theorem decSays_fine (sh s : List UInt8) : (decSays sh s).1.length ≤ 256 ∧ ∀ y ∈ (decSays sh s).1, Fine y := by
  unfold decSays
  split
  · simp
  · split
    · simp
    · exact headSays_fine sh s
theorem flds_in {w w' : World} {base : Nat} {l : List Fld} {a : Option Addr} {n : Nat} (h : FldsS w (New base w) l a n) (hb : Below w.heap.size w w') : FldsIn w' w'.heap.size l a n :=
  FldsS.toIn (S := New base w) (fun k hk => Nat.lt_of_lt_of_le hk.2 hb.size) _ _ _ (FldsS.kept (fun k hk => hb.block k hk.2) (fun k h => h) _ _ _ h)

set_option maxHeartbeats 2000000 in
theorem law_decodes (sh s : ByteArray) (W : World) (hm : sh.size ≤ maxLen) (hs : sh.size ≤ 140737488351232) (hm2 : s.size ≤ maxLen) (hs2 : s.size ≤ 140737488351232) (hg : Handle W) :
    Calls Tryd.prog 3 #[.string sh, .string s] W fun e w' => e = .returned (.bool true) ∧ Below W.heap.size W w' := by
  have C1 := Lib.hid (wireDecode_any sh s hs hs2 W hg)
  have C2 := Lib.hid (fun w => refDecode_any sh s hs hs2 w)
  have C3 := Lib.hid (fun w (hb : Below W.heap.size W w) => wireHead_any sh s hs hs2 w (hg.below hb))
  have C4 := Lib.hid (fun w => refHead_any sh s hs hs2 w)
  have F1 := Lib.hid (decSays_fine sh.data.toList s.data.toList)
  have F2 := Lib.hid (headSays_fine sh.data.toList s.data.toList)
  have HG := Lib.hid hg
  generalize decSays sh.data.toList s.data.toList = D at *
  generalize headSays sh.data.toList s.data.toList = H at *
  obtain ⟨dl, dn, de⟩ := D
  obtain ⟨hl, hn, he⟩ := H
  clear hg hm hs hm2 hs2
  have AW : Hid (∀ w, Below W.heap.size W w → Calls Tryd.prog 11 #[] w fun e w' => e = .returned (.bool true) ∧ Below W.heap.size W w') := Lib.hid (fun w hb => (awake_any w (HG.out.below hb)).mono (fun e w' h => ⟨h.1, hb.trans (h.2.mono hb.size)⟩))
  go_enter Tryd.func3, Tryd.ntmps3
  go_wp2_with fail
  refine C1.out.mono ?_
  rintro e w1 ⟨b1, a1, c1, rfl, f1⟩
  have B1 := Lib.hid b1
  have G1 := Lib.hid f1
  clear b1 f1
  go_wp2_with fail
  refine (C2.out w1).mono ?_
  rintro e w2 ⟨b2, a2, c2, rfl, f2⟩
  have B2 := Lib.hid b2
  have G2 := Lib.hid f2
  clear b2 f2
  have W2 := Lib.hid (B1.out.trans (B2.out.mono B1.out.size))
  go_wp2_with fail
  refine (C3.out w2 W2.out).mono ?_
  rintro e w3 ⟨b3, a3, c3, rfl, f3⟩
  have B3 := Lib.hid b3
  have G3 := Lib.hid f3
  clear b3 f3
  go_wp2_with fail
  refine (C4.out w3).mono ?_
  rintro e w4 ⟨b4, a4, c4, rfl, f4⟩
  have B4 := Lib.hid b4
  have G4 := Lib.hid f4
  clear b4 f4
  have B34 := Lib.hid (B3.out.trans (B4.out.mono B3.out.size))
  have B24 := Lib.hid (B2.out.trans (B34.out.mono B2.out.size))
  have W4 := Lib.hid (W2.out.trans (B34.out.mono W2.out.size))
  have S1 := Lib.hid (same_says dl dl w4.heap.size a1 c1 a2 c2 w4 (flds_in G1.out B24.out) (flds_in G2.out B34.out) (Nat.le_refl _) (by have := F1.out.1; omega) (by have := F1.out.1; omega) (fun y hy => (F1.out.2 y hy).2.2) (fun y hy => (F1.out.2 y hy).2.2))
  have S2 := Lib.hid (fun w5 (b5 : Below w4.heap.size w4 w5) => same_says hl hl w5.heap.size a3 c3 a4 c4 w5 (flds_in G3.out (B4.out.trans (b5.mono B4.out.size))) (flds_in G4.out b5) (Nat.le_refl _) (by have := F2.out.1; omega) (by have := F2.out.1; omega) (fun y hy => (F2.out.2 y hy).2.2) (fun y hy => (F2.out.2 y hy).2.2))
  have e1 : ((dn : Int) == (dn : Int)) = true := beq_self_eq_true _
  have e2 : ((de : Int) == (de : Int)) = true := beq_self_eq_true _
  have e3 : ((hn : Int) == (hn : Int)) = true := beq_self_eq_true _
  have e4 : ((he : Int) == (he : Int)) = true := beq_self_eq_true _
  go_wp2_with fail
  refine S1.out.mono ?_
  rintro e w5 ⟨⟨r, rfl, hr⟩, b5⟩
  obtain rfl : r = true := hr.2 rfl
  have B5 := Lib.hid b5
  have W5 := Lib.hid (W4.out.trans (b5.mono W4.out.size))
  clear b5 hr
  go_wp2_with fail
  refine (S2.out w5 B5.out).mono ?_
  rintro e w6 ⟨⟨r, rfl, hr⟩, b6⟩
  obtain rfl : r = true := hr.2 rfl
  have W6 := Lib.hid (W5.out.trans (b6.mono W5.out.size))
  clear b6 hr
  go_wp2_with fail
  refine (AW.out w6 W6.out).mono ?_
  rintro e w7 ⟨rfl, b7⟩
  go_wp2_with fail
  go_ret
  exact ⟨rfl, b7⟩
end Go.Proofs.YtgikdmognolmoaaDoor
