/- Channel: the law's is. -/
import Derived.Test.YtldbmdalmhhpfaaCwO
namespace Go.Proofs.Ytldbmdalmhhpfaa
open Go.RowKit Go.Lib Go.Ow Go.Cw Go.Cq
set_option linter.unusedVariables false
set_option linter.unusedSimpArgs false
set_option maxRecDepth 100000

theorem iv_at {w : World} {b o : Nat} {xs : List Int} (h : w.rangeAt b o (iv xs)) {i : Nat} (hi : i < xs.length) : w.cell? ⟨b, o + i, none⟩ = some (.int .i64 xs[i]) := h i _ (by simp [iv, List.getElem?_eq_getElem hi])
set_option maxHeartbeats 16000000 in
theorem is_any (w : World) (fb r : Nat) (l : List Gm) (h : Fl w fb r l) (b : Nat) (a : Option Addr) (c : Nat) (hg : Gs w b l a) :
    Calls Try.prog 12 #[.pointer (some ⟨fb, 0, none⟩), .slice a l.length c] w fun e w' => e = .returned (.bool true) ∧ Below w.heap.size w w' := by
  have hl : l.length * 40 ≤ 140737488355328 := by have := h.good.few; omega
  have HF := Lib.hid (fun V (hV : Below w.heap.size w V) => h.below hV)
  have HG := Lib.hid (fun V (hV : Below w.heap.size w V) => hg.below hV)
  have HL := Lib.hid hl
  have H1 := Lib.hid (ready_any w fb r l h)
  clear h hg hl
  go_enter Try.func12, Try.ntmps12
  go_wp2_with fail
  refine H1.out.mono ?_
  rintro e w1 ⟨hb1, v1, r1, rfl, hr1, hrow1⟩
  obtain ⟨a1, c1, rfl⟩ := hrow1.slice
  have HB1 := Lib.hid hb1
  have HW1 := Lib.hid (fun V (hV : Below w1.heap.size w1 V) => hrow1.below hV)
  have H2 := Lib.hid (rReady_any l b a c w1 (HG.out w1 hb1) HL.out)
  clear hb1 hr1 hrow1 H1
  go_wp2_with fail
  refine H2.out.mono ?_
  rintro e w2 ⟨hb2, v2, r2, rfl, hr2, hrow2⟩
  obtain ⟨a2, c2, rfl⟩ := hrow2.slice
  have HB2 := Lib.hid (gNx HB1.out hb2)
  have HW2 := Lib.hid (fun V (hV : Below w2.heap.size w2 V) => hrow2.below hV)
  have HW1 := Lib.hid (fun V (hV : Below w2.heap.size w2 V) => HW1.out V (gNx hb2 hV))
  have H3 := Lib.hid (len_any w2 fb r l (HF.out w2 HB2.out))
  have HRN : Hid ((readyL l).length ≤ l.length) := Lib.hid (readyK_len l _)
  clear hb2 hr2 hrow2 H2
  generalize readyL l = xs at *
  go_wp2_with fail
  refine H3.out.mono ?_
  rintro e w3 ⟨rfl, hw3⟩
  rw [hw3]
  clear hw3 H3
  go_wp2_with fail
  go_loopw [7] (fun ii wr => ∃ k : Nat, ii = .int .i64 (k : Int) ∧ k ≤ xs.length ∧ Below w2.heap.size w2 wr) (fun ii _ => xs.length - (RowKit.intOf ii).toNat)
  case atStart => exact ⟨0, rfl, Nat.zero_le _, Below.refl _ _⟩
  case round =>
    obtain ⟨k, rfl, hk, hbel⟩ := hrel
    obtain ⟨wo, hwo⟩ : ∃ wo, wo = wr := ⟨_, rfl⟩
    subst hwo
    have HB := Lib.hid hbel
    by_cases hlt : k < xs.length
    · have hlti : (k : Int) < (xs.length : Int) := by omega
      have hk0 : (0 : Int) ≤ (k : Int) := by omega
      have hkw : IntKind.i64.wrap ((k : Int) + 1) = (k : Int) + 1 := by rw [IntKind.wrap_i64]; have := HL.out; have := HRN.out; omega
      have HNX : Hid (∀ (V : World), Below w2.heap.size w2 V → (∃ k' : Nat, Value.int .i64 ((k : Int) + 1) = .int .i64 (k' : Int) ∧ k' ≤ xs.length ∧ Below w2.heap.size w2 V) ∧ xs.length - (RowKit.intOf (Value.int .i64 ((k : Int) + 1))).toNat < xs.length - (RowKit.intOf (Value.int .i64 (k : Int))).toNat) := Lib.hid (fun V h1 => by
        refine ⟨⟨k + 1, congrArg (Value.int .i64) (by omega), by omega, h1⟩, ?_⟩
        show xs.length - ((k : Int) + 1).toNat < xs.length - (k : Int).toNat
        omega)
      obtain ⟨o, cap, e1, -, hlow, -, hra, -, -⟩ := (HW1.out wo hbel).at (by omega)
      simp only [Value.slice.injEq, true_and] at e1
      obtain ⟨rfl, rfl⟩ := e1
      obtain ⟨o2, cap2, e2, -, hlow2, -, hra2, -, -⟩ := (HW2.out wo hbel).at (by omega)
      simp only [Value.slice.injEq, true_and] at e2
      obtain ⟨rfl, rfl⟩ := e2
      have k0 := iv_at hra hlt
      have m0 := iv_at hra2 hlt
      generalize xs[k] = x at *
      have HSS : Hid (∀ V, Below wo.heap.size wo V → V.cell? ⟨r1, o + k, none⟩ = some (.int .i64 x) ∧ V.cell? ⟨r2, o2 + k, none⟩ = some (.int .i64 x)) := Lib.hid (fun V hV => ⟨(World.cell?_of_block (a := ⟨r1, o + k, none⟩) (hV.block r1 hlow)).trans k0, (World.cell?_of_block (a := ⟨r2, o2 + k, none⟩) (hV.block r2 hlow2)).trans m0⟩)
      have HB1 : Hid (Below w2.heap.size w2 wo.drew) := Lib.hid HB.out.drew
      clear hlt hk hbel hlow hra hlow2 hra2 k0 m0
      go_upto_region 7 with (fail)
      refine wp_region_held_drew (S := fun V => V.cell? ⟨r1, o + k, none⟩ = some (.int .i64 x) ∧ V.cell? ⟨r2, o2 + k, none⟩ = some (.int .i64 x)) (by kernel_rfl) (HSS.out _ (Below.drew (Below.refl _ _))) (fun hH => ?_)
      have hs0 := HSS.out _ (Below.drew (Below.refl _ _))
      generalize wo.drew = V0 at *
      refine tk 0 (by assumption) rfl (by kernel_rfl) (fun _ _ _ h => h) (fun V hV => by go_simp; try with_reducible rfl) ?_
      try simp only [Act.put, sqA, sqB, sqC, sqD, sqE, sqF]
      refine tk 1 (by assumption) rfl (by kernel_rfl) (fun _ _ _ h => h) (fun V hV => by go_simp; try with_reducible rfl) ?_
      try simp only [Act.put, sqA, sqB, sqC, sqD, sqE, sqF]
      refine tk 2 (by assumption) rfl (by kernel_rfl) (fun _ _ _ h => h) (fun V hV => by go_simp; try with_reducible rfl) ?_
      try simp only [Act.put, sqA, sqB, sqC, sqD, sqE, sqF]
      refine tk 3 (by assumption) rfl (by kernel_rfl) (fun _ _ _ h => h) (fun V hV => by obtain ⟨hx0, hx1⟩ := hV; go_simp; try with_reducible rfl) ?_
      try simp only [Act.put, sqA, sqB, sqC, sqD, sqE, sqF]
      refine tk 4 (by assumption) rfl (by kernel_rfl) (fun _ _ _ h => h) (fun V hV => by go_simp; try with_reducible rfl) ?_
      try simp only [Act.put, sqA, sqB, sqC, sqD, sqE, sqF]
      refine tk 5 (by assumption) rfl (by kernel_rfl) (fun _ _ _ h => h) (fun V hV => by go_simp; try with_reducible rfl) ?_
      try simp only [Act.put, sqA, sqB, sqC, sqD, sqE, sqF]
      refine tk 6 (by assumption) rfl (by kernel_rfl) (fun _ _ _ h => h) (fun V hV => by go_simp; try with_reducible rfl) ?_
      try simp only [Act.put, sqA, sqB, sqC, sqD, sqE, sqF]
      refine tk 7 (by assumption) rfl (by kernel_rfl) (fun _ _ _ h => h) (fun V hV => by obtain ⟨hx0, hx1⟩ := hV; go_simp; try with_reducible rfl) ?_
      try simp only [Act.put, sqA, sqB, sqC, sqD, sqE, sqF]
      refine tk 8 (by assumption) rfl (by kernel_rfl) (fun _ _ _ h => h) (fun V hV => by go_simp; try with_reducible rfl) ?_
      try simp only [Act.put, sqA, sqB, sqC, sqD, sqE, sqF]
      refine wpAnyH_done (by kernel_rfl) ?_ _
      clear hs0 hH
      go_wp2_with fail
      exact HNX.out _ HB1.out
    · have hnk : ¬ (k : Int) < (xs.length : Int) := by omega
      have HBB := Lib.hid (gNx HB2.out hbel)
      obtain ⟨h1, h2, h3⟩ : True ∧ True ∧ True := ⟨trivial, trivial, trivial⟩
      have H4 := Lib.hid (all_any wo fb r l (HF.out wo HBB.out))
      clear hlt hk hbel h1 h2 h3
      go_wp2_with fail
      refine H4.out.mono ?_
      rintro e w5 ⟨hb5, v5, r5, rfl, hr5, hrow5⟩
      obtain ⟨a5, c5, rfl⟩ := hrow5.slice
      have HB5 := Lib.hid (gNx HBB.out hb5)
      have H5 := Lib.hid (rSame_any l r5 a5 c5 b a c w5 (rw_gs hrow5) (HG.out w5 HB5.out) HL.out)
      clear hb5 hr5 hrow5 H4
      go_wp2_with fail
      refine H5.out.mono ?_
      rintro e w6 ⟨rfl, hb6⟩
      have HB6 := Lib.hid (gNx HB5.out hb6)
      clear hb6 H5
      go_wp2_with fail
      go_ret
      exact ⟨rfl, HB6.out⟩
end Go.Proofs.Ytldbmdalmhhpfaa
