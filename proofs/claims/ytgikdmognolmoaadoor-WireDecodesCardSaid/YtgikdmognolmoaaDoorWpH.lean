/- The program's Encode. -/
import Derived.Test.YtgikdmognolmoaaDoorWpG
import Derived.Test.YtgikdmognolmoaaDoorWpD
import Derived.Test.YtgikdmognolmoaaDoorWpC
import Derived.Test.YtgikdmognolmoaaDoorWrG
namespace Go.Proofs.YtgikdmognolmoaaDoor
open Go.RowKit Go.Lib Go.Wq
set_option linter.unusedVariables false
set_option linter.unusedSimpArgs false
set_option maxRecDepth 100000

theorem entEn (args : Array Value) (w : World) : (callFunc 23 args).run Tryd.prog w = .ok (.enter 23 args) w := by kernel_rfl

/-- How Encode's closure ends. -/
def EncEnds (s : List UInt8) (fs : List Fld) (wb : Nat) (w : World) (e : Ending) (w' : World) : Prop :=
  Kept (Ours wb w.heap.size) w w' ∧ ((encSays s fs).2 = 0 ∧ e = .returned (.tuple #[]) ∧ (∃ (v' : Value) (base : Nat), w.heap.size ≤ base ∧ w'.cell? ⟨wb, 0, none⟩ = some v' ∧ w'.ownsRow base 5 1 v' (encSays s fs).1.length (bcs (encSays s fs).1)) ∨
    (encSays s fs).2 ≠ 0 ∧ Dies (encSays s fs).2 0 w e w')

theorem Kept.ours {wb base base' : Nat} {w w' : World} (h : Kept (Ours wb base') w w') (hb : base ≤ base') : Kept (Ours wb base) w w' := h.mono (fun k hk => by rcases hk with h | h; exact Or.inl h; exact Or.inr (by omega))
theorem kept_of_below {wb : Nat} {w w' : World} (h : Below w.heap.size w w') : Kept (Ours wb w.heap.size) w w' := Kept.of_below h

set_option maxHeartbeats 4000000 in
theorem encBody (s : ByteArray) (hs : s.size ≤ 281474976710656) (fs : List Fld) (fa : Option Addr) (fc : Nat) (wb : Nat) (w : World) (a0 a1 : Addr) (ha0 : w.cell? a0 = some (.string s)) (ha1 : w.cell? a1 = some (.slice fa fs.length fc))
    (hA : a0.block ≠ wb ∧ a1.block ≠ wb ∧ a0.block < w.heap.size ∧ a1.block < w.heap.size)
    (hwb : wb < w.heap.size) (hwc : w.cell? ⟨wb, 0, none⟩ = some (.slice none 0 0)) (hwf : w.frozen? ⟨wb, 0, none⟩ = false) (hfs : FldsIn w wb fs fa fs.length) (hfine : ∀ y ∈ fs, Fine y) (hn : fs.length < 4611686018427387904) :
    Calls Tryd.prog 23 #[.pointer (some a0), .pointer (some a1), .pointer (some ⟨wb, 0, none⟩)] w fun e w' => EncEnds s.data.toList fs wb w e w' := by
  have HP := Lib.hid (parse_any s hs w)
  cases hx : Go.Wq.shape s.data.toList with
  | none =>
    have HR : Hid (Calls Tryd.prog 16 #[.string s] w fun e w' => Dies 40 0 w e w' ∧ Below w.heap.size w w') := Lib.hid (HP.out.mono (fun e w' h => by unfold ParseEnds at h; rw [hx] at h; exact h))
    have HE : Hid (encSays s.data.toList fs = ([], 40)) := Lib.hid (by unfold encSays; rw [hx])
    clear HP hx hfs hfine
    go_enter Tryd.func23, Tryd.ntmps23
    go_wp2_with fail
    refine HR.out.mono ?_
    rintro e w3 ⟨⟨pb, rfl, hd1⟩, hb3⟩
    have HD := Lib.hid hd1
    clear hd1
    go_wp2_with fail
    refine ⟨rfl, kept_of_below hb3, Or.inr ?_⟩
    rw [HE.out]
    exact ⟨by decide, pb, rfl, HD.out⟩
  | some its =>
    have HR : Hid (Calls Tryd.prog 16 #[.string s] w fun e w' => ∃ (a : Option Addr) (c : Nat), e = .returned (.slice a its.length c) ∧ ItsZ w' (fun k => w.heap.size ≤ k ∧ k < w'.heap.size) its a its.length ∧ Below w.heap.size w w') := Lib.hid (HP.out.mono (fun e w' h => by unfold ParseEnds at h; rw [hx] at h; exact h))
    obtain ⟨h256, hsm⟩ := shape_sm hx
    have hsz := shape_size hx
    have hES : encSays s.data.toList fs = match encAll its fs with | none => ([], 41) | some a => if 65536 < a.length then ([], 3) else (a, 0) := by unfold encSays; simp only [hx]; cases encAll its fs <;> rfl
    have hlen : ∀ y ∈ fs, y.Len := fun y hy => (hfine y hy).2.2
    have HCHK : Hid (∀ (w2 : World) (xa : Option Addr) (xc : Nat), ItsZ w2 (fun k => w.heap.size ≤ k ∧ k < w2.heap.size) its xa its.length → Below w.heap.size w w2 → Calls Tryd.prog 24 #[.slice xa its.length xc, .slice fa fs.length fc] w2 fun e w' => ChkEnds its fs w2 e w') := Lib.hid (fun w2 xa xc hi hb =>
      checkFields_says its _ xa xc fs fa fc w2 hi (fun k hk => hk.2) ((FldsIn.kept (B := wb) (fun k hk => hb.block k (by omega)) _ _ _ hfs).kept_up (by have := hb.size; omega)) h256 hsm hn hlen)
    have HFLD : Hid (∀ (a : List UInt8) (w2 w3 : World) (xa : Option Addr) (xc : Nat), encAll its fs = some a → ItsZ w2 (fun k => w.heap.size ≤ k ∧ k < w2.heap.size) its xa its.length → Below w.heap.size w w2 → Below w2.heap.size w2 w3 →
        Calls Tryd.prog 25 #[.pointer (some ⟨wb, 0, none⟩), .slice xa its.length xc, .slice fa fs.length fc] w3 fun e w' => FEnd wb w2.heap.size a (.slice none 0 0) w3 e w' ∧ (e = .returned (.tuple #[]) → its = [] ∨ a.length ≤ 65536)) := Lib.hid (fun a w2 w3 xa xc ha hi hb hb3 => by
      have h13 := hb.trans (hb3.mono hb.size)
      have hw2 := hb.size
      have hw3 := hb3.size
      have HW : Wr w3 wb w2.heap.size (.slice none 0 0) [] := ⟨by omega, hw3, (h13.frozen (p := ⟨wb, 0, none⟩) hwb).trans hwf, (h13.cell (p := ⟨wb, 0, none⟩) hwb).trans hwc, World.ownsRow_nil _ _ _ _⟩
      have h := fields_says its wb w2.heap.size (.slice none 0 0) [] (fun k => w.heap.size ≤ k ∧ k < w2.heap.size) xa xc fs fa fc w3 a HW (ItsZ.kept (fun k hk => hb3.block k hk.2) (fun _ h => h) _ _ _ hi) (fun k hk => ⟨hk.2, by omega⟩)
        (FldsIn.kept (B := wb) (fun k hk => h13.block k (by omega)) _ _ _ hfs) h256 hsm (by omega) (by simp; omega) hfine ha
      simpa using h)
    have ha0' : ∀ w2, Below w.heap.size w w2 → w2.cell? a1 = some (.slice fa fs.length fc) := fun w2 h => (h.cell hA.2.2.2).trans ha1
    have HA1 := Lib.hid ha0'
    have hA0 := hA.2.2.1
    clear HP hx hfs hfine hsm ha0' hlen hA
    cases he : encAll its fs with
    | none =>
      have HE : Hid (encSays s.data.toList fs = ([], 41)) := Lib.hid (by rw [hES, he])
      have HNONE := Lib.hid he
      clear hES he HFLD
      go_enter Tryd.func23, Tryd.ntmps23
      go_wp2_with fail
      refine HR.out.mono ?_
      rintro e w2 ⟨xa, xc, rfl, hi2, hb2⟩
      have HC := Lib.hid (HCHK.out w2 xa xc hi2 hb2)
      have c2 := HA1.out w2 hb2
      have hs2 := hb2.size
      have HB2 := Lib.hid hb2
      clear hi2 hb2
      go_wp2_with fail
      refine HC.out.mono ?_
      rintro e w3 ⟨h3, hb3⟩
      rcases h3 with ⟨h4, -⟩ | ⟨-, pb, rfl, hd1⟩
      · rw [HNONE.out] at h4; cases h4
      · have HD := Lib.hid hd1
        have HB3 := Lib.hid hb3
        clear hd1 hb3
        go_wp2_with fail
        refine ⟨rfl, kept_of_below (HB2.out.trans (HB3.out.mono hs2)), Or.inr ?_⟩
        rw [HE.out]
        exact ⟨by decide, pb, rfl, Nat.le_trans hs2 HD.out.1, HD.out.2⟩
    | some a =>
      have HSOME := Lib.hid he
      rw [he] at hES
      simp only [] at hES
      have HES := Lib.hid hES
      clear hES he
      go_enter Tryd.func23, Tryd.ntmps23
      go_wp2_with fail
      refine HR.out.mono ?_
      rintro e w2 ⟨xa, xc, rfl, hi2, hb2⟩
      have HC := Lib.hid (HCHK.out w2 xa xc hi2 hb2)
      have c2 := HA1.out w2 hb2
      have hs2 := hb2.size
      have HB2 := Lib.hid hb2
      have HI2 := Lib.hid hi2
      clear hi2 hb2
      go_wp2_with fail
      refine HC.out.mono ?_
      rintro e w3 ⟨h3, hb3⟩
      rcases h3 with ⟨-, rfl⟩ | ⟨h4, -⟩
      · have HFL := Lib.hid (HFLD.out a w2 w3 xa xc HSOME.out HI2.out HB2.out hb3)
        have c3 := HA1.out w3 (HB2.out.trans (hb3.mono hs2))
        have HB3 := Lib.hid (HB2.out.trans (hb3.mono hs2))
        clear hb3 c2
        go_wp2_with fail
        refine HFL.out.mono ?_
        rintro e w4 ⟨h5, h5b⟩
        rcases h5 with ⟨rfl, v5, hw5, hm5⟩ | ⟨h6, ⟨pb, rfl, h7⟩, h8⟩
        · have HB5 := Lib.hid (h5b rfl)
          have HW5 := Lib.hid hw5
          have hfit : ¬ 65536 < a.length := by
            rcases HB5.out with h | h
            · subst h; rw [encAll_nil HSOME.out]; simp
            · omega
          have HK5 : Hid (Kept (Ours wb w.heap.size) w w4) := Lib.hid ((kept_of_below HB3.out).trans ((hm5.kept (World.ownsRow_nil w3 w.heap.size 5 1))))
          clear hw5 hm5 h5b
          go_wp2_with fail
          first | go_end0 | refine bodyPost_ret (results_none rfl _ _ _) rfl ?_
          refine ⟨HK5.out, Or.inl ?_⟩
          rw [HES.out, if_neg hfit]
          exact ⟨rfl, rfl, v5, w2.heap.size, hs2, HW5.out.cell, HW5.out.own⟩
        · have H7 := Lib.hid h7
          have H8 := Lib.hid h8
          have hs3 := HB3.out.size
          clear h7 h8 h5b
          go_wp2_with fail
          refine ⟨rfl, (kept_of_below HB3.out).trans (H8.out.ours hs2), Or.inr ?_⟩
          rw [HES.out, if_pos h6]
          exact ⟨by decide, pb, rfl, Nat.le_trans hs3 H7.out.1, H7.out.2⟩
      · rw [HSOME.out] at h4; cases h4
end Go.Proofs.YtgikdmognolmoaaDoor
