/- awake; the laws WireShapes and WireEncodes. -/
import Derived.Test.YtbepipnnhkaemaaDoorWpI
import Derived.Test.YtbepipnnhkaemaaDoorWrH
namespace Go.Proofs.YtbepipnnhkaemaaDoor
open Go.RowKit Go.Lib Go.Wq
set_option linter.unusedVariables false
set_option linter.unusedSimpArgs false
set_option maxRecDepth 100000

def f300 : Fld := .mk 300 0 0 false [] []
def fA : Fld := .mk 0 0 0 false [97] []
theorem v300 : vint 300 = [172, 2] := by rw [vint_big (by omega), vint_small (by omega)]; rfl
theorem v1 : vint 1 = [1] := by rw [vint_small (by omega)]; rfl
theorem awake_enc : encSays [117, 116] [f300, fA] = ([172, 2, 1, 97], 0) := by
  have h1 : Go.Wq.shape [117, 116] = some [.u, .t] := by rfl
  have h2 : encAll [.u, .t] [f300, fA] = some [172, 2, 1, 97] := by
    have e1 : encOne .u f300 = some (vint 300) := rfl
    have e2 : encOne .t fA = some (vint 1 ++ [97]) := rfl
    simp only [encAll, e1, e2, v300, v1]
    rfl
  unfold encSays
  simp only [h1, h2]
  rfl
theorem fine_300 : Fine f300 := ⟨.mk (by omega) (by omega) (by omega) (by omega) (by simp) (by simp) (by simp), .mk (by simp) (by simp), .mk (by simp) (by simp) (by simp)⟩
theorem fine_A : Fine fA := ⟨.mk (by omega) (by omega) (by omega) (by omega) (by simp) (by simp) (by simp), .mk (by simp) (by simp), .mk (by simp) (by simp) (by simp)⟩

set_option maxHeartbeats 2000000 in
theorem awake_any (w : World) (hg : Handle w) : Calls Tryd.prog 14 #[] w fun e w' => e = .returned (.bool true) ∧ Below w.heap.size w w' := by
  obtain ⟨w1, hw1⟩ : ∃ w1, w1 = w.alloc (.cells #[.int .u64 300, .int .i64 0, .float .f64 0, .bool false, .string ⟨#[]⟩, .slice none 0 0, .int .u64 0, .int .i64 0, .float .f64 0, .bool false, .string ⟨#[97]⟩, .slice none 0 0] 55) := ⟨_, rfl⟩
  have hb1 : Below w.heap.size w w1 := by rw [hw1]; exact (Below.refl _ w).alloc (Nat.le_refl _) _
  have hs1 : w1.heap.size = w.heap.size + 1 := by rw [hw1]; simp
  have hF : FldsIn w1 w1.heap.size [f300, fA] (some ⟨w.heap.size, 0, none⟩) 2 := by
    have hc : ∀ j v, (#[.int .u64 300, .int .i64 0, .float .f64 0, .bool false, .string ⟨#[]⟩, .slice none 0 0, .int .u64 0, .int .i64 0, .float .f64 0, .bool false, .string ⟨#[97]⟩, .slice none 0 0] : Array Value)[j]? = some v → w1.cell? ⟨w.heap.size, j, none⟩ = some v := fun j v hj => by rw [hw1]; simpa [go_sem] using hj
    simp only [FldsIn, f300, fA, FldIn, Go.Wq.RowsIn]
    refine ⟨w.heap.size, 0, 1, rfl, rfl, ⟨by omega, hc 0 _ rfl, hc 1 _ rfl, hc 2 _ rfl, hc 3 _ rfl, ⟨⟨#[]⟩, rfl, hc 4 _ rfl⟩, none, 0, 0, hc 5 _ rfl, rfl⟩, w.heap.size, 6, 0, rfl, rfl, ⟨by omega, hc 6 _ rfl, hc 7 _ rfl, hc 8 _ rfl, hc 9 _ rfl, ⟨⟨#[97]⟩, rfl, hc 10 _ rfl⟩, none, 0, 0, hc 11 _ rfl, rfl⟩, rfl⟩
  have HE := wireEncode_any ⟨#[117, 116]⟩ (by decide) [f300, fA] (some ⟨w.heap.size, 0, none⟩) 2 w1 (hg.below hb1) hF (by
    intro y hy
    simp at hy
    rcases hy with rfl | rfl
    · exact fine_300
    · exact fine_A) (by simp)
  have he : encSays (⟨#[117, 116]⟩ : ByteArray).data.toList [f300, fA] = ([172, 2, 1, 97], 0) := awake_enc
  rw [he] at HE
  have HEN := Lib.hid HE
  have HB := Lib.hid hb1
  clear HE he hF hb1 hg
  go_enter Tryd.func14, Tryd.ntmps14
  go_wp2_with fail
  rw [← hw1]
  refine HEN.out.mono ?_
  rintro e w3 ⟨rfl, hb3⟩
  have HB3 := Lib.hid hb3
  clear hb3
  go_wp2_with fail
  go_ret
  exact ⟨rfl, HB.out.trans (HB3.out.mono (by omega))⟩

theorem law_shapes (s : ByteArray) (n : Int) (W : World) (hm : s.size ≤ maxLen) (hs : s.size ≤ 140737488351232) (hn : (Lit.int .u64 n).wf = true) (hg : Handle W) :
    Calls Tryd.prog 3 #[.string s, .int .u64 n] W fun e w' => e = .returned (.bool true) ∧ Below W.heap.size W w' := by
  have hb := bounds_u64 hn
  obtain ⟨m, rfl⟩ : ∃ m : Nat, n = (m : Int) := ⟨n.toNat, by omega⟩
  have hm64 : m < 18446744073709551616 := by omega
  have C1 := Lib.hid (fun w (h : Handle w) => wireCheckShape_any s (by omega) w h)
  have C2 := Lib.hid (fun w => refCheckShape_any s hs w)
  have C3 := Lib.hid (fun w => wireVarint_any m hm64 w)
  have C4 := Lib.hid (fun w => refVarint_any m hm64 w)
  have HG := Lib.hid hg
  generalize (if (Go.Wq.shape s.data.toList).isSome = true then (0 : Int) else 40) = c at *
  generalize (vint m).toArray = x at *
  clear hg hm hs hn hb
  go_enter Tryd.func3, Tryd.ntmps3
  go_wp2_with fail
  refine (C1.out W HG.out).mono ?_
  rintro e w1 ⟨rfl, b1⟩
  go_wp2_with fail
  refine (C2.out w1).mono ?_
  rintro e w2 ⟨rfl, b2⟩
  have s1 := b1.size
  have B2 := Lib.hid (b1.trans (b2.mono s1))
  clear b1 b2
  go_wp2_with fail
  refine (C3.out w2).mono ?_
  rintro e w3 ⟨rfl, b3⟩
  go_wp2_with fail
  refine (C4.out w3).mono ?_
  rintro e w4 ⟨rfl, b4⟩
  have s2 := B2.out.size
  have s3 := b3.size
  have B4 := Lib.hid ((B2.out.trans (b3.mono s2)).trans (b4.mono (by omega)))
  clear b3 b4
  go_wp2_with fail
  refine (awake_any w4 (HG.out.below B4.out)).mono ?_
  rintro e w5 ⟨rfl, b5⟩
  have s4 := B4.out.size
  have B5 := Lib.hid (B4.out.trans (b5.mono s4))
  clear b5
  go_wp2_with fail
  go_ret
  exact ⟨rfl, B5.out⟩

theorem fldTypes : FldTypes Tryd.prog 28 55 53 22 2 52 4 9 where
  s := Tryd.underlying28
  r := Tryd.underlying53
  u := Tryd.underlying22
  i := Tryd.underlying2
  f := Tryd.underlying52
  b := Tryd.underlying4
  t := Tryd.underlying9
  e := ⟨_, Tryd.underlying55, rfl, by kernel_rfl⟩
  cE := by kernel_rfl
  cS := by kernel_rfl
  cR := by kernel_rfl
  cU := by kernel_rfl
  cI := by kernel_rfl
  cF := by kernel_rfl
  cB := by kernel_rfl
  cT := by kernel_rfl
  bE := by kernel_rfl
  bS := by kernel_rfl

theorem law_encodes (s : ByteArray) (fs : List Fld) (fa : Option Addr) (fc : Nat) (W : World) (hm : s.size ≤ maxLen) (hs : s.size ≤ 140737488351232) (hfs : FldsIn W W.heap.size fs fa fs.length) (hfine : ∀ y ∈ fs, Fine y) (hr : fs.length * 72 ≤ reachBytes) (hg : Handle W) :
    Calls Tryd.prog 4 #[.string s, .slice fa fs.length fc] W fun e w' => e = .returned (.bool true) ∧ Below W.heap.size W w' := by
  have hR : reachBytes = 140737488351232 := rfl
  have hn : fs.length < 4611686018427387904 := by omega
  have C0 := Lib.hid (refLarge_any W.heap.size fs fa fc W hn hfs (fun y hy => (hfine y hy).2.2))
  have C1 := Lib.hid (wireEncode_any s (by omega) fs fa fc W hg hfs hfine hn)
  have C2 := Lib.hid (fun w (hb : Below W.heap.size W w) => refEncode_any s hs fs fa fc w ((FldsIn.kept (B := W.heap.size) (fun k hk => hb.block k hk) _ _ _ hfs).kept_up hb.size) (fun y hy => (hfine y hy).1) (fun y hy => (hfine y hy).2.1))
  have HG := Lib.hid hg
  generalize (encSays s.data.toList fs).2 = c at *
  generalize (encSays s.data.toList fs).1.toArray = x at *
  clear hg hm hs hfs hfine hr
  go_enter Tryd.func4, Tryd.ntmps4
  go_wp2_with fail
  refine C0.out.mono ?_
  rintro e w0 ⟨⟨lg, rfl⟩, rfl⟩
  cases lg with
  | true =>
    go_wp2_with fail
    refine (awake_any W HG.out).mono ?_
    rintro e w5 ⟨rfl, b5⟩
    go_wp2_with fail
    go_ret
    exact ⟨rfl, b5⟩
  | false =>
    go_wp2_with fail
    refine C1.out.mono ?_
    rintro e w1 ⟨rfl, b1⟩
    have B1 := Lib.hid b1
    clear b1
    go_wp2_with fail
    refine (C2.out w1 B1.out).mono ?_
    rintro e w2 ⟨rfl, b2⟩
    have s1 := B1.out.size
    have B2 := Lib.hid (B1.out.trans (b2.mono s1))
    clear b2
    go_wp2_with fail
    refine (awake_any w2 (HG.out.below B2.out)).mono ?_
    rintro e w5 ⟨rfl, b5⟩
    have s2 := B2.out.size
    have B5 := Lib.hid (B2.out.trans (b5.mono s2))
    clear b5
    go_wp2_with fail
    go_ret
    exact ⟨rfl, B5.out⟩
end Go.Proofs.YtbepipnnhkaemaaDoor
