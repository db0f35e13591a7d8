/- awake; the laws WireShapes and WireEncodes. -/
import Derived.Test.YtgikdmognolmoaaDoorWpI
import Derived.Test.YtgikdmognolmoaaDoorWrH
namespace Go.Proofs.YtgikdmognolmoaaDoor
open Go.RowKit Go.Lib Go.Wq
set_option linter.unusedVariables false
set_option linter.unusedSimpArgs false
set_option maxRecDepth 100000

def f300 : Fld := .mk 300 0 0 false [] []
def fA : Fld := .mk 0 0 0 false [97] []
theorem v300 : vint 300 = [172, 2] := by rw [vint_big (by omega), vint_small (by omega)]; rfl
theorem v1 : vint 1 = [1] := by rw [vint_small (by omega)]; rfl
theorem awake_enc : encSays [117, 116] [f300, fA] = ([172, 2, 1, 97], 0) := by
  have h1 : Go.Wq.shape [117, 116] = some [.u, .t] := by rfl
  have h2 : encAll [.u, .t] [f300, fA] = some [172, 2, 1, 97] := by
    have e1 : encOne .u f300 = some (vint 300) := rfl
    have e2 : encOne .t fA = some (vint 1 ++ [97]) := rfl
    simp only [encAll, e1, e2, v300, v1]
    rfl
  unfold encSays
  simp only [h1, h2]
  rfl
theorem fine_300 : Fine f300 := ⟨.mk (by omega) (by omega) (by omega) (by omega) (by simp) (by simp) (by simp), .mk (by simp) (by simp), .mk (by simp) (by simp) (by simp)⟩
theorem fine_A : Fine fA := ⟨.mk (by omega) (by omega) (by omega) (by omega) (by simp) (by simp) (by simp), .mk (by simp) (by simp), .mk (by simp) (by simp) (by simp)⟩

set_option maxHeartbeats 2000000 in
theorem awake_any (w : World) (hg : Handle w) : Calls Tryd.prog 11 #[] w fun e w' => e = .returned (.bool true) ∧ Below w.heap.size w w' := by
  obtain ⟨w1, hw1⟩ : ∃ w1, w1 = w.alloc (.cells #[.int .u64 300, .int .i64 0, .float .f64 0, .bool false, .string ⟨#[]⟩, .slice none 0 0, .int .u64 0, .int .i64 0, .float .f64 0, .bool false, .string ⟨#[97]⟩, .slice none 0 0] 53) := ⟨_, rfl⟩
  have hb1 : Below w.heap.size w w1 := by rw [hw1]; exact (Below.refl _ w).alloc (Nat.le_refl _) _
  have hs1 : w1.heap.size = w.heap.size + 1 := by rw [hw1]; simp
  have hF : FldsIn w1 w1.heap.size [f300, fA] (some ⟨w.heap.size, 0, none⟩) 2 := by
    have hc : ∀ j v, (#[.int .u64 300, .int .i64 0, .float .f64 0, .bool false, .string ⟨#[]⟩, .slice none 0 0, .int .u64 0, .int .i64 0, .float .f64 0, .bool false, .string ⟨#[97]⟩, .slice none 0 0] : Array Value)[j]? = some v → w1.cell? ⟨w.heap.size, j, none⟩ = some v := fun j v hj => by rw [hw1]; simpa [go_sem] using hj
    simp only [FldsIn, f300, fA, FldIn, Go.Wq.RowsIn]
    refine ⟨w.heap.size, 0, 1, rfl, rfl, ⟨by omega, hc 0 _ rfl, hc 1 _ rfl, hc 2 _ rfl, hc 3 _ rfl, ⟨⟨#[]⟩, rfl, hc 4 _ rfl⟩, none, 0, 0, hc 5 _ rfl, rfl⟩, w.heap.size, 6, 0, rfl, rfl, ⟨by omega, hc 6 _ rfl, hc 7 _ rfl, hc 8 _ rfl, hc 9 _ rfl, ⟨⟨#[97]⟩, rfl, hc 10 _ rfl⟩, none, 0, 0, hc 11 _ rfl, rfl⟩, rfl⟩
  have HE := wireEncode_any ⟨#[117, 116]⟩ (by decide) [f300, fA] (some ⟨w.heap.size, 0, none⟩) 2 w1 (hg.below hb1) hF (by
    intro y hy
    simp at hy
    rcases hy with rfl | rfl
    · exact fine_300
    · exact fine_A) (by simp)
  have he : encSays (⟨#[117, 116]⟩ : ByteArray).data.toList [f300, fA] = ([172, 2, 1, 97], 0) := awake_enc
  rw [he] at HE
  have HEN := Lib.hid HE
  have HB := Lib.hid hb1
  clear HE he hF hb1 hg
  go_enter Tryd.func11, Tryd.ntmps11
  go_wp2_with fail
  rw [← hw1]
  refine HEN.out.mono ?_
  rintro e w3 ⟨rfl, hb3⟩
  have HB3 := Lib.hid hb3
  clear hb3
  go_wp2_with fail
  go_ret
  exact ⟨rfl, HB.out.trans (HB3.out.mono (by omega))⟩

theorem fldTypes : FldTypes Tryd.prog 22 53 51 49 2 50 4 9 where
  s := Tryd.underlying22
  r := Tryd.underlying51
  u := Tryd.underlying49
  i := Tryd.underlying2
  f := Tryd.underlying50
  b := Tryd.underlying4
  t := Tryd.underlying9
  e := ⟨_, Tryd.underlying53, rfl, by kernel_rfl⟩
  cE := by kernel_rfl
  cS := by kernel_rfl
  cR := by kernel_rfl
  cU := by kernel_rfl
  cI := by kernel_rfl
  cF := by kernel_rfl
  cB := by kernel_rfl
  cT := by kernel_rfl
  bE := by kernel_rfl
  bS := by kernel_rfl

end Go.Proofs.YtgikdmognolmoaaDoor
