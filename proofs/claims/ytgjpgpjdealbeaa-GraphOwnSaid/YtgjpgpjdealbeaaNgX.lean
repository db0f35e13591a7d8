/- Graphs: awake. -/
import Derived.Test.YtgjpgpjdealbeaaNgW
namespace Go.Proofs.Ytgjpgpjdealbeaa
open Go.RowKit Go.Lib Go.Fq Go.Iq Go.Nq Go.Ow
set_option linter.unusedVariables false
set_option linter.unusedSimpArgs false
set_option maxRecDepth 100000

def awL : List Ch := [⟨1, 1, 0, 0⟩, ⟨1, 2, 0, 0⟩, ⟨2, 2, 1, 4609434218613702656⟩]
theorem weight_15 : weightF 4609434218613702656 = 0 := by kernel_rfl
theorem awPlay : playA awL = (⟨[⟨1, true, false⟩, ⟨2, true, false⟩], [⟨1, 2, 4609434218613702656, true⟩]⟩, 0, 0) := by
  kernel_rfl
set_option maxHeartbeats 2000000 in
theorem gAwake_any (w : World) : Calls Try.prog 13 #[] w fun e w' => e = .returned (.bool true) ∧ Below w.heap.size w w' := by
  obtain ⟨W1, hW1⟩ : ∃ W1, W1 = w.alloc (.cells #[.int .i64 1, .int .i64 1, .int .i64 0, .float .f64 0, .int .i64 1, .int .i64 2, .int .i64 0, .float .f64 0, .int .i64 2, .int .i64 2, .int .i64 1, .float .f64 4609434218613702656] 33) := ⟨_, rfl⟩
  have hb1 : Below w.heap.size w W1 := by rw [hW1]; exact gAl _ _
  have hs1 : W1.heap.size = w.heap.size + 1 := by rw [hW1]; simp
  have hr : W1.heap[w.heap.size]? = some (.cells #[.int .i64 1, .int .i64 1, .int .i64 0, .float .f64 0, .int .i64 1, .int .i64 2, .int .i64 0, .float .f64 0, .int .i64 2, .int .i64 2, .int .i64 1, .float .f64 4609434218613702656] 33 (0, 0)) := by rw [hW1]; exact heap_alloc_new w _
  have hin : ChsIn W1 W1.heap.size awL (some ⟨w.heap.size, 0, none⟩) := Or.inr ⟨w.heap.size, 0, rfl, by omega, fun k hk => by
    match k, hk with
    | 0, _ => exact ⟨by rw [cell_of_row W1 _ _ _ _ (0, 0) hr]; rfl, by rw [cell_of_row W1 _ _ _ _ (0, 0) hr]; rfl, by rw [cell_of_row W1 _ _ _ _ (0, 0) hr]; rfl, by rw [cell_of_row W1 _ _ _ _ (0, 0) hr]; rfl⟩
    | 1, _ => exact ⟨by rw [cell_of_row W1 _ _ _ _ (0, 0) hr]; rfl, by rw [cell_of_row W1 _ _ _ _ (0, 0) hr]; rfl, by rw [cell_of_row W1 _ _ _ _ (0, 0) hr]; rfl, by rw [cell_of_row W1 _ _ _ _ (0, 0) hr]; rfl⟩
    | 2, _ => exact ⟨by rw [cell_of_row W1 _ _ _ _ (0, 0) hr]; rfl, by rw [cell_of_row W1 _ _ _ _ (0, 0) hr]; rfl, by rw [cell_of_row W1 _ _ _ _ (0, 0) hr]; rfl, by rw [cell_of_row W1 _ _ _ _ (0, 0) hr]; rfl⟩⟩
  have HB1 := Lib.hid hb1
  have HPL := Lib.hid (gPlay_any awL (some ⟨w.heap.size, 0, none⟩) 3 W1 hin (by decide) (by decide))
  have HCK : Hid (checkG (playA awL).1 = 0) := Lib.hid (playA_keeps awL)
  rw [awPlay] at HPL HCK
  clear hb1 hs1 hr hin
  go_enter Try.func13, Try.ntmps13
  go_wp2_with fail
  rw [← hW1]
  clear hW1
  refine HPL.out.mono ?_
  rintro e V1 ⟨vn, vl, rfl, hv, hb2⟩
  obtain ⟨na, nc, rfl, hNI, -⟩ := ownN_in hv.nodes
  obtain ⟨la, lc, rfl, hLI, -⟩ := ownL_in hv.links
  have HV := Lib.hid hv
  have B1 := Lib.hid hb2
  have HNI := Lib.hid hNI
  have HLI := Lib.hid hLI
  clear hv hb2 hNI hLI HPL
  go_wp2_with (go_at_call 10; refine (gCheck_any ⟨[⟨1, true, false⟩, ⟨2, true, false⟩], [⟨1, 2, 4609434218613702656, true⟩]⟩ na la nc lc _ (HNI.out.kept (fun i hi => (gAl _ _).block i hi) (gAl _ _).size) (HLI.out.kept (fun i hi => (gAl _ _).block i hi) (gAl _ _).size) HV.out.wts (by decide) (by decide)).mono ?_; rintro e V2 ⟨rfl, hb3⟩; have B3 := Lib.hid (gNx (gAl _ _) hb3); clear hb3; rw [HCK.out])
  go_ret
  exact ⟨rfl, gNx HB1.out (gNx B1.out B3.out)⟩
end Go.Proofs.Ytgjpgpjdealbeaa
