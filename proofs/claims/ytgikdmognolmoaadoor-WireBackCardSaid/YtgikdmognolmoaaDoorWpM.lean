/- The program's reader: take. -/
import Derived.Test.YtgikdmognolmoaaDoorWpR
import Derived.Test.YtgikdmognolmoaaDoorWqAll
namespace Go.Proofs.YtgikdmognolmoaaDoor
open Go.RowKit Go.Lib Go.Wq
set_option linter.unusedVariables false
set_option linter.unusedSimpArgs false
set_option maxRecDepth 100000

/-- A reader, in block rb: its text and where the next byte is. -/
structure Rd (w : World) (rb : Nat) (s : ByteArray) (p : Nat) : Prop where
  c0 : w.cell? ⟨rb, 0, none⟩ = some (.string s)
  c1 : w.cell? ⟨rb, 1, none⟩ = some (.int .i64 (p : Int))
  fz : w.frozen? ⟨rb, 1, none⟩ = false
  le : p ≤ s.size

set_option maxHeartbeats 1000000 in
theorem take_ok (rb : Nat) (s : ByteArray) (p n bg : Nat) (w : World) (H : Rd w rb s p) (hs : s.size ≤ 65536) (hn : p + n ≤ s.size) :
    Calls Tryd.prog 46 #[.pointer (some ⟨rb, 0, none⟩), .int .u64 (n : Int), .int .i64 (bg : Int)] w fun e w' => e = .returned (.string (s.extract p (p + n))) ∧ Rd w' rb s (p + n) ∧ Kept (fun k => k = rb) w w' := by
  obtain ⟨c0, c1, fz, le⟩ := H
  have hle : (p : Int) ≤ (s.size : Int) := by omega
  have hd : decide (n ≤ s.size - p) = true := by simp; omega
  have HX : Hid ((s.extract p s.size).extract 0 n = s.extract p (p + n)) := Lib.hid (by
    apply ByteArray.ext
    simp only [ByteArray.data_extract, Array.extract_extract]
    congr 1 <;> omega)
  have HK : Hid (∀ m : Nat, Kept (fun k => k = rb) w ((w.drewN m).setCell ⟨rb, 1, none⟩ (.int .i64 ((p : Int) + (n : Int)))) ∧ Rd ((w.drewN m).setCell ⟨rb, 1, none⟩ (.int .i64 ((p : Int) + (n : Int)))) rb s (p + n)) := Lib.hid (fun m => by
    have hk0 : Kept (fun k => k = rb) w (w.drewN m) := ⟨rfl, rfl, rfl, Nat.le_refl _, fun _ _ _ => rfl⟩
    refine ⟨hk0.setCell ⟨rb, 1, none⟩ _ rfl, ⟨?_, ?_, ?_, hn⟩⟩
    · have : (w.drewN m).cell? ⟨rb, 0, none⟩ = some (.string s) := c0
      simp [go_sem, this]
    · have : (w.drewN m).cell? ⟨rb, 1, none⟩ = some (.int .i64 (p : Int)) := c1
      simp [go_sem, this]
    · have : (w.drewN m).frozen? ⟨rb, 1, none⟩ = false := fz
      simp [go_sem, this])
  go_enter Tryd.func46, Tryd.ntmps46
  go_wp2_with fail
  go_quiet (fail)
  go_wp2_with fail
  try rw [hd]
  refine (check_ok _ _ _).mono ?_
  rintro e w3 ⟨rfl, rfl⟩
  have k1 : (w.drewN nq).cell? ⟨rb, 1, none⟩ = some (.int .i64 (p : Int)) := c1
  have kf : (w.drewN nq).frozen? ⟨rb, 1, none⟩ = false := fz
  have hnm : (n : Int) ≤ ((s.size - p : Nat) : Int) := by omega
  go_wp2_with fail
  refine bodyPost_ret (v := .string ((s.extract p s.size).extract 0 n)) (by simp [results, Tryd.results46, go_sem]) rfl ?_
  exact ⟨by rw [HX.out], (HK.out nq).2, (HK.out nq).1⟩

set_option maxHeartbeats 1000000 in
theorem take_bad (rb : Nat) (s : ByteArray) (p n bg : Nat) (w : World) (H : Rd w rb s p) (hs : s.size ≤ 65536) (hn : s.size < p + n) (h64 : n < 18446744073709551616) :
    Calls Tryd.prog 46 #[.pointer (some ⟨rb, 0, none⟩), .int .u64 (n : Int), .int .i64 (bg : Int)] w fun e w' => Dies 42 (bg : Int) w e w' ∧ Below w.heap.size w w' := by
  obtain ⟨c0, c1, fz, le⟩ := H
  have hle : (p : Int) ≤ (s.size : Int) := by omega
  have hd : decide (n ≤ s.size - p) = false := by simp; omega
  go_enter Tryd.func46, Tryd.ntmps46
  go_wp2_with fail
  go_quiet (fail)
  go_wp2_with fail
  try rw [hd]
  refine (check_bad _ _ _).mono ?_
  rintro e w3 ⟨⟨pb, rfl, hd1⟩, hb3⟩
  go_wp2_with fail
  exact ⟨rfl, ⟨pb, rfl, hd1⟩, ⟨hb3.os, hb3.tape, hb3.output, hb3.size, fun k hk => hb3.block k hk⟩⟩
end Go.Proofs.YtgikdmognolmoaaDoor
