/- The law GuardMusts: its four ways. -/
import Derived.Test.YtahdmdfcakpajaaDoorGuF
namespace Go.Proofs.YtahdmdfcakpajaaDoor
open Go.RowKit Go.Extern.Stop Go.Stop Go.Extern
set_option linter.unusedVariables false
set_option linter.unusedSimpArgs false

/-- The law's variables, at blocks N to N + 3, in a world W that came of w. -/
structure Vars (w W : World) (n : Int) (ok : Bool) (place x : Int) : Prop where
  bel : Below w.heap.size w W
  han : Handle W
  siz : w.heap.size + 3 < W.heap.size
  c0 : W.cell? ⟨w.heap.size, 0, none⟩ = some (.int .i64 n)
  c1 : W.cell? ⟨w.heap.size + 1, 0, none⟩ = some (.bool ok)
  c2 : W.cell? ⟨w.heap.size + 1 + 1, 0, none⟩ = some (.int .i64 place)
  c3 : W.cell? ⟨w.heap.size + 1 + 1 + 1, 0, none⟩ = some (.int .i64 x)
  f3 : W.frozen? ⟨w.heap.size + 1 + 1 + 1, 0, none⟩ = false
theorem Vars.start (n place : Int) (ok : Bool) (w : World) (hg : Handle w) :
    Vars w ((((w.alloc (.cells #[.int .i64 n] 22)).alloc (.cells #[.bool ok] 4)).alloc (.cells #[.int .i64 place] 3)).alloc (.cells #[.int .i64 0] 3)) n ok place 0 := by
  have b : Below w.heap.size w ((((w.alloc (.cells #[.int .i64 n] 22)).alloc (.cells #[.bool ok] 4)).alloc (.cells #[.int .i64 place] 3)).alloc (.cells #[.int .i64 0] 3)) := ((((Below.refl _ w).alloc (Nat.le_refl _) _).alloc (by simp) _).alloc (by simp <;> omega) _).alloc (by simp <;> omega) _
  exact ⟨b, hg.below b, by simp, by simp [go_sem], by simp [go_sem], by simp [go_sem], by simp [go_sem], by simp [go_sem]⟩
theorem Vars.below {w W W' : World} {n : Int} {ok : Bool} {place x : Int} (h : Vars w W n ok place x) (b : Below W.heap.size W W') : Vars w W' n ok place x := by
  obtain ⟨b0, hg, hs, c0, c1, c2, c3, f3⟩ := h
  exact ⟨b0.trans (b.mono (by omega)), hg.below b, Nat.lt_of_lt_of_le hs b.size, (b.cell (p := ⟨w.heap.size, 0, none⟩) (by dsimp only; omega)).trans c0, (b.cell (p := ⟨w.heap.size + 1, 0, none⟩) (by dsimp only; omega)).trans c1,
    (b.cell (p := ⟨w.heap.size + 1 + 1, 0, none⟩) (by dsimp only; omega)).trans c2, (b.cell (p := ⟨w.heap.size + 1 + 1 + 1, 0, none⟩) (by dsimp only; omega)).trans c3, (b.frozen (p := ⟨w.heap.size + 1 + 1 + 1, 0, none⟩) (by dsimp only; omega)).trans f3⟩
theorem Vars.set {w W : World} {n : Int} {ok : Bool} {place x : Int} (h : Vars w W n ok place x) (y : Int) (hp : 0 < w.heap.size) : Vars w (W.setCell ⟨w.heap.size + 1 + 1 + 1, 0, none⟩ (.int .i64 y)) n ok place y := by
  obtain ⟨b0, hg, hs, c0, c1, c2, c3, f3⟩ := h
  refine ⟨b0.setCell (by dsimp only; omega) _, ?_, by simpa [World.setCell] using hs, ?_, ?_, ?_, by simp [go_sem, c3], by simp [go_sem, f3]⟩
  · exact (World.cell?_of_block (Below.heap_setCell _ _ _ _ (by dsimp only; omega))).trans hg
  · exact (World.cell?_of_block (Below.heap_setCell _ _ _ _ (by dsimp only; omega))).trans c0
  · exact (World.cell?_of_block (Below.heap_setCell _ _ _ _ (by dsimp only; omega))).trans c1
  · exact (World.cell?_of_block (Below.heap_setCell _ _ _ _ (by dsimp only; omega))).trans c2

set_option maxHeartbeats 1600000 in
theorem musts_bb (n place : Int) (hn : (n != 0) = true) (w : World) (hg : Handle w) : Calls Tryd.prog 3 #[.int .i64 n, .bool false, .int .i64 place] w fun e w' => e = .returned (.bool true) ∧ Below w.heap.size w w' := by
  have HN := Lib.hid hn
  have hmf := hmkf
  have eqC := eqC
  have hnot := hnot
  have HP := Lib.hid hg.pos
  have V0 := Lib.hid (Vars.start n place false w hg)
  clear hg
  go_enter Tryd.func3, Tryd.ntmps3
  go_wp2_with fail
  refine (run5_bad n HN.out _ _ _ V0.out.han V0.out.c0).mono ?_
  rintro e w1 ⟨rfl, b1⟩
  have V1 := Lib.hid (V0.out.below b1)
  have V2 := Lib.hid (V1.out.below ((Below.refl _ w1).alloc (Nat.le_refl _) (.cells #[.int .i64 1, .string ⟨#[]⟩, .int .i64 n, .int .i64 0] 24)))
  unfold caughtV
  go_wp2_with fail
  refine (run7_bad n place _ _ _ _ _ V2.out.han V2.out.c1 V2.out.c0 V2.out.c2).mono ?_
  rintro e w2 ⟨rfl, b2⟩
  obtain ⟨b3, hg3, hs3, d0, d1, d2, d3, z3⟩ := V2.out.below b2
  have H3 := Lib.hid hg3
  have hs2 : w1.heap.size + 1 ≤ w2.heap.size := by simpa [World.setCell] using b2.size
  have hs1 := V1.out.siz
  have q : ∀ i : Nat, w2.cell? ⟨w1.heap.size, i, none⟩ = (w1.alloc (.cells #[.int .i64 1, .string ⟨#[]⟩, .int .i64 n, .int .i64 0] 24)).cell? ⟨w1.heap.size, i, none⟩ := fun i => by
    rw [b2.cell (p := ⟨w1.heap.size, i, none⟩) (by simp [World.setCell])]
    skip
  have q0 : w2.cell? ⟨w1.heap.size, 0, none⟩ = some (.int .i64 1) := (q 0).trans (by simp [go_sem])
  have q1 : w2.cell? ⟨w1.heap.size, 1, none⟩ = some (.string ⟨#[]⟩) := (q 1).trans (by simp [go_sem])
  have q2 : w2.cell? ⟨w1.heap.size, 2, none⟩ = some (.int .i64 n) := (q 2).trans (by simp [go_sem])
  have q3 : w2.cell? ⟨w1.heap.size, 3, none⟩ = some (.int .i64 0) := (q 3).trans (by simp [go_sem])
  have B3 := Lib.hid b3
  have l0 : w.heap.size < w2.heap.size := by omega
  have l1 : w.heap.size + 1 < w2.heap.size := by omega
  have l2 : w.heap.size + 1 + 1 < w2.heap.size := by omega
  have l3 : w.heap.size + 1 + 1 + 1 < w2.heap.size := by omega
  have l4 : w1.heap.size < w2.heap.size := by omega
  have m0 : w.heap.size < w2.heap.size + 1 := by omega
  have m1 : w.heap.size + 1 < w2.heap.size + 1 := by omega
  have m2 : w.heap.size + 1 + 1 < w2.heap.size + 1 := by omega
  have m3 : w.heap.size + 1 + 1 + 1 < w2.heap.size + 1 := by omega
  have m4 : w1.heap.size < w2.heap.size + 1 := by omega
  have r0 : w.heap.size < w2.heap.size + 1 + 1 := by omega
  have r1 : w.heap.size + 1 < w2.heap.size + 1 + 1 := by omega
  have r2 : w.heap.size + 1 + 1 < w2.heap.size + 1 + 1 := by omega
  have r3 : w.heap.size + 1 + 1 + 1 < w2.heap.size + 1 + 1 := by omega
  have r4 : w1.heap.size < w2.heap.size + 1 + 1 := by omega
  clear hs1 hs2 hs3 b3 b2 b1 q hg3
  have hn' := HN.out
  unfold caughtV
  go_wp2_with fail
  refine (awake_any _ (H3.out.below ((((Below.refl _ w2).alloc (Nat.le_refl _) _).alloc (by simp) _).alloc (by simp <;> omega) _))).mono ?_
  rintro e w3 ⟨rfl, b5⟩
  have B5 := Lib.hid b5
  clear b5
  go_wp2_with fail
  go_ret
  exact ⟨rfl, (((B3.out.alloc B3.out.size _).alloc (by have := B3.out.size; simp <;> omega) _).alloc (by have := B3.out.size; simp <;> omega) _).trans (B5.out.mono (by have := B3.out.size; simp <;> omega))⟩

set_option maxHeartbeats 1600000 in
theorem musts_bg (n place : Int) (hn : (n != 0) = true) (w : World) (hg : Handle w) : Calls Tryd.prog 3 #[.int .i64 n, .bool true, .int .i64 place] w fun e w' => e = .returned (.bool true) ∧ Below w.heap.size w w' := by
  have HN := Lib.hid hn
  have hmf := hmkf
  have eqC := eqC
  have hnot := hnot
  have HP := Lib.hid hg.pos
  have V0 := Lib.hid (Vars.start n place true w hg)
  clear hg
  go_enter Tryd.func3, Tryd.ntmps3
  go_wp2_with fail
  refine (run5_bad n HN.out _ _ _ V0.out.han V0.out.c0).mono ?_
  rintro e w1 ⟨rfl, b1⟩
  have V1 := Lib.hid (V0.out.below b1)
  have V2 := Lib.hid (V1.out.below ((Below.refl _ w1).alloc (Nat.le_refl _) (.cells #[.int .i64 1, .string ⟨#[]⟩, .int .i64 n, .int .i64 0] 24)))
  unfold caughtV
  go_wp2_with fail
  refine (run7_ok 0 (by omega) n place _ _ _ _ _ V2.out.c1 V2.out.c0 V2.out.c2 V2.out.c3 V2.out.f3).mono ?_
  rintro e w2 ⟨rfl, b2⟩
  obtain ⟨b3, hg3, hs3, d0, d1, d2, d3, z3⟩ := (V2.out.set (0 + 2) HP.out).below (by simpa [World.setCell] using b2)
  have H3 := Lib.hid hg3
  have hs2 : w1.heap.size + 1 ≤ w2.heap.size := by simpa [World.setCell] using b2.size
  have hs1 := V1.out.siz
  have q : ∀ i : Nat, w2.cell? ⟨w1.heap.size, i, none⟩ = (w1.alloc (.cells #[.int .i64 1, .string ⟨#[]⟩, .int .i64 n, .int .i64 0] 24)).cell? ⟨w1.heap.size, i, none⟩ := fun i => by
    rw [b2.cell (p := ⟨w1.heap.size, i, none⟩) (by simp [World.setCell])]
    exact World.cell?_of_block (Below.heap_setCell _ _ _ _ (by dsimp only; omega))
  have q0 : w2.cell? ⟨w1.heap.size, 0, none⟩ = some (.int .i64 1) := (q 0).trans (by simp [go_sem])
  have q1 : w2.cell? ⟨w1.heap.size, 1, none⟩ = some (.string ⟨#[]⟩) := (q 1).trans (by simp [go_sem])
  have q2 : w2.cell? ⟨w1.heap.size, 2, none⟩ = some (.int .i64 n) := (q 2).trans (by simp [go_sem])
  have q3 : w2.cell? ⟨w1.heap.size, 3, none⟩ = some (.int .i64 0) := (q 3).trans (by simp [go_sem])
  have B3 := Lib.hid b3
  have l0 : w.heap.size < w2.heap.size := by omega
  have l1 : w.heap.size + 1 < w2.heap.size := by omega
  have l2 : w.heap.size + 1 + 1 < w2.heap.size := by omega
  have l3 : w.heap.size + 1 + 1 + 1 < w2.heap.size := by omega
  have l4 : w1.heap.size < w2.heap.size := by omega
  have m0 : w.heap.size < w2.heap.size + 1 := by omega
  have m1 : w.heap.size + 1 < w2.heap.size + 1 := by omega
  have m2 : w.heap.size + 1 + 1 < w2.heap.size + 1 := by omega
  have m3 : w.heap.size + 1 + 1 + 1 < w2.heap.size + 1 := by omega
  have m4 : w1.heap.size < w2.heap.size + 1 := by omega
  have r0 : w.heap.size < w2.heap.size + 1 + 1 := by omega
  have r1 : w.heap.size + 1 < w2.heap.size + 1 + 1 := by omega
  have r2 : w.heap.size + 1 + 1 < w2.heap.size + 1 + 1 := by omega
  have r3 : w.heap.size + 1 + 1 + 1 < w2.heap.size + 1 + 1 := by omega
  have r4 : w1.heap.size < w2.heap.size + 1 + 1 := by omega
  clear hs1 hs2 hs3 b3 b2 b1 q hg3
  have hn' := HN.out
  unfold caughtV
  go_wp2_with fail
  refine (awake_any _ (H3.out.below ((((Below.refl _ w2).alloc (Nat.le_refl _) _).alloc (by simp) _).alloc (by simp <;> omega) _))).mono ?_
  rintro e w3 ⟨rfl, b5⟩
  have B5 := Lib.hid b5
  clear b5
  go_wp2_with fail
  go_ret
  exact ⟨rfl, (((B3.out.alloc B3.out.size _).alloc (by have := B3.out.size; simp <;> omega) _).alloc (by have := B3.out.size; simp <;> omega) _).trans (B5.out.mono (by have := B3.out.size; simp <;> omega))⟩

set_option maxHeartbeats 1600000 in
theorem musts_gb (place : Int) (w : World) (hg : Handle w) : Calls Tryd.prog 3 #[.int .i64 0, .bool false, .int .i64 place] w fun e w' => e = .returned (.bool true) ∧ Below w.heap.size w w' := by
  skip
  have hmf := hmkf
  have eqC := eqC
  have hnot := hnot
  have HP := Lib.hid hg.pos
  have V0 := Lib.hid (Vars.start 0 place false w hg)
  clear hg
  go_enter Tryd.func3, Tryd.ntmps3
  go_wp2_with fail
  refine (run5_ok _ _ _ V0.out.c0 V0.out.c3 V0.out.f3).mono ?_
  rintro e w1 ⟨rfl, b1⟩
  have V1 := Lib.hid ((V0.out.set 1 HP.out).below (by simpa [World.setCell] using b1))
  have V2 := Lib.hid (V1.out.below ((Below.refl _ w1).alloc (Nat.le_refl _) (.cells #[.int .i64 0, .string ⟨#[]⟩, .int .i64 0, .int .i64 0] 24)))
  unfold caughtV
  go_wp2_with fail
  refine (run7_bad 0 place _ _ _ _ _ V2.out.han V2.out.c1 V2.out.c0 V2.out.c2).mono ?_
  rintro e w2 ⟨rfl, b2⟩
  obtain ⟨b3, hg3, hs3, d0, d1, d2, d3, z3⟩ := V2.out.below b2
  have H3 := Lib.hid hg3
  have hs2 : w1.heap.size + 1 ≤ w2.heap.size := by simpa [World.setCell] using b2.size
  have hs1 := V1.out.siz
  have q : ∀ i : Nat, w2.cell? ⟨w1.heap.size, i, none⟩ = (w1.alloc (.cells #[.int .i64 0, .string ⟨#[]⟩, .int .i64 0, .int .i64 0] 24)).cell? ⟨w1.heap.size, i, none⟩ := fun i => by
    rw [b2.cell (p := ⟨w1.heap.size, i, none⟩) (by simp [World.setCell])]
    skip
  have q0 : w2.cell? ⟨w1.heap.size, 0, none⟩ = some (.int .i64 0) := (q 0).trans (by simp [go_sem])
  have q1 : w2.cell? ⟨w1.heap.size, 1, none⟩ = some (.string ⟨#[]⟩) := (q 1).trans (by simp [go_sem])
  have q2 : w2.cell? ⟨w1.heap.size, 2, none⟩ = some (.int .i64 0) := (q 2).trans (by simp [go_sem])
  have q3 : w2.cell? ⟨w1.heap.size, 3, none⟩ = some (.int .i64 0) := (q 3).trans (by simp [go_sem])
  have B3 := Lib.hid b3
  have l0 : w.heap.size < w2.heap.size := by omega
  have l1 : w.heap.size + 1 < w2.heap.size := by omega
  have l2 : w.heap.size + 1 + 1 < w2.heap.size := by omega
  have l3 : w.heap.size + 1 + 1 + 1 < w2.heap.size := by omega
  have l4 : w1.heap.size < w2.heap.size := by omega
  have m0 : w.heap.size < w2.heap.size + 1 := by omega
  have m1 : w.heap.size + 1 < w2.heap.size + 1 := by omega
  have m2 : w.heap.size + 1 + 1 < w2.heap.size + 1 := by omega
  have m3 : w.heap.size + 1 + 1 + 1 < w2.heap.size + 1 := by omega
  have m4 : w1.heap.size < w2.heap.size + 1 := by omega
  have r0 : w.heap.size < w2.heap.size + 1 + 1 := by omega
  have r1 : w.heap.size + 1 < w2.heap.size + 1 + 1 := by omega
  have r2 : w.heap.size + 1 + 1 < w2.heap.size + 1 + 1 := by omega
  have r3 : w.heap.size + 1 + 1 + 1 < w2.heap.size + 1 + 1 := by omega
  have r4 : w1.heap.size < w2.heap.size + 1 + 1 := by omega
  clear hs1 hs2 hs3 b3 b2 b1 q hg3
  skip
  unfold caughtV
  go_wp2_with fail
  refine (awake_any _ (H3.out.below ((((Below.refl _ w2).alloc (Nat.le_refl _) _).alloc (by simp) _).alloc (by simp <;> omega) _))).mono ?_
  rintro e w3 ⟨rfl, b5⟩
  have B5 := Lib.hid b5
  clear b5
  go_wp2_with fail
  go_ret
  exact ⟨rfl, (((B3.out.alloc B3.out.size _).alloc (by have := B3.out.size; simp <;> omega) _).alloc (by have := B3.out.size; simp <;> omega) _).trans (B5.out.mono (by have := B3.out.size; simp <;> omega))⟩

set_option maxHeartbeats 1600000 in
theorem musts_gg (place : Int) (w : World) (hg : Handle w) : Calls Tryd.prog 3 #[.int .i64 0, .bool true, .int .i64 place] w fun e w' => e = .returned (.bool true) ∧ Below w.heap.size w w' := by
  skip
  have hmf := hmkf
  have eqC := eqC
  have hnot := hnot
  have HP := Lib.hid hg.pos
  have V0 := Lib.hid (Vars.start 0 place true w hg)
  clear hg
  go_enter Tryd.func3, Tryd.ntmps3
  go_wp2_with fail
  refine (run5_ok _ _ _ V0.out.c0 V0.out.c3 V0.out.f3).mono ?_
  rintro e w1 ⟨rfl, b1⟩
  have V1 := Lib.hid ((V0.out.set 1 HP.out).below (by simpa [World.setCell] using b1))
  have V2 := Lib.hid (V1.out.below ((Below.refl _ w1).alloc (Nat.le_refl _) (.cells #[.int .i64 0, .string ⟨#[]⟩, .int .i64 0, .int .i64 0] 24)))
  unfold caughtV
  go_wp2_with fail
  refine (run7_ok 1 (by omega) 0 place _ _ _ _ _ V2.out.c1 V2.out.c0 V2.out.c2 V2.out.c3 V2.out.f3).mono ?_
  rintro e w2 ⟨rfl, b2⟩
  obtain ⟨b3, hg3, hs3, d0, d1, d2, d3, z3⟩ := (V2.out.set (1 + 2) HP.out).below (by simpa [World.setCell] using b2)
  have H3 := Lib.hid hg3
  have hs2 : w1.heap.size + 1 ≤ w2.heap.size := by simpa [World.setCell] using b2.size
  have hs1 := V1.out.siz
  have q : ∀ i : Nat, w2.cell? ⟨w1.heap.size, i, none⟩ = (w1.alloc (.cells #[.int .i64 0, .string ⟨#[]⟩, .int .i64 0, .int .i64 0] 24)).cell? ⟨w1.heap.size, i, none⟩ := fun i => by
    rw [b2.cell (p := ⟨w1.heap.size, i, none⟩) (by simp [World.setCell])]
    exact World.cell?_of_block (Below.heap_setCell _ _ _ _ (by dsimp only; omega))
  have q0 : w2.cell? ⟨w1.heap.size, 0, none⟩ = some (.int .i64 0) := (q 0).trans (by simp [go_sem])
  have q1 : w2.cell? ⟨w1.heap.size, 1, none⟩ = some (.string ⟨#[]⟩) := (q 1).trans (by simp [go_sem])
  have q2 : w2.cell? ⟨w1.heap.size, 2, none⟩ = some (.int .i64 0) := (q 2).trans (by simp [go_sem])
  have q3 : w2.cell? ⟨w1.heap.size, 3, none⟩ = some (.int .i64 0) := (q 3).trans (by simp [go_sem])
  have B3 := Lib.hid b3
  have l0 : w.heap.size < w2.heap.size := by omega
  have l1 : w.heap.size + 1 < w2.heap.size := by omega
  have l2 : w.heap.size + 1 + 1 < w2.heap.size := by omega
  have l3 : w.heap.size + 1 + 1 + 1 < w2.heap.size := by omega
  have l4 : w1.heap.size < w2.heap.size := by omega
  have m0 : w.heap.size < w2.heap.size + 1 := by omega
  have m1 : w.heap.size + 1 < w2.heap.size + 1 := by omega
  have m2 : w.heap.size + 1 + 1 < w2.heap.size + 1 := by omega
  have m3 : w.heap.size + 1 + 1 + 1 < w2.heap.size + 1 := by omega
  have m4 : w1.heap.size < w2.heap.size + 1 := by omega
  have r0 : w.heap.size < w2.heap.size + 1 + 1 := by omega
  have r1 : w.heap.size + 1 < w2.heap.size + 1 + 1 := by omega
  have r2 : w.heap.size + 1 + 1 < w2.heap.size + 1 + 1 := by omega
  have r3 : w.heap.size + 1 + 1 + 1 < w2.heap.size + 1 + 1 := by omega
  have r4 : w1.heap.size < w2.heap.size + 1 + 1 := by omega
  clear hs1 hs2 hs3 b3 b2 b1 q hg3
  skip
  unfold caughtV
  go_wp2_with fail
  refine (awake_any _ (H3.out.below ((((Below.refl _ w2).alloc (Nat.le_refl _) _).alloc (by simp) _).alloc (by simp <;> omega) _))).mono ?_
  rintro e w3 ⟨rfl, b5⟩
  have B5 := Lib.hid b5
  clear b5
  go_wp2_with fail
  go_ret
  exact ⟨rfl, (((B3.out.alloc B3.out.size _).alloc (by have := B3.out.size; simp <;> omega) _).alloc (by have := B3.out.size; simp <;> omega) _).trans (B5.out.mono (by have := B3.out.size; simp <;> omega))⟩

theorem musts_any (n place : Int) (ok : Bool) (w : World) (hg : Handle w) : Calls Tryd.prog 3 #[.int .i64 n, .bool ok, .int .i64 place] w fun e w' => e = .returned (.bool true) ∧ Below w.heap.size w w' := by
  by_cases hn : n = 0
  · subst hn
    cases ok
    · exact musts_gb place w hg
    · exact musts_gg place w hg
  · have hn' : (n != 0) = true := by simpa using hn
    cases ok
    · exact musts_bb n place hn' w hg
    · exact musts_bg n place hn' w hg
theorem musts (n : Int) (ok : Bool) (place : Int) (w : World) (_ : (Lit.int .i64 n).wf = true) (_ : (Lit.int .i64 place).wf = true) (hg : Handle w) : Calls Tryd.prog 3 #[.int .i64 n, .bool ok, .int .i64 place] w fun e w' => e = .returned (.bool true) ∧ Below w.heap.size w w' :=
  musts_any n place ok w hg
end Go.Proofs.YtahdmdfcakpajaaDoor
