/- Graphs: the deeds of each kind. -/
import Derived.Test.YtgjpgpjdealbeaaNgQ
namespace Go.Proofs.Ytgjpgpjdealbeaa
open Go.RowKit Go.Lib Go.Fq Go.Iq Go.Nq Go.Ow
set_option linter.unusedVariables false
set_option linter.unusedSimpArgs false
set_option maxRecDepth 100000

theorem g_storeF (a : Addr) (f : Fn) (ts cs : Array Value) (m : Mode) (w : World) : (store a (.func f ts cs) m).run Try.prog w = stored Try.prog w a (.func f ts cs) m := run_store Try.prog w a _ m rfl
/-- One operation of a plain region, its value told. -/
theorem ltk {ops : Array Oper} {Q : Exit → Act → World → Prop} {rest : List Oper} {o : Oper} {a : Act} {w w' : World} {v : Value} (hg : o.guard = none) (hr : (execOp a.eval o).run Try.prog w = .ok (.value v) w')
    (h : wpList Try.prog ops Q rest (a.put o.dst v) w') : wpList Try.prog ops Q (o :: rest) a w :=
  wpList_plain hg fun K hK => by unfold Oper.wp; rw [hr]; exact hK _ _ h
theorem gOnLink_any (n : Nat) (w : World) : Calls Try.prog 65 #[.func (.func n) #[] #[]] w fun e w' => e = .returned (.func (.func 81) #[] #[.pointer (some ⟨w.heap.size, 0, none⟩)]) ∧ w' = w.alloc (.cells #[.func (.func n) #[] #[]] 84) := by
  go_enter Try.func65, Try.ntmps65
  go_wp2_with fail
  go_ret
  exact ⟨rfl, rfl⟩
theorem gOnNode_any (n : Nat) (w : World) : Calls Try.prog 68 #[.func (.func n) #[] #[]] w fun e w' => e = .returned (.func (.func 82) #[] #[.pointer (some ⟨w.heap.size, 0, none⟩)]) ∧ w' = w.alloc (.cells #[.func (.func n) #[] #[]] 87) := by
  go_enter Try.func68, Try.ntmps68
  go_wp2_with fail
  go_ret
  exact ⟨rfl, rfl⟩
/-- What deedOf tells of a kind. -/
def DeedEnds (w : World) (kd : Int) (e : Ending) (w' : World) : Prop := Below w.heap.size w w' ∧ (((kd < 1 ∨ 10 ≤ kd) ∧ e = .returned (.tuple #[.agg #[.bool false, .bool false, .nilFunc], .bool false])) ∨
  (kd = 1 ∧ e = .returned (.tuple #[.agg #[.bool false, .bool false, .func (.func 62) #[] #[]], .bool true])) ∨
  (kd = 2 ∧ e = .returned (.tuple #[.agg #[.bool true, .bool true, .func (.func 63) #[] #[]], .bool true])) ∨
  (kd = 3 ∧ e = .returned (.tuple #[.agg #[.bool true, .bool true, .func (.func 64) #[] #[]], .bool true])) ∨
  (kd = 4 ∧ ∃ db, e = .returned (.tuple #[.agg #[.bool true, .bool false, .func (.func 81) #[] #[.pointer (some ⟨db, 0, none⟩)]], .bool true]) ∧ w'.cell? ⟨db, 0, none⟩ = some (.func (.func 66) #[] #[])) ∨
  (kd = 5 ∧ ∃ db, e = .returned (.tuple #[.agg #[.bool true, .bool false, .func (.func 81) #[] #[.pointer (some ⟨db, 0, none⟩)]], .bool true]) ∧ w'.cell? ⟨db, 0, none⟩ = some (.func (.func 67) #[] #[])) ∨
  (kd = 6 ∧ ∃ db, e = .returned (.tuple #[.agg #[.bool false, .bool false, .func (.func 82) #[] #[.pointer (some ⟨db, 0, none⟩)]], .bool true]) ∧ w'.cell? ⟨db, 0, none⟩ = some (.func (.func 69) #[] #[])) ∨
  (kd = 7 ∧ ∃ db, e = .returned (.tuple #[.agg #[.bool false, .bool false, .func (.func 82) #[] #[.pointer (some ⟨db, 0, none⟩)]], .bool true]) ∧ w'.cell? ⟨db, 0, none⟩ = some (.func (.func 70) #[] #[])) ∨
  (kd = 8 ∧ ∃ db, e = .returned (.tuple #[.agg #[.bool false, .bool false, .func (.func 82) #[] #[.pointer (some ⟨db, 0, none⟩)]], .bool true]) ∧ w'.cell? ⟨db, 0, none⟩ = some (.func (.func 71) #[] #[])) ∨
  (kd = 9 ∧ ∃ db, e = .returned (.tuple #[.agg #[.bool false, .bool false, .func (.func 82) #[] #[.pointer (some ⟨db, 0, none⟩)]], .bool true]) ∧ w'.cell? ⟨db, 0, none⟩ = some (.func (.func 72) #[] #[])))
set_option maxHeartbeats 4000000 in
theorem gDeedOf_any (kd : Int) (w : World) : Calls Try.prog 48 #[.int .i64 kd] w fun e w' => DeedEnds w kd e w' := by
  obtain ⟨W0, hW0⟩ : ∃ W0, W0 = w.alloc (.cells #[.bool false, .bool false, .nilFunc] 72) := ⟨_, rfl⟩
  go_enter Try.func48, Try.ntmps48
  go_upto_region 1 with (fail)
  rw [← hW0]
  have HW0 := Lib.hid hW0
  clear hW0
  refine wp_region_list ?_
  simp only [Array.toList]
  refine ltk (v := .agg #[.bool false, .bool false, .func (.func 62) #[] #[]]) rfl (by go_simp; try with_reducible rfl) ?_
  try simp only [Act.put, List.setIfInBounds_toArray, List.set_cons_zero, List.set_cons_succ, List.getElem_toArray, List.getElem_cons_succ, List.getElem_cons_zero]
  refine ltk (v := .agg #[.bool true, .bool true, .func (.func 63) #[] #[]]) rfl (by go_simp; try with_reducible rfl) ?_
  try simp only [Act.put, List.setIfInBounds_toArray, List.set_cons_zero, List.set_cons_succ, List.getElem_toArray, List.getElem_cons_succ, List.getElem_cons_zero]
  refine ltk (v := .agg #[.bool true, .bool true, .func (.func 64) #[] #[]]) rfl (by go_simp; try with_reducible rfl) ?_
  try simp only [Act.put, List.setIfInBounds_toArray, List.set_cons_zero, List.set_cons_succ, List.getElem_toArray, List.getElem_cons_succ, List.getElem_cons_zero]
  refine wpList_plain rfl fun K hK => ?_
  have HK := Lib.hid hK
  clear hK
  go_simp
  refine (gOnLink_any _ _).mono ?_
  rintro e W4 ⟨rfl, hW4⟩
  have HW4 := Lib.hid hW4
  clear hW4
  go_wp2_with fail
  refine HK.out _ _ ?_
  clear HK
  obtain ⟨d4, hd4⟩ : ∃ d, d = W0.heap.size := ⟨_, rfl⟩
  rw [← hd4]
  have HD4 := Lib.hid hd4
  clear hd4 K
  try simp only [Act.put, List.setIfInBounds_toArray, List.set_cons_zero, List.set_cons_succ, List.getElem_toArray, List.getElem_cons_succ, List.getElem_cons_zero]
  refine ltk (v := .agg #[.bool true, .bool false, .func (.func 81) #[] #[.pointer (some ⟨d4, 0, none⟩)]]) rfl (by go_simp; try with_reducible rfl) ?_
  try simp only [Act.put, List.setIfInBounds_toArray, List.set_cons_zero, List.set_cons_succ, List.getElem_toArray, List.getElem_cons_succ, List.getElem_cons_zero]
  refine wpList_plain rfl fun K hK => ?_
  have HK := Lib.hid hK
  clear hK
  go_simp
  refine (gOnLink_any _ _).mono ?_
  rintro e W5 ⟨rfl, hW5⟩
  have HW5 := Lib.hid hW5
  clear hW5
  go_wp2_with fail
  refine HK.out _ _ ?_
  clear HK
  obtain ⟨d5, hd5⟩ : ∃ d, d = W4.heap.size := ⟨_, rfl⟩
  rw [← hd5]
  have HD5 := Lib.hid hd5
  clear hd5 K
  try simp only [Act.put, List.setIfInBounds_toArray, List.set_cons_zero, List.set_cons_succ, List.getElem_toArray, List.getElem_cons_succ, List.getElem_cons_zero]
  refine ltk (v := .agg #[.bool true, .bool false, .func (.func 81) #[] #[.pointer (some ⟨d5, 0, none⟩)]]) rfl (by go_simp; try with_reducible rfl) ?_
  try simp only [Act.put, List.setIfInBounds_toArray, List.set_cons_zero, List.set_cons_succ, List.getElem_toArray, List.getElem_cons_succ, List.getElem_cons_zero]
  refine wpList_plain rfl fun K hK => ?_
  have HK := Lib.hid hK
  clear hK
  go_simp
  refine (gOnNode_any _ _).mono ?_
  rintro e W6 ⟨rfl, hW6⟩
  have HW6 := Lib.hid hW6
  clear hW6
  go_wp2_with fail
  refine HK.out _ _ ?_
  clear HK
  obtain ⟨d6, hd6⟩ : ∃ d, d = W5.heap.size := ⟨_, rfl⟩
  rw [← hd6]
  have HD6 := Lib.hid hd6
  clear hd6 K
  try simp only [Act.put, List.setIfInBounds_toArray, List.set_cons_zero, List.set_cons_succ, List.getElem_toArray, List.getElem_cons_succ, List.getElem_cons_zero]
  refine ltk (v := .agg #[.bool false, .bool false, .func (.func 82) #[] #[.pointer (some ⟨d6, 0, none⟩)]]) rfl (by go_simp; try with_reducible rfl) ?_
  try simp only [Act.put, List.setIfInBounds_toArray, List.set_cons_zero, List.set_cons_succ, List.getElem_toArray, List.getElem_cons_succ, List.getElem_cons_zero]
  refine wpList_plain rfl fun K hK => ?_
  have HK := Lib.hid hK
  clear hK
  go_simp
  refine (gOnNode_any _ _).mono ?_
  rintro e W7 ⟨rfl, hW7⟩
  have HW7 := Lib.hid hW7
  clear hW7
  go_wp2_with fail
  refine HK.out _ _ ?_
  clear HK
  obtain ⟨d7, hd7⟩ : ∃ d, d = W6.heap.size := ⟨_, rfl⟩
  rw [← hd7]
  have HD7 := Lib.hid hd7
  clear hd7 K
  try simp only [Act.put, List.setIfInBounds_toArray, List.set_cons_zero, List.set_cons_succ, List.getElem_toArray, List.getElem_cons_succ, List.getElem_cons_zero]
  refine ltk (v := .agg #[.bool false, .bool false, .func (.func 82) #[] #[.pointer (some ⟨d7, 0, none⟩)]]) rfl (by go_simp; try with_reducible rfl) ?_
  try simp only [Act.put, List.setIfInBounds_toArray, List.set_cons_zero, List.set_cons_succ, List.getElem_toArray, List.getElem_cons_succ, List.getElem_cons_zero]
  refine wpList_plain rfl fun K hK => ?_
  have HK := Lib.hid hK
  clear hK
  go_simp
  refine (gOnNode_any _ _).mono ?_
  rintro e W8 ⟨rfl, hW8⟩
  have HW8 := Lib.hid hW8
  clear hW8
  go_wp2_with fail
  refine HK.out _ _ ?_
  clear HK
  obtain ⟨d8, hd8⟩ : ∃ d, d = W7.heap.size := ⟨_, rfl⟩
  rw [← hd8]
  have HD8 := Lib.hid hd8
  clear hd8 K
  try simp only [Act.put, List.setIfInBounds_toArray, List.set_cons_zero, List.set_cons_succ, List.getElem_toArray, List.getElem_cons_succ, List.getElem_cons_zero]
  refine ltk (v := .agg #[.bool false, .bool false, .func (.func 82) #[] #[.pointer (some ⟨d8, 0, none⟩)]]) rfl (by go_simp; try with_reducible rfl) ?_
  try simp only [Act.put, List.setIfInBounds_toArray, List.set_cons_zero, List.set_cons_succ, List.getElem_toArray, List.getElem_cons_succ, List.getElem_cons_zero]
  refine wpList_plain rfl fun K hK => ?_
  have HK := Lib.hid hK
  clear hK
  go_simp
  refine (gOnNode_any _ _).mono ?_
  rintro e W9 ⟨rfl, hW9⟩
  have HW9 := Lib.hid hW9
  clear hW9
  go_wp2_with fail
  refine HK.out _ _ ?_
  clear HK
  obtain ⟨d9, hd9⟩ : ∃ d, d = W8.heap.size := ⟨_, rfl⟩
  rw [← hd9]
  have HD9 := Lib.hid hd9
  clear hd9 K
  try simp only [Act.put, List.setIfInBounds_toArray, List.set_cons_zero, List.set_cons_succ, List.getElem_toArray, List.getElem_cons_succ, List.getElem_cons_zero]
  refine ltk (v := .agg #[.bool false, .bool false, .func (.func 82) #[] #[.pointer (some ⟨d9, 0, none⟩)]]) rfl (by go_simp; try with_reducible rfl) ?_
  try simp only [Act.put, List.setIfInBounds_toArray, List.set_cons_zero, List.set_cons_succ, List.getElem_toArray, List.getElem_cons_succ, List.getElem_cons_zero]
  refine ltk (v := .agg #[.bool false, .bool false, .nilFunc, .bool false, .bool false, .func (.func 62) #[] #[], .bool true, .bool true, .func (.func 63) #[] #[], .bool true, .bool true, .func (.func 64) #[] #[], .bool true, .bool false, .func (.func 81) #[] #[.pointer (some ⟨d4, 0, none⟩)], .bool true, .bool false, .func (.func 81) #[] #[.pointer (some ⟨d5, 0, none⟩)], .bool false, .bool false, .func (.func 82) #[] #[.pointer (some ⟨d6, 0, none⟩)], .bool false, .bool false, .func (.func 82) #[] #[.pointer (some ⟨d7, 0, none⟩)], .bool false, .bool false, .func (.func 82) #[] #[.pointer (some ⟨d8, 0, none⟩)], .bool false, .bool false, .func (.func 82) #[] #[.pointer (some ⟨d9, 0, none⟩)]]) (w' := W9) rfl (by kernel_rfl) ?_
  try simp only [Act.put, List.setIfInBounds_toArray, List.set_cons_zero, List.set_cons_succ, List.getElem_toArray, List.getElem_cons_succ, List.getElem_cons_zero]
  obtain ⟨W10, hW10⟩ : ∃ W10, W10 = W9.alloc (.cells (([.bool false, .bool false, .nilFunc, .bool false, .bool false, .nilFunc, .bool false, .bool false, .nilFunc, .bool false, .bool false, .nilFunc, .bool false, .bool false, .nilFunc, .bool false, .bool false, .nilFunc, .bool false, .bool false, .nilFunc, .bool false, .bool false, .nilFunc, .bool false, .bool false, .nilFunc, .bool false, .bool false, .nilFunc] : List Value).toArray) 88) := ⟨_, rfl⟩
  obtain ⟨d0, hd0⟩ : ∃ d, d = W9.heap.size := ⟨_, rfl⟩
  refine ltk (v := .pointer (some ⟨d0, 0, none⟩)) (w' := W10) rfl (by rw [hW10, hd0]; go_simp; try with_reducible rfl) ?_
  try simp only [Act.put, List.setIfInBounds_toArray, List.set_cons_zero, List.set_cons_succ, List.getElem_toArray, List.getElem_cons_succ, List.getElem_cons_zero]
  have hth : W10.there d0 0 30 := by rw [hW10, hd0]; exact there_box W9 _ _
  refine wpList_store_mid rfl 88 (.tmp 4) (.tmp 20) rfl d0 0 _ rfl rfl hth (by kernel_rfl) (by kernel_rfl) ?_
  try simp only [Act.put, List.setIfInBounds_toArray, List.set_cons_zero, List.set_cons_succ, List.getElem_toArray, List.getElem_cons_succ, List.getElem_cons_zero]
  have hall := World.rangeAt_setCells_same W10 d0 0 (#[.bool false, .bool false, .nilFunc, .bool false, .bool false, .func (.func 62) #[] #[], .bool true, .bool true, .func (.func 63) #[] #[], .bool true, .bool true, .func (.func 64) #[] #[], .bool true, .bool false, .func (.func 81) #[] #[.pointer (some ⟨d4, 0, none⟩)], .bool true, .bool false, .func (.func 81) #[] #[.pointer (some ⟨d5, 0, none⟩)], .bool false, .bool false, .func (.func 82) #[] #[.pointer (some ⟨d6, 0, none⟩)], .bool false, .bool false, .func (.func 82) #[] #[.pointer (some ⟨d7, 0, none⟩)], .bool false, .bool false, .func (.func 82) #[] #[.pointer (some ⟨d8, 0, none⟩)], .bool false, .bool false, .func (.func 82) #[] #[.pointer (some ⟨d9, 0, none⟩)]] : Array Value).toList hth
  have h9 : (w.heap.size < d4 ∧ d4 < W9.heap.size) ∧ W9.cell? ⟨d4, 0, none⟩ = some (.func (.func 66) #[] #[]) ∧ (w.heap.size < d5 ∧ d5 < W9.heap.size) ∧ W9.cell? ⟨d5, 0, none⟩ = some (.func (.func 67) #[] #[]) ∧ (w.heap.size < d6 ∧ d6 < W9.heap.size) ∧ W9.cell? ⟨d6, 0, none⟩ = some (.func (.func 69) #[] #[]) ∧ (w.heap.size < d7 ∧ d7 < W9.heap.size) ∧ W9.cell? ⟨d7, 0, none⟩ = some (.func (.func 70) #[] #[]) ∧ (w.heap.size < d8 ∧ d8 < W9.heap.size) ∧ W9.cell? ⟨d8, 0, none⟩ = some (.func (.func 71) #[] #[]) ∧ (w.heap.size < d9 ∧ d9 < W9.heap.size) ∧ W9.cell? ⟨d9, 0, none⟩ = some (.func (.func 72) #[] #[]) ∧ Below w.heap.size w W9 ∧ w.heap.size < W9.heap.size ∧ W9.there w.heap.size 0 3 := by
    have a0 := HW0.out
    have s0 : W0.heap.size = w.heap.size + 1 := by rw [a0]; simp
    have r0 : W0.there w.heap.size 0 3 := by rw [a0]; exact there_box w [.bool false, .bool false, .nilFunc] _
    have b0 : Below w.heap.size w W0 := by rw [a0]; exact gAl _ _
    have a4 := HW4.out
    have s4 : W4.heap.size = W0.heap.size + 1 := by rw [a4]; simp
    have b4 : Below W0.heap.size W0 W4 := by rw [a4]; exact gAl _ _
    have c4 : W4.cell? ⟨d4, 0, none⟩ = some (.func (.func 66) #[] #[]) := by rw [HD4.out, a4]; simp [go_sem]
    have e4 := HD4.out
    have a5 := HW5.out
    have s5 : W5.heap.size = W4.heap.size + 1 := by rw [a5]; simp
    have b5 : Below W4.heap.size W4 W5 := by rw [a5]; exact gAl _ _
    have c5 : W5.cell? ⟨d5, 0, none⟩ = some (.func (.func 67) #[] #[]) := by rw [HD5.out, a5]; simp [go_sem]
    have e5 := HD5.out
    have a6 := HW6.out
    have s6 : W6.heap.size = W5.heap.size + 1 := by rw [a6]; simp
    have b6 : Below W5.heap.size W5 W6 := by rw [a6]; exact gAl _ _
    have c6 : W6.cell? ⟨d6, 0, none⟩ = some (.func (.func 69) #[] #[]) := by rw [HD6.out, a6]; simp [go_sem]
    have e6 := HD6.out
    have a7 := HW7.out
    have s7 : W7.heap.size = W6.heap.size + 1 := by rw [a7]; simp
    have b7 : Below W6.heap.size W6 W7 := by rw [a7]; exact gAl _ _
    have c7 : W7.cell? ⟨d7, 0, none⟩ = some (.func (.func 70) #[] #[]) := by rw [HD7.out, a7]; simp [go_sem]
    have e7 := HD7.out
    have a8 := HW8.out
    have s8 : W8.heap.size = W7.heap.size + 1 := by rw [a8]; simp
    have b8 : Below W7.heap.size W7 W8 := by rw [a8]; exact gAl _ _
    have c8 : W8.cell? ⟨d8, 0, none⟩ = some (.func (.func 71) #[] #[]) := by rw [HD8.out, a8]; simp [go_sem]
    have e8 := HD8.out
    have a9 := HW9.out
    have s9 : W9.heap.size = W8.heap.size + 1 := by rw [a9]; simp
    have b9 : Below W8.heap.size W8 W9 := by rw [a9]; exact gAl _ _
    have c9 : W9.cell? ⟨d9, 0, none⟩ = some (.func (.func 72) #[] #[]) := by rw [HD9.out, a9]; simp [go_sem]
    have e9 := HD9.out
    have c4_5 := (b5.cell (p := ⟨d4, 0, none⟩) (by show d4 < _; omega)).trans c4
    have c4_6 := (b6.cell (p := ⟨d4, 0, none⟩) (by show d4 < _; omega)).trans c4_5
    have c4_7 := (b7.cell (p := ⟨d4, 0, none⟩) (by show d4 < _; omega)).trans c4_6
    have c4_8 := (b8.cell (p := ⟨d4, 0, none⟩) (by show d4 < _; omega)).trans c4_7
    have c4_9 := (b9.cell (p := ⟨d4, 0, none⟩) (by show d4 < _; omega)).trans c4_8
    have c5_6 := (b6.cell (p := ⟨d5, 0, none⟩) (by show d5 < _; omega)).trans c5
    have c5_7 := (b7.cell (p := ⟨d5, 0, none⟩) (by show d5 < _; omega)).trans c5_6
    have c5_8 := (b8.cell (p := ⟨d5, 0, none⟩) (by show d5 < _; omega)).trans c5_7
    have c5_9 := (b9.cell (p := ⟨d5, 0, none⟩) (by show d5 < _; omega)).trans c5_8
    have c6_7 := (b7.cell (p := ⟨d6, 0, none⟩) (by show d6 < _; omega)).trans c6
    have c6_8 := (b8.cell (p := ⟨d6, 0, none⟩) (by show d6 < _; omega)).trans c6_7
    have c6_9 := (b9.cell (p := ⟨d6, 0, none⟩) (by show d6 < _; omega)).trans c6_8
    have c7_8 := (b8.cell (p := ⟨d7, 0, none⟩) (by show d7 < _; omega)).trans c7
    have c7_9 := (b9.cell (p := ⟨d7, 0, none⟩) (by show d7 < _; omega)).trans c7_8
    have c8_9 := (b9.cell (p := ⟨d8, 0, none⟩) (by show d8 < _; omega)).trans c8
    have r4 := there_next r0 (by omega : w.heap.size < W0.heap.size) b4
    have r5 := there_next r4 (by omega : w.heap.size < W4.heap.size) b5
    have r6 := there_next r5 (by omega : w.heap.size < W5.heap.size) b6
    have r7 := there_next r6 (by omega : w.heap.size < W6.heap.size) b7
    have r8 := there_next r7 (by omega : w.heap.size < W7.heap.size) b8
    have r9 := there_next r8 (by omega : w.heap.size < W8.heap.size) b9
    exact ⟨(by omega : w.heap.size < d4 ∧ d4 < W9.heap.size), c4_9, (by omega : w.heap.size < d5 ∧ d5 < W9.heap.size), c5_9, (by omega : w.heap.size < d6 ∧ d6 < W9.heap.size), c6_9, (by omega : w.heap.size < d7 ∧ d7 < W9.heap.size), c7_9, (by omega : w.heap.size < d8 ∧ d8 < W9.heap.size), c8_9, (by omega : w.heap.size < d9 ∧ d9 < W9.heap.size), c9, gNx (gNx (gNx (gNx (gNx (gNx b0 b4) b5) b6) b7) b8) b9, by omega, r9⟩
  have hV9 : Below W9.heap.size W9 (W10.setCells d0 0 (#[.bool false, .bool false, .nilFunc, .bool false, .bool false, .func (.func 62) #[] #[], .bool true, .bool true, .func (.func 63) #[] #[], .bool true, .bool true, .func (.func 64) #[] #[], .bool true, .bool false, .func (.func 81) #[] #[.pointer (some ⟨d4, 0, none⟩)], .bool true, .bool false, .func (.func 81) #[] #[.pointer (some ⟨d5, 0, none⟩)], .bool false, .bool false, .func (.func 82) #[] #[.pointer (some ⟨d6, 0, none⟩)], .bool false, .bool false, .func (.func 82) #[] #[.pointer (some ⟨d7, 0, none⟩)], .bool false, .bool false, .func (.func 82) #[] #[.pointer (some ⟨d8, 0, none⟩)], .bool false, .bool false, .func (.func 82) #[] #[.pointer (some ⟨d9, 0, none⟩)]] : Array Value).toList) := by rw [hW10, hd0]; exact below_set _ (Nat.le_refl _) _ _ _ (gAl _ _)
  have hsz : W9.heap.size < (W10.setCells d0 0 (#[.bool false, .bool false, .nilFunc, .bool false, .bool false, .func (.func 62) #[] #[], .bool true, .bool true, .func (.func 63) #[] #[], .bool true, .bool true, .func (.func 64) #[] #[], .bool true, .bool false, .func (.func 81) #[] #[.pointer (some ⟨d4, 0, none⟩)], .bool true, .bool false, .func (.func 81) #[] #[.pointer (some ⟨d5, 0, none⟩)], .bool false, .bool false, .func (.func 82) #[] #[.pointer (some ⟨d6, 0, none⟩)], .bool false, .bool false, .func (.func 82) #[] #[.pointer (some ⟨d7, 0, none⟩)], .bool false, .bool false, .func (.func 82) #[] #[.pointer (some ⟨d8, 0, none⟩)], .bool false, .bool false, .func (.func 82) #[] #[.pointer (some ⟨d9, 0, none⟩)]] : Array Value).toList).heap.size := by rw [setCells_size, hW10]; simp
  clear hW10 hth hd0
  generalize W10.setCells d0 0 (#[.bool false, .bool false, .nilFunc, .bool false, .bool false, .func (.func 62) #[] #[], .bool true, .bool true, .func (.func 63) #[] #[], .bool true, .bool true, .func (.func 64) #[] #[], .bool true, .bool false, .func (.func 81) #[] #[.pointer (some ⟨d4, 0, none⟩)], .bool true, .bool false, .func (.func 81) #[] #[.pointer (some ⟨d5, 0, none⟩)], .bool false, .bool false, .func (.func 82) #[] #[.pointer (some ⟨d6, 0, none⟩)], .bool false, .bool false, .func (.func 82) #[] #[.pointer (some ⟨d7, 0, none⟩)], .bool false, .bool false, .func (.func 82) #[] #[.pointer (some ⟨d8, 0, none⟩)], .bool false, .bool false, .func (.func 82) #[] #[.pointer (some ⟨d9, 0, none⟩)]] : Array Value).toList = V at *
  obtain ⟨g4, c4, g5, c5, g6, c6, g7, c7, g8, c8, g9, c9, hbw, hsw, hre⟩ := h9
  have hre2 := there_next hre hsw hV9
  have hbv := gNx hbw hV9
  have D4 := Lib.hid ((hV9.cell (p := ⟨d4, 0, none⟩) g4.2).trans c4)
  have D5 := Lib.hid ((hV9.cell (p := ⟨d5, 0, none⟩) g5.2).trans c5)
  have D6 := Lib.hid ((hV9.cell (p := ⟨d6, 0, none⟩) g6.2).trans c6)
  have D7 := Lib.hid ((hV9.cell (p := ⟨d7, 0, none⟩) g7.2).trans c7)
  have D8 := Lib.hid ((hV9.cell (p := ⟨d8, 0, none⟩) g8.2).trans c8)
  have D9 := Lib.hid ((hV9.cell (p := ⟨d9, 0, none⟩) g9.2).trans c9)
  have N4 := Lib.hid g4.1
  have N5 := Lib.hid g5.1
  have N6 := Lib.hid g6.1
  have N7 := Lib.hid g7.1
  have N8 := Lib.hid g8.1
  have N9 := Lib.hid g9.1
  have HB := Lib.hid hbv
  have HALL := Lib.hid hall
  have HRE := Lib.hid hre2
  have HSW := Lib.hid hsw
  have H9 := Lib.hid hV9
  clear g4 c4 HW4 g5 c5 HW5 g6 c6 HW6 g7 c7 HW7 g8 c8 HW8 g9 c9 HW9 hbw hsw hre hre2 hbv hall hV9 hsz HW0
  by_cases hk1 : kd < 1
  · go_wp2_with (refine wpList_store_mid rfl 72 (.tmp 2) (.tmp 27) rfl w.heap.size 0 _ rfl rfl HRE.out (by kernel_rfl) (by kernel_rfl) ?_)
    refine bodyPost_ret (results_cell2 Try.results48 _ _ w.heap.size 0 [.bool false, .bool false, .nilFunc] _ rfl (World.rangeAt_setCells_same V w.heap.size 0 [.bool false, .bool false, .nilFunc] HRE.out) Try.underlying72 (by rfl) (by kernel_rfl)) rfl ?_
    exact ⟨below_set _ (Nat.le_refl _) _ _ _ HB.out, Or.inl ⟨by omega, rfl⟩⟩
  by_cases hk10 : 10 ≤ kd
  · go_wp2_with (refine wpList_store_mid rfl 72 (.tmp 2) (.tmp 27) rfl w.heap.size 0 _ rfl rfl HRE.out (by kernel_rfl) (by kernel_rfl) ?_)
    refine bodyPost_ret (results_cell2 Try.results48 _ _ w.heap.size 0 [.bool false, .bool false, .nilFunc] _ rfl (World.rangeAt_setCells_same V w.heap.size 0 [.bool false, .bool false, .nilFunc] HRE.out) Try.underlying72 (by rfl) (by kernel_rfl)) rfl ?_
    exact ⟨below_set _ (Nat.le_refl _) _ _ _ HB.out, Or.inl ⟨by omega, rfl⟩⟩
  obtain rfl | rfl | rfl | rfl | rfl | rfl | rfl | rfl | rfl : kd = 1 ∨ kd = 2 ∨ kd = 3 ∨ kd = 4 ∨ kd = 5 ∨ kd = 6 ∨ kd = 7 ∨ kd = 8 ∨ kd = 9 := by omega
  · have x0 : V.cell? ⟨d0, 3, none⟩ = some (.bool false) := by have := HALL.out 3 _ rfl; rwa [Nat.zero_add] at this
    have x1 : V.cell? ⟨d0, 4, none⟩ = some (.bool false) := by have := HALL.out 4 _ rfl; rwa [Nat.zero_add] at this
    have x2 : V.cell? ⟨d0, 5, none⟩ = some (.func (.func 62) #[] #[]) := by have := HALL.out 5 _ rfl; rwa [Nat.zero_add] at this
    go_wp2_with (refine wpList_store_mid rfl 72 (.tmp 2) (.tmp 30) rfl w.heap.size 0 _ rfl rfl HRE.out (by kernel_rfl) (by kernel_rfl) ?_)
    refine bodyPost_ret (results_cell2 Try.results48 _ _ w.heap.size 0 [.bool false, .bool false, .func (.func 62) #[] #[]] _ rfl (World.rangeAt_setCells_same V w.heap.size 0 [.bool false, .bool false, .func (.func 62) #[] #[]] HRE.out) Try.underlying72 (by rfl) (by kernel_rfl)) rfl ?_
    exact ⟨below_set _ (Nat.le_refl _) _ _ _ HB.out, Or.inr (Or.inl ⟨rfl, rfl⟩)⟩
  · have x0 : V.cell? ⟨d0, 6, none⟩ = some (.bool true) := by have := HALL.out 6 _ rfl; rwa [Nat.zero_add] at this
    have x1 : V.cell? ⟨d0, 7, none⟩ = some (.bool true) := by have := HALL.out 7 _ rfl; rwa [Nat.zero_add] at this
    have x2 : V.cell? ⟨d0, 8, none⟩ = some (.func (.func 63) #[] #[]) := by have := HALL.out 8 _ rfl; rwa [Nat.zero_add] at this
    go_wp2_with (refine wpList_store_mid rfl 72 (.tmp 2) (.tmp 30) rfl w.heap.size 0 _ rfl rfl HRE.out (by kernel_rfl) (by kernel_rfl) ?_)
    refine bodyPost_ret (results_cell2 Try.results48 _ _ w.heap.size 0 [.bool true, .bool true, .func (.func 63) #[] #[]] _ rfl (World.rangeAt_setCells_same V w.heap.size 0 [.bool true, .bool true, .func (.func 63) #[] #[]] HRE.out) Try.underlying72 (by rfl) (by kernel_rfl)) rfl ?_
    exact ⟨below_set _ (Nat.le_refl _) _ _ _ HB.out, Or.inr (Or.inr (Or.inl ⟨rfl, rfl⟩))⟩
  · have x0 : V.cell? ⟨d0, 9, none⟩ = some (.bool true) := by have := HALL.out 9 _ rfl; rwa [Nat.zero_add] at this
    have x1 : V.cell? ⟨d0, 10, none⟩ = some (.bool true) := by have := HALL.out 10 _ rfl; rwa [Nat.zero_add] at this
    have x2 : V.cell? ⟨d0, 11, none⟩ = some (.func (.func 64) #[] #[]) := by have := HALL.out 11 _ rfl; rwa [Nat.zero_add] at this
    go_wp2_with (refine wpList_store_mid rfl 72 (.tmp 2) (.tmp 30) rfl w.heap.size 0 _ rfl rfl HRE.out (by kernel_rfl) (by kernel_rfl) ?_)
    refine bodyPost_ret (results_cell2 Try.results48 _ _ w.heap.size 0 [.bool true, .bool true, .func (.func 64) #[] #[]] _ rfl (World.rangeAt_setCells_same V w.heap.size 0 [.bool true, .bool true, .func (.func 64) #[] #[]] HRE.out) Try.underlying72 (by rfl) (by kernel_rfl)) rfl ?_
    exact ⟨below_set _ (Nat.le_refl _) _ _ _ HB.out, Or.inr (Or.inr (Or.inr (Or.inl ⟨rfl, rfl⟩)))⟩
  · have x0 : V.cell? ⟨d0, 12, none⟩ = some (.bool true) := by have := HALL.out 12 _ rfl; rwa [Nat.zero_add] at this
    have x1 : V.cell? ⟨d0, 13, none⟩ = some (.bool false) := by have := HALL.out 13 _ rfl; rwa [Nat.zero_add] at this
    have x2 : V.cell? ⟨d0, 14, none⟩ = some (.func (.func 81) #[] #[.pointer (some ⟨d4, 0, none⟩)]) := by have := HALL.out 14 _ rfl; rwa [Nat.zero_add] at this
    go_wp2_with (refine wpList_store_mid rfl 72 (.tmp 2) (.tmp 30) rfl w.heap.size 0 _ rfl rfl HRE.out (by kernel_rfl) (by kernel_rfl) ?_)
    refine bodyPost_ret (results_cell2 Try.results48 _ _ w.heap.size 0 [.bool true, .bool false, .func (.func 81) #[] #[.pointer (some ⟨d4, 0, none⟩)]] _ rfl (World.rangeAt_setCells_same V w.heap.size 0 [.bool true, .bool false, .func (.func 81) #[] #[.pointer (some ⟨d4, 0, none⟩)]] HRE.out) Try.underlying72 (by rfl) (by kernel_rfl)) rfl ?_
    exact ⟨below_set _ (Nat.le_refl _) _ _ _ HB.out, Or.inr (Or.inr (Or.inr (Or.inr (Or.inl ⟨rfl, d4, rfl, by rw [World.cell?_setCells_out _ _ _ _ _ (fun h _ => absurd h (by have := N4.out; simp; omega))]; exact D4.out⟩))))⟩
  · have x0 : V.cell? ⟨d0, 15, none⟩ = some (.bool true) := by have := HALL.out 15 _ rfl; rwa [Nat.zero_add] at this
    have x1 : V.cell? ⟨d0, 16, none⟩ = some (.bool false) := by have := HALL.out 16 _ rfl; rwa [Nat.zero_add] at this
    have x2 : V.cell? ⟨d0, 17, none⟩ = some (.func (.func 81) #[] #[.pointer (some ⟨d5, 0, none⟩)]) := by have := HALL.out 17 _ rfl; rwa [Nat.zero_add] at this
    go_wp2_with (refine wpList_store_mid rfl 72 (.tmp 2) (.tmp 30) rfl w.heap.size 0 _ rfl rfl HRE.out (by kernel_rfl) (by kernel_rfl) ?_)
    refine bodyPost_ret (results_cell2 Try.results48 _ _ w.heap.size 0 [.bool true, .bool false, .func (.func 81) #[] #[.pointer (some ⟨d5, 0, none⟩)]] _ rfl (World.rangeAt_setCells_same V w.heap.size 0 [.bool true, .bool false, .func (.func 81) #[] #[.pointer (some ⟨d5, 0, none⟩)]] HRE.out) Try.underlying72 (by rfl) (by kernel_rfl)) rfl ?_
    exact ⟨below_set _ (Nat.le_refl _) _ _ _ HB.out, Or.inr (Or.inr (Or.inr (Or.inr (Or.inr (Or.inl ⟨rfl, d5, rfl, by rw [World.cell?_setCells_out _ _ _ _ _ (fun h _ => absurd h (by have := N5.out; simp; omega))]; exact D5.out⟩)))))⟩
  · have x0 : V.cell? ⟨d0, 18, none⟩ = some (.bool false) := by have := HALL.out 18 _ rfl; rwa [Nat.zero_add] at this
    have x1 : V.cell? ⟨d0, 19, none⟩ = some (.bool false) := by have := HALL.out 19 _ rfl; rwa [Nat.zero_add] at this
    have x2 : V.cell? ⟨d0, 20, none⟩ = some (.func (.func 82) #[] #[.pointer (some ⟨d6, 0, none⟩)]) := by have := HALL.out 20 _ rfl; rwa [Nat.zero_add] at this
    go_wp2_with (refine wpList_store_mid rfl 72 (.tmp 2) (.tmp 30) rfl w.heap.size 0 _ rfl rfl HRE.out (by kernel_rfl) (by kernel_rfl) ?_)
    refine bodyPost_ret (results_cell2 Try.results48 _ _ w.heap.size 0 [.bool false, .bool false, .func (.func 82) #[] #[.pointer (some ⟨d6, 0, none⟩)]] _ rfl (World.rangeAt_setCells_same V w.heap.size 0 [.bool false, .bool false, .func (.func 82) #[] #[.pointer (some ⟨d6, 0, none⟩)]] HRE.out) Try.underlying72 (by rfl) (by kernel_rfl)) rfl ?_
    exact ⟨below_set _ (Nat.le_refl _) _ _ _ HB.out, Or.inr (Or.inr (Or.inr (Or.inr (Or.inr (Or.inr (Or.inl ⟨rfl, d6, rfl, by rw [World.cell?_setCells_out _ _ _ _ _ (fun h _ => absurd h (by have := N6.out; simp; omega))]; exact D6.out⟩))))))⟩
  · have x0 : V.cell? ⟨d0, 21, none⟩ = some (.bool false) := by have := HALL.out 21 _ rfl; rwa [Nat.zero_add] at this
    have x1 : V.cell? ⟨d0, 22, none⟩ = some (.bool false) := by have := HALL.out 22 _ rfl; rwa [Nat.zero_add] at this
    have x2 : V.cell? ⟨d0, 23, none⟩ = some (.func (.func 82) #[] #[.pointer (some ⟨d7, 0, none⟩)]) := by have := HALL.out 23 _ rfl; rwa [Nat.zero_add] at this
    go_wp2_with (refine wpList_store_mid rfl 72 (.tmp 2) (.tmp 30) rfl w.heap.size 0 _ rfl rfl HRE.out (by kernel_rfl) (by kernel_rfl) ?_)
    refine bodyPost_ret (results_cell2 Try.results48 _ _ w.heap.size 0 [.bool false, .bool false, .func (.func 82) #[] #[.pointer (some ⟨d7, 0, none⟩)]] _ rfl (World.rangeAt_setCells_same V w.heap.size 0 [.bool false, .bool false, .func (.func 82) #[] #[.pointer (some ⟨d7, 0, none⟩)]] HRE.out) Try.underlying72 (by rfl) (by kernel_rfl)) rfl ?_
    exact ⟨below_set _ (Nat.le_refl _) _ _ _ HB.out, Or.inr (Or.inr (Or.inr (Or.inr (Or.inr (Or.inr (Or.inr (Or.inl ⟨rfl, d7, rfl, by rw [World.cell?_setCells_out _ _ _ _ _ (fun h _ => absurd h (by have := N7.out; simp; omega))]; exact D7.out⟩)))))))⟩
  · have x0 : V.cell? ⟨d0, 24, none⟩ = some (.bool false) := by have := HALL.out 24 _ rfl; rwa [Nat.zero_add] at this
    have x1 : V.cell? ⟨d0, 25, none⟩ = some (.bool false) := by have := HALL.out 25 _ rfl; rwa [Nat.zero_add] at this
    have x2 : V.cell? ⟨d0, 26, none⟩ = some (.func (.func 82) #[] #[.pointer (some ⟨d8, 0, none⟩)]) := by have := HALL.out 26 _ rfl; rwa [Nat.zero_add] at this
    go_wp2_with (refine wpList_store_mid rfl 72 (.tmp 2) (.tmp 30) rfl w.heap.size 0 _ rfl rfl HRE.out (by kernel_rfl) (by kernel_rfl) ?_)
    refine bodyPost_ret (results_cell2 Try.results48 _ _ w.heap.size 0 [.bool false, .bool false, .func (.func 82) #[] #[.pointer (some ⟨d8, 0, none⟩)]] _ rfl (World.rangeAt_setCells_same V w.heap.size 0 [.bool false, .bool false, .func (.func 82) #[] #[.pointer (some ⟨d8, 0, none⟩)]] HRE.out) Try.underlying72 (by rfl) (by kernel_rfl)) rfl ?_
    exact ⟨below_set _ (Nat.le_refl _) _ _ _ HB.out, Or.inr (Or.inr (Or.inr (Or.inr (Or.inr (Or.inr (Or.inr (Or.inr (Or.inl ⟨rfl, d8, rfl, by rw [World.cell?_setCells_out _ _ _ _ _ (fun h _ => absurd h (by have := N8.out; simp; omega))]; exact D8.out⟩))))))))⟩
  · have x0 : V.cell? ⟨d0, 27, none⟩ = some (.bool false) := by have := HALL.out 27 _ rfl; rwa [Nat.zero_add] at this
    have x1 : V.cell? ⟨d0, 28, none⟩ = some (.bool false) := by have := HALL.out 28 _ rfl; rwa [Nat.zero_add] at this
    have x2 : V.cell? ⟨d0, 29, none⟩ = some (.func (.func 82) #[] #[.pointer (some ⟨d9, 0, none⟩)]) := by have := HALL.out 29 _ rfl; rwa [Nat.zero_add] at this
    go_wp2_with (refine wpList_store_mid rfl 72 (.tmp 2) (.tmp 30) rfl w.heap.size 0 _ rfl rfl HRE.out (by kernel_rfl) (by kernel_rfl) ?_)
    refine bodyPost_ret (results_cell2 Try.results48 _ _ w.heap.size 0 [.bool false, .bool false, .func (.func 82) #[] #[.pointer (some ⟨d9, 0, none⟩)]] _ rfl (World.rangeAt_setCells_same V w.heap.size 0 [.bool false, .bool false, .func (.func 82) #[] #[.pointer (some ⟨d9, 0, none⟩)]] HRE.out) Try.underlying72 (by rfl) (by kernel_rfl)) rfl ?_
    exact ⟨below_set _ (Nat.le_refl _) _ _ _ HB.out, Or.inr (Or.inr (Or.inr (Or.inr (Or.inr (Or.inr (Or.inr (Or.inr (Or.inr (⟨rfl, d9, rfl, by rw [World.cell?_setCells_out _ _ _ _ _ (fun h _ => absurd h (by have := N9.out; simp; omega))]; exact D9.out⟩)))))))))⟩
end Go.Proofs.Ytgjpgpjdealbeaa
