/- Messages: a packet of fields, the program. -/
import Derived.Test.YtidfgjgbigedeaaGreatDoorMiC
import Derived.Test.YtidfgjgbigedeaaGreatDoorMgI
namespace Go.Proofs.YtidfgjgbigedeaaGreatDoor
open Go.RowKit Go.Lib Go.Wq Go.Mq
set_option linter.unusedVariables false
set_option linter.unusedSimpArgs false
set_option maxRecDepth 100000

set_option maxHeartbeats 4000000 in
theorem mPk_cells (u0 : Nat) (i0 : Int) (f0 : Nat) (b0 : Bool) (t0 : ByteArray) (a0 : Option Addr) (n0 c0 : Nat) (u1 : Nat) (i1 : Int) (f1 : Nat) (b1 : Bool) (t1 : ByteArray) (a1 : Option Addr) (n1 c1 : Nat) (u2 : Nat) (i2 : Int) (f2 : Nat) (b2 : Bool) (t2 : ByteArray) (a2 : Option Addr) (n2 c2 : Nat) (u3 : Nat) (i3 : Int) (f3 : Nat) (b3 : Bool) (t3 : ByteArray) (a3 : Option Addr) (n3 c3 : Nat) (u4 : Nat) (i4 : Int) (f4 : Nat) (b4 : Bool) (t4 : ByteArray) (a4 : Option Addr) (n4 c4 : Nat) (u5 : Nat) (i5 : Int) (f5 : Nat) (b5 : Bool) (t5 : ByteArray) (a5 : Option Addr) (n5 c5 : Nat) (u7 : Nat) (i7 : Int) (f7 : Nat) (b7 : Bool) (t7 : ByteArray) (a7 : Option Addr) (n7 c7 : Nat) (u8 : Nat) (i8 : Int) (f8 : Nat) (b8 : Bool) (t8 : ByteArray) (a8 : Option Addr) (n8 c8 : Nat) (u9 : Nat) (i9 : Int) (f9 : Nat) (b9 : Bool) (t9 : ByteArray) (a9 : Option Addr) (n9 c9 : Nat) (u6 : Nat) (t10 t11 : ByteArray) (b o c : Nat) (w : World) (hb : b < w.heap.size)
    (h0 : w.rangeAt b (o) (fvals u0 i0 f0 b0 t0 a0 n0 c0))
    (h1 : w.rangeAt b (o + 6) (fvals u1 i1 f1 b1 t1 a1 n1 c1))
    (h2 : w.rangeAt b (o + 12) (fvals u2 i2 f2 b2 t2 a2 n2 c2))
    (h3 : w.rangeAt b (o + 18) (fvals u3 i3 f3 b3 t3 a3 n3 c3))
    (h4 : w.rangeAt b (o + 24) (fvals u4 i4 f4 b4 t4 a4 n4 c4))
    (h5 : w.rangeAt b (o + 30) (fvals u5 i5 f5 b5 t5 a5 n5 c5))
    (h6 : w.rangeAt b (o + 42) (fvals u7 i7 f7 b7 t7 a7 n7 c7))
    (h7 : w.rangeAt b (o + 48) (fvals u8 i8 f8 b8 t8 a8 n8 c8))
    (h8 : w.rangeAt b (o + 54) (fvals u9 i9 f9 b9 t9 a9 n9 c9))
    (h9 : w.cell? ⟨b, o + 36, none⟩ = some (.int .u64 (u6 : Int)))
    (h10 : w.cell? ⟨b, o + 64, none⟩ = some (.string t10))
    (h11 : w.cell? ⟨b, o + 70, none⟩ = some (.string t11))
    : Calls Tryz.prog 56 #[.slice (some ⟨b, o, none⟩) 12 c] w fun e w' => e = .returned (.agg #[.int .i64 (wM u0), .int .i64 (wM u1), .int .i64 (wM u2), .int .i64 (wM u3), .int .i64 (wM u4), .int .i64 (wM u5), .int .u64 (u6 : Int), .int .i64 (wM u7), .string t10, .int .i64 (wM u8), .int .i64 (wM u9), .string t11]) ∧ Below w.heap.size w w' := by
  have HW0 := Lib.hid (fun W => mWhole_any u0 i0 f0 b0 t0 a0 n0 c0 W)
  have HW1 := Lib.hid (fun W => mWhole_any u1 i1 f1 b1 t1 a1 n1 c1 W)
  have HW2 := Lib.hid (fun W => mWhole_any u2 i2 f2 b2 t2 a2 n2 c2 W)
  have HW3 := Lib.hid (fun W => mWhole_any u3 i3 f3 b3 t3 a3 n3 c3 W)
  have HW4 := Lib.hid (fun W => mWhole_any u4 i4 f4 b4 t4 a4 n4 c4 W)
  have HW5 := Lib.hid (fun W => mWhole_any u5 i5 f5 b5 t5 a5 n5 c5 W)
  have HW7 := Lib.hid (fun W => mWhole_any u7 i7 f7 b7 t7 a7 n7 c7 W)
  have HW8 := Lib.hid (fun W => mWhole_any u8 i8 f8 b8 t8 a8 n8 c8 W)
  have HW9 := Lib.hid (fun W => mWhole_any u9 i9 f9 b9 t9 a9 n9 c9 W)
  generalize wM u0 = x0 at *
  generalize wM u1 = x1 at *
  generalize wM u2 = x2 at *
  generalize wM u3 = x3 at *
  generalize wM u4 = x4 at *
  generalize wM u5 = x5 at *
  generalize wM u7 = x7 at *
  generalize wM u8 = x8 at *
  generalize wM u9 = x9 at *
  obtain ⟨W1, hW1⟩ : ∃ W1, W1 = w.alloc (.cells #[.int .i64 0, .int .i64 0, .int .i64 0, .int .i64 0, .int .i64 0, .int .i64 0, .int .u64 0, .int .i64 0, .string ⟨#[]⟩, .int .i64 0, .int .i64 0, .string ⟨#[]⟩] 25) := ⟨_, rfl⟩
  have hb1 : Below w.heap.size w W1 := by rw [hW1]; exact below_al _ _
  have hs1 : w.heap.size < W1.heap.size := by rw [hW1]; simp
  have hth : W1.there w.heap.size 0 12 := by rw [hW1]; exact there_box w [.int .i64 0, .int .i64 0, .int .i64 0, .int .i64 0, .int .i64 0, .int .i64 0, .int .u64 0, .int .i64 0, .string ⟨#[]⟩, .int .i64 0, .int .i64 0, .string ⟨#[]⟩] _
  have HTH := Lib.hid hth
  have HS1 := Lib.hid hs1
  have HB1 := Lib.hid hb1
  have K0 : ∀ V, OrSet W1 w.heap.size 0 [.int .i64 x0, .int .i64 x1, .int .i64 x2, .int .i64 x3, .int .i64 x4, .int .i64 x5, .int .u64 (u6 : Int), .int .i64 x7, .string t10, .int .i64 x8, .int .i64 x9, .string t11] V → V.rangeAt b (o) (fvals u0 i0 f0 b0 t0 a0 n0 c0) := fun V h => h.mid (Nat.lt_of_lt_of_le hb hb1.size) (Nat.ne_of_lt hb) (fun j v hj => (hb1.cell (p := ⟨b, _, none⟩) hb).trans (h0 j v hj))
  have K1 : ∀ V, OrSet W1 w.heap.size 0 [.int .i64 x0, .int .i64 x1, .int .i64 x2, .int .i64 x3, .int .i64 x4, .int .i64 x5, .int .u64 (u6 : Int), .int .i64 x7, .string t10, .int .i64 x8, .int .i64 x9, .string t11] V → V.rangeAt b (o + 6) (fvals u1 i1 f1 b1 t1 a1 n1 c1) := fun V h => h.mid (Nat.lt_of_lt_of_le hb hb1.size) (Nat.ne_of_lt hb) (fun j v hj => (hb1.cell (p := ⟨b, _, none⟩) hb).trans (h1 j v hj))
  have K2 : ∀ V, OrSet W1 w.heap.size 0 [.int .i64 x0, .int .i64 x1, .int .i64 x2, .int .i64 x3, .int .i64 x4, .int .i64 x5, .int .u64 (u6 : Int), .int .i64 x7, .string t10, .int .i64 x8, .int .i64 x9, .string t11] V → V.rangeAt b (o + 12) (fvals u2 i2 f2 b2 t2 a2 n2 c2) := fun V h => h.mid (Nat.lt_of_lt_of_le hb hb1.size) (Nat.ne_of_lt hb) (fun j v hj => (hb1.cell (p := ⟨b, _, none⟩) hb).trans (h2 j v hj))
  have K3 : ∀ V, OrSet W1 w.heap.size 0 [.int .i64 x0, .int .i64 x1, .int .i64 x2, .int .i64 x3, .int .i64 x4, .int .i64 x5, .int .u64 (u6 : Int), .int .i64 x7, .string t10, .int .i64 x8, .int .i64 x9, .string t11] V → V.rangeAt b (o + 18) (fvals u3 i3 f3 b3 t3 a3 n3 c3) := fun V h => h.mid (Nat.lt_of_lt_of_le hb hb1.size) (Nat.ne_of_lt hb) (fun j v hj => (hb1.cell (p := ⟨b, _, none⟩) hb).trans (h3 j v hj))
  have K4 : ∀ V, OrSet W1 w.heap.size 0 [.int .i64 x0, .int .i64 x1, .int .i64 x2, .int .i64 x3, .int .i64 x4, .int .i64 x5, .int .u64 (u6 : Int), .int .i64 x7, .string t10, .int .i64 x8, .int .i64 x9, .string t11] V → V.rangeAt b (o + 24) (fvals u4 i4 f4 b4 t4 a4 n4 c4) := fun V h => h.mid (Nat.lt_of_lt_of_le hb hb1.size) (Nat.ne_of_lt hb) (fun j v hj => (hb1.cell (p := ⟨b, _, none⟩) hb).trans (h4 j v hj))
  have K5 : ∀ V, OrSet W1 w.heap.size 0 [.int .i64 x0, .int .i64 x1, .int .i64 x2, .int .i64 x3, .int .i64 x4, .int .i64 x5, .int .u64 (u6 : Int), .int .i64 x7, .string t10, .int .i64 x8, .int .i64 x9, .string t11] V → V.rangeAt b (o + 30) (fvals u5 i5 f5 b5 t5 a5 n5 c5) := fun V h => h.mid (Nat.lt_of_lt_of_le hb hb1.size) (Nat.ne_of_lt hb) (fun j v hj => (hb1.cell (p := ⟨b, _, none⟩) hb).trans (h5 j v hj))
  have K6 : ∀ V, OrSet W1 w.heap.size 0 [.int .i64 x0, .int .i64 x1, .int .i64 x2, .int .i64 x3, .int .i64 x4, .int .i64 x5, .int .u64 (u6 : Int), .int .i64 x7, .string t10, .int .i64 x8, .int .i64 x9, .string t11] V → V.rangeAt b (o + 42) (fvals u7 i7 f7 b7 t7 a7 n7 c7) := fun V h => h.mid (Nat.lt_of_lt_of_le hb hb1.size) (Nat.ne_of_lt hb) (fun j v hj => (hb1.cell (p := ⟨b, _, none⟩) hb).trans (h6 j v hj))
  have K7 : ∀ V, OrSet W1 w.heap.size 0 [.int .i64 x0, .int .i64 x1, .int .i64 x2, .int .i64 x3, .int .i64 x4, .int .i64 x5, .int .u64 (u6 : Int), .int .i64 x7, .string t10, .int .i64 x8, .int .i64 x9, .string t11] V → V.rangeAt b (o + 48) (fvals u8 i8 f8 b8 t8 a8 n8 c8) := fun V h => h.mid (Nat.lt_of_lt_of_le hb hb1.size) (Nat.ne_of_lt hb) (fun j v hj => (hb1.cell (p := ⟨b, _, none⟩) hb).trans (h7 j v hj))
  have K8 : ∀ V, OrSet W1 w.heap.size 0 [.int .i64 x0, .int .i64 x1, .int .i64 x2, .int .i64 x3, .int .i64 x4, .int .i64 x5, .int .u64 (u6 : Int), .int .i64 x7, .string t10, .int .i64 x8, .int .i64 x9, .string t11] V → V.rangeAt b (o + 54) (fvals u9 i9 f9 b9 t9 a9 n9 c9) := fun V h => h.mid (Nat.lt_of_lt_of_le hb hb1.size) (Nat.ne_of_lt hb) (fun j v hj => (hb1.cell (p := ⟨b, _, none⟩) hb).trans (h8 j v hj))
  have K9 : ∀ V, OrSet W1 w.heap.size 0 [.int .i64 x0, .int .i64 x1, .int .i64 x2, .int .i64 x3, .int .i64 x4, .int .i64 x5, .int .u64 (u6 : Int), .int .i64 x7, .string t10, .int .i64 x8, .int .i64 x9, .string t11] V → V.cell? ⟨b, o + 36, none⟩ = some (.int .u64 (u6 : Int)) := fun V h => h.cell (Nat.lt_of_lt_of_le hb hb1.size) (Nat.ne_of_lt hb) ((hb1.cell (p := ⟨b, _, none⟩) hb).trans h9)
  have K10 : ∀ V, OrSet W1 w.heap.size 0 [.int .i64 x0, .int .i64 x1, .int .i64 x2, .int .i64 x3, .int .i64 x4, .int .i64 x5, .int .u64 (u6 : Int), .int .i64 x7, .string t10, .int .i64 x8, .int .i64 x9, .string t11] V → V.cell? ⟨b, o + 64, none⟩ = some (.string t10) := fun V h => h.cell (Nat.lt_of_lt_of_le hb hb1.size) (Nat.ne_of_lt hb) ((hb1.cell (p := ⟨b, _, none⟩) hb).trans h10)
  have K11 : ∀ V, OrSet W1 w.heap.size 0 [.int .i64 x0, .int .i64 x1, .int .i64 x2, .int .i64 x3, .int .i64 x4, .int .i64 x5, .int .u64 (u6 : Int), .int .i64 x7, .string t10, .int .i64 x8, .int .i64 x9, .string t11] V → V.cell? ⟨b, o + 70, none⟩ = some (.string t11) := fun V h => h.cell (Nat.lt_of_lt_of_le hb hb1.size) (Nat.ne_of_lt hb) ((hb1.cell (p := ⟨b, _, none⟩) hb).trans h11)
  clear h0 h1 h2 h3 h4 h5 h6 h7 h8 h9 h10 h11 hth hb1 hs1
  go_enter Tryz.func56, Tryz.ntmps56
  go_upto_region 1 with (fail)
  rw [← hW1]
  clear hW1
  refine wp_region_held_drew (S := OrSet W1 w.heap.size 0 [.int .i64 x0, .int .i64 x1, .int .i64 x2, .int .i64 x3, .int .i64 x4, .int .i64 x5, .int .u64 (u6 : Int), .int .i64 x7, .string t10, .int .i64 x8, .int .i64 x9, .string t11]) (by kernel_rfl) orset_drew (fun hH => ?_)
  have B0 : Hid (Below W1.heap.size W1 W1.drew) := Lib.hid (Below.drew (Below.refl _ _))
  generalize W1.drew = V0 at *
  refine tk 0 (by assumption) rfl (by kernel_rfl) (fun _ _ _ h => h) (fun V hV => by go_simp; try with_reducible rfl) ?_
  try simp only [Act.put, List.setIfInBounds_toArray, List.set_cons_zero, List.set_cons_succ, List.getElem_toArray, List.getElem_cons_succ, List.getElem_cons_zero]
  refine tk 1 (by assumption) rfl (by kernel_rfl) (fun _ _ _ h => h) (fun V hV => by go_simp; try with_reducible rfl) ?_
  try simp only [Act.put, List.setIfInBounds_toArray, List.set_cons_zero, List.set_cons_succ, List.getElem_toArray, List.getElem_cons_succ, List.getElem_cons_zero]
  refine tk 2 (by assumption) rfl (by kernel_rfl) (fun _ _ _ h => h) (tk_load 57 (.tmp 4) rfl b (o) rfl (fvals u0 i0 f0 b0 t0 a0 n0 c0) _ K0 Tryz.underlying57 (by rfl) (by kernel_rfl)) ?_
  try simp only [Act.put, List.setIfInBounds_toArray, List.set_cons_zero, List.set_cons_succ, List.getElem_toArray, List.getElem_cons_succ, List.getElem_cons_zero]
  refine tk 4 (by assumption) rfl (by kernel_rfl) (fun _ _ _ h => h) (fun V hV => by go_simp; try with_reducible rfl) ?_
  try simp only [Act.put, List.setIfInBounds_toArray, List.set_cons_zero, List.set_cons_succ, List.getElem_toArray, List.getElem_cons_succ, List.getElem_cons_zero]
  refine tk 5 (by assumption) rfl (by kernel_rfl) (fun _ _ _ h => h) (fun V hV => by go_simp; try with_reducible rfl) ?_
  try simp only [Act.put, List.setIfInBounds_toArray, List.set_cons_zero, List.set_cons_succ, List.getElem_toArray, List.getElem_cons_succ, List.getElem_cons_zero]
  refine tk 6 (by assumption) rfl (by kernel_rfl) (fun _ _ _ h => h) (tk_load 57 (.tmp 8) rfl b (o + 6) rfl (fvals u1 i1 f1 b1 t1 a1 n1 c1) _ K1 Tryz.underlying57 (by rfl) (by kernel_rfl)) ?_
  try simp only [Act.put, List.setIfInBounds_toArray, List.set_cons_zero, List.set_cons_succ, List.getElem_toArray, List.getElem_cons_succ, List.getElem_cons_zero]
  refine tk 8 (by assumption) rfl (by kernel_rfl) (fun _ _ _ h => h) (fun V hV => by go_simp; try with_reducible rfl) ?_
  try simp only [Act.put, List.setIfInBounds_toArray, List.set_cons_zero, List.set_cons_succ, List.getElem_toArray, List.getElem_cons_succ, List.getElem_cons_zero]
  refine tk 9 (by assumption) rfl (by kernel_rfl) (fun _ _ _ h => h) (fun V hV => by go_simp; try with_reducible rfl) ?_
  try simp only [Act.put, List.setIfInBounds_toArray, List.set_cons_zero, List.set_cons_succ, List.getElem_toArray, List.getElem_cons_succ, List.getElem_cons_zero]
  refine tk 10 (by assumption) rfl (by kernel_rfl) (fun _ _ _ h => h) (tk_load 57 (.tmp 12) rfl b (o + 12) rfl (fvals u2 i2 f2 b2 t2 a2 n2 c2) _ K2 Tryz.underlying57 (by rfl) (by kernel_rfl)) ?_
  try simp only [Act.put, List.setIfInBounds_toArray, List.set_cons_zero, List.set_cons_succ, List.getElem_toArray, List.getElem_cons_succ, List.getElem_cons_zero]
  refine tk 12 (by assumption) rfl (by kernel_rfl) (fun _ _ _ h => h) (fun V hV => by go_simp; try with_reducible rfl) ?_
  try simp only [Act.put, List.setIfInBounds_toArray, List.set_cons_zero, List.set_cons_succ, List.getElem_toArray, List.getElem_cons_succ, List.getElem_cons_zero]
  refine tk 13 (by assumption) rfl (by kernel_rfl) (fun _ _ _ h => h) (fun V hV => by go_simp; try with_reducible rfl) ?_
  try simp only [Act.put, List.setIfInBounds_toArray, List.set_cons_zero, List.set_cons_succ, List.getElem_toArray, List.getElem_cons_succ, List.getElem_cons_zero]
  refine tk 14 (by assumption) rfl (by kernel_rfl) (fun _ _ _ h => h) (tk_load 57 (.tmp 16) rfl b (o + 18) rfl (fvals u3 i3 f3 b3 t3 a3 n3 c3) _ K3 Tryz.underlying57 (by rfl) (by kernel_rfl)) ?_
  try simp only [Act.put, List.setIfInBounds_toArray, List.set_cons_zero, List.set_cons_succ, List.getElem_toArray, List.getElem_cons_succ, List.getElem_cons_zero]
  refine tk 16 (by assumption) rfl (by kernel_rfl) (fun _ _ _ h => h) (fun V hV => by go_simp; try with_reducible rfl) ?_
  try simp only [Act.put, List.setIfInBounds_toArray, List.set_cons_zero, List.set_cons_succ, List.getElem_toArray, List.getElem_cons_succ, List.getElem_cons_zero]
  refine tk 17 (by assumption) rfl (by kernel_rfl) (fun _ _ _ h => h) (fun V hV => by go_simp; try with_reducible rfl) ?_
  try simp only [Act.put, List.setIfInBounds_toArray, List.set_cons_zero, List.set_cons_succ, List.getElem_toArray, List.getElem_cons_succ, List.getElem_cons_zero]
  refine tk 18 (by assumption) rfl (by kernel_rfl) (fun _ _ _ h => h) (tk_load 57 (.tmp 20) rfl b (o + 24) rfl (fvals u4 i4 f4 b4 t4 a4 n4 c4) _ K4 Tryz.underlying57 (by rfl) (by kernel_rfl)) ?_
  try simp only [Act.put, List.setIfInBounds_toArray, List.set_cons_zero, List.set_cons_succ, List.getElem_toArray, List.getElem_cons_succ, List.getElem_cons_zero]
  refine tk 20 (by assumption) rfl (by kernel_rfl) (fun _ _ _ h => h) (fun V hV => by go_simp; try with_reducible rfl) ?_
  try simp only [Act.put, List.setIfInBounds_toArray, List.set_cons_zero, List.set_cons_succ, List.getElem_toArray, List.getElem_cons_succ, List.getElem_cons_zero]
  refine tk 21 (by assumption) rfl (by kernel_rfl) (fun _ _ _ h => h) (fun V hV => by go_simp; try with_reducible rfl) ?_
  try simp only [Act.put, List.setIfInBounds_toArray, List.set_cons_zero, List.set_cons_succ, List.getElem_toArray, List.getElem_cons_succ, List.getElem_cons_zero]
  refine tk 22 (by assumption) rfl (by kernel_rfl) (fun _ _ _ h => h) (tk_load 57 (.tmp 24) rfl b (o + 30) rfl (fvals u5 i5 f5 b5 t5 a5 n5 c5) _ K5 Tryz.underlying57 (by rfl) (by kernel_rfl)) ?_
  try simp only [Act.put, List.setIfInBounds_toArray, List.set_cons_zero, List.set_cons_succ, List.getElem_toArray, List.getElem_cons_succ, List.getElem_cons_zero]
  refine tk 24 (by assumption) rfl (by kernel_rfl) (fun _ _ _ h => h) (fun V hV => by go_simp; try with_reducible rfl) ?_
  try simp only [Act.put, List.setIfInBounds_toArray, List.set_cons_zero, List.set_cons_succ, List.getElem_toArray, List.getElem_cons_succ, List.getElem_cons_zero]
  refine tk 25 (by assumption) rfl (by kernel_rfl) (fun _ _ _ h => h) (fun V hV => by go_simp; try with_reducible rfl) ?_
  try simp only [Act.put, List.setIfInBounds_toArray, List.set_cons_zero, List.set_cons_succ, List.getElem_toArray, List.getElem_cons_succ, List.getElem_cons_zero]
  refine tk 26 (by assumption) rfl (by kernel_rfl) (fun _ _ _ h => h) (fun V hV => by go_simp; try with_reducible rfl) ?_
  try simp only [Act.put, List.setIfInBounds_toArray, List.set_cons_zero, List.set_cons_succ, List.getElem_toArray, List.getElem_cons_succ, List.getElem_cons_zero]
  refine tk 27 (by assumption) rfl (by kernel_rfl) (fun _ _ _ h => h) (fun V hV => by have hc := K9 V hV; go_simp; try with_reducible rfl) ?_
  try simp only [Act.put, List.setIfInBounds_toArray, List.set_cons_zero, List.set_cons_succ, List.getElem_toArray, List.getElem_cons_succ, List.getElem_cons_zero]
  refine tk 28 (by assumption) rfl (by kernel_rfl) (fun _ _ _ h => h) (fun V hV => by go_simp; try with_reducible rfl) ?_
  try simp only [Act.put, List.setIfInBounds_toArray, List.set_cons_zero, List.set_cons_succ, List.getElem_toArray, List.getElem_cons_succ, List.getElem_cons_zero]
  refine tk 29 (by assumption) rfl (by kernel_rfl) (fun _ _ _ h => h) (fun V hV => by go_simp; try with_reducible rfl) ?_
  try simp only [Act.put, List.setIfInBounds_toArray, List.set_cons_zero, List.set_cons_succ, List.getElem_toArray, List.getElem_cons_succ, List.getElem_cons_zero]
  refine tk 30 (by assumption) rfl (by kernel_rfl) (fun _ _ _ h => h) (tk_load 57 (.tmp 32) rfl b (o + 42) rfl (fvals u7 i7 f7 b7 t7 a7 n7 c7) _ K6 Tryz.underlying57 (by rfl) (by kernel_rfl)) ?_
  try simp only [Act.put, List.setIfInBounds_toArray, List.set_cons_zero, List.set_cons_succ, List.getElem_toArray, List.getElem_cons_succ, List.getElem_cons_zero]
  refine tk 32 (by assumption) rfl (by kernel_rfl) (fun _ _ _ h => h) (fun V hV => by go_simp; try with_reducible rfl) ?_
  try simp only [Act.put, List.setIfInBounds_toArray, List.set_cons_zero, List.set_cons_succ, List.getElem_toArray, List.getElem_cons_succ, List.getElem_cons_zero]
  refine tk 33 (by assumption) rfl (by kernel_rfl) (fun _ _ _ h => h) (fun V hV => by go_simp; try with_reducible rfl) ?_
  try simp only [Act.put, List.setIfInBounds_toArray, List.set_cons_zero, List.set_cons_succ, List.getElem_toArray, List.getElem_cons_succ, List.getElem_cons_zero]
  refine tk 34 (by assumption) rfl (by kernel_rfl) (fun _ _ _ h => h) (tk_load 57 (.tmp 36) rfl b (o + 48) rfl (fvals u8 i8 f8 b8 t8 a8 n8 c8) _ K7 Tryz.underlying57 (by rfl) (by kernel_rfl)) ?_
  try simp only [Act.put, List.setIfInBounds_toArray, List.set_cons_zero, List.set_cons_succ, List.getElem_toArray, List.getElem_cons_succ, List.getElem_cons_zero]
  refine tk 36 (by assumption) rfl (by kernel_rfl) (fun _ _ _ h => h) (fun V hV => by go_simp; try with_reducible rfl) ?_
  try simp only [Act.put, List.setIfInBounds_toArray, List.set_cons_zero, List.set_cons_succ, List.getElem_toArray, List.getElem_cons_succ, List.getElem_cons_zero]
  refine tk 37 (by assumption) rfl (by kernel_rfl) (fun _ _ _ h => h) (fun V hV => by go_simp; try with_reducible rfl) ?_
  try simp only [Act.put, List.setIfInBounds_toArray, List.set_cons_zero, List.set_cons_succ, List.getElem_toArray, List.getElem_cons_succ, List.getElem_cons_zero]
  refine tk 38 (by assumption) rfl (by kernel_rfl) (fun _ _ _ h => h) (tk_load 57 (.tmp 40) rfl b (o + 54) rfl (fvals u9 i9 f9 b9 t9 a9 n9 c9) _ K8 Tryz.underlying57 (by rfl) (by kernel_rfl)) ?_
  try simp only [Act.put, List.setIfInBounds_toArray, List.set_cons_zero, List.set_cons_succ, List.getElem_toArray, List.getElem_cons_succ, List.getElem_cons_zero]
  refine tk 40 (by assumption) rfl (by kernel_rfl) (fun _ _ _ h => h) (fun V hV => by go_simp; try with_reducible rfl) ?_
  try simp only [Act.put, List.setIfInBounds_toArray, List.set_cons_zero, List.set_cons_succ, List.getElem_toArray, List.getElem_cons_succ, List.getElem_cons_zero]
  refine tk 41 (by assumption) rfl (by kernel_rfl) (fun _ _ _ h => h) (fun V hV => by go_simp; try with_reducible rfl) ?_
  try simp only [Act.put, List.setIfInBounds_toArray, List.set_cons_zero, List.set_cons_succ, List.getElem_toArray, List.getElem_cons_succ, List.getElem_cons_zero]
  refine tk 42 (by assumption) rfl (by kernel_rfl) (fun _ _ _ h => h) (fun V hV => by go_simp; try with_reducible rfl) ?_
  try simp only [Act.put, List.setIfInBounds_toArray, List.set_cons_zero, List.set_cons_succ, List.getElem_toArray, List.getElem_cons_succ, List.getElem_cons_zero]
  refine tk 43 (by assumption) rfl (by kernel_rfl) (fun _ _ _ h => h) (fun V hV => by have hc := K10 V hV; go_simp; try with_reducible rfl) ?_
  try simp only [Act.put, List.setIfInBounds_toArray, List.set_cons_zero, List.set_cons_succ, List.getElem_toArray, List.getElem_cons_succ, List.getElem_cons_zero]
  refine tk 44 (by assumption) rfl (by kernel_rfl) (fun _ _ _ h => h) (fun V hV => by go_simp; try with_reducible rfl) ?_
  try simp only [Act.put, List.setIfInBounds_toArray, List.set_cons_zero, List.set_cons_succ, List.getElem_toArray, List.getElem_cons_succ, List.getElem_cons_zero]
  refine tk 45 (by assumption) rfl (by kernel_rfl) (fun _ _ _ h => h) (fun V hV => by go_simp; try with_reducible rfl) ?_
  try simp only [Act.put, List.setIfInBounds_toArray, List.set_cons_zero, List.set_cons_succ, List.getElem_toArray, List.getElem_cons_succ, List.getElem_cons_zero]
  refine tk 46 (by assumption) rfl (by kernel_rfl) (fun _ _ _ h => h) (fun V hV => by go_simp; try with_reducible rfl) ?_
  try simp only [Act.put, List.setIfInBounds_toArray, List.set_cons_zero, List.set_cons_succ, List.getElem_toArray, List.getElem_cons_succ, List.getElem_cons_zero]
  refine tk 47 (by assumption) rfl (by kernel_rfl) (fun _ _ _ h => h) (fun V hV => by have hc := K11 V hV; go_simp; try with_reducible rfl) ?_
  try simp only [Act.put, List.setIfInBounds_toArray, List.set_cons_zero, List.set_cons_succ, List.getElem_toArray, List.getElem_cons_succ, List.getElem_cons_zero]
  refine wpAnyH_ready (rs := [3]) (by kernel_rfl) (by simp) ?_
  refine AllReadyH.cons (o := _) rfl (fun K hK => ?_) AllReadyH.nil
  go_simp
  refine (HW0.out _).mono ?_
  rintro e V1 ⟨rfl, hb3⟩
  have B1 := Lib.hid (below_nx B0.out hb3)
  clear hb3
  go_wp2_with fail
  refine hK.out _ _ ⟨_, B1.out, Or.inl rfl⟩ (fun hH => ?_)
  clear hK K
  try simp only [Act.put, List.setIfInBounds_toArray, List.set_cons_zero, List.set_cons_succ, List.getElem_toArray, List.getElem_cons_succ, List.getElem_cons_zero]
  refine wpAnyH_ready (rs := [7]) (by kernel_rfl) (by simp) ?_
  refine AllReadyH.cons (o := _) rfl (fun K hK => ?_) AllReadyH.nil
  go_simp
  refine (HW1.out _).mono ?_
  rintro e V2 ⟨rfl, hb3⟩
  have B2 := Lib.hid (below_nx B1.out hb3)
  clear hb3
  go_wp2_with fail
  refine hK.out _ _ ⟨_, B2.out, Or.inl rfl⟩ (fun hH => ?_)
  clear hK K
  try simp only [Act.put, List.setIfInBounds_toArray, List.set_cons_zero, List.set_cons_succ, List.getElem_toArray, List.getElem_cons_succ, List.getElem_cons_zero]
  refine wpAnyH_ready (rs := [11]) (by kernel_rfl) (by simp) ?_
  refine AllReadyH.cons (o := _) rfl (fun K hK => ?_) AllReadyH.nil
  go_simp
  refine (HW2.out _).mono ?_
  rintro e V3 ⟨rfl, hb3⟩
  have B3 := Lib.hid (below_nx B2.out hb3)
  clear hb3
  go_wp2_with fail
  refine hK.out _ _ ⟨_, B3.out, Or.inl rfl⟩ (fun hH => ?_)
  clear hK K
  try simp only [Act.put, List.setIfInBounds_toArray, List.set_cons_zero, List.set_cons_succ, List.getElem_toArray, List.getElem_cons_succ, List.getElem_cons_zero]
  refine wpAnyH_ready (rs := [15]) (by kernel_rfl) (by simp) ?_
  refine AllReadyH.cons (o := _) rfl (fun K hK => ?_) AllReadyH.nil
  go_simp
  refine (HW3.out _).mono ?_
  rintro e V4 ⟨rfl, hb3⟩
  have B4 := Lib.hid (below_nx B3.out hb3)
  clear hb3
  go_wp2_with fail
  refine hK.out _ _ ⟨_, B4.out, Or.inl rfl⟩ (fun hH => ?_)
  clear hK K
  try simp only [Act.put, List.setIfInBounds_toArray, List.set_cons_zero, List.set_cons_succ, List.getElem_toArray, List.getElem_cons_succ, List.getElem_cons_zero]
  refine wpAnyH_ready (rs := [19]) (by kernel_rfl) (by simp) ?_
  refine AllReadyH.cons (o := _) rfl (fun K hK => ?_) AllReadyH.nil
  go_simp
  refine (HW4.out _).mono ?_
  rintro e V5 ⟨rfl, hb3⟩
  have B5 := Lib.hid (below_nx B4.out hb3)
  clear hb3
  go_wp2_with fail
  refine hK.out _ _ ⟨_, B5.out, Or.inl rfl⟩ (fun hH => ?_)
  clear hK K
  try simp only [Act.put, List.setIfInBounds_toArray, List.set_cons_zero, List.set_cons_succ, List.getElem_toArray, List.getElem_cons_succ, List.getElem_cons_zero]
  refine wpAnyH_ready (rs := [23]) (by kernel_rfl) (by simp) ?_
  refine AllReadyH.cons (o := _) rfl (fun K hK => ?_) AllReadyH.nil
  go_simp
  refine (HW5.out _).mono ?_
  rintro e V6 ⟨rfl, hb3⟩
  have B6 := Lib.hid (below_nx B5.out hb3)
  clear hb3
  go_wp2_with fail
  refine hK.out _ _ ⟨_, B6.out, Or.inl rfl⟩ (fun hH => ?_)
  clear hK K
  try simp only [Act.put, List.setIfInBounds_toArray, List.set_cons_zero, List.set_cons_succ, List.getElem_toArray, List.getElem_cons_succ, List.getElem_cons_zero]
  refine wpAnyH_ready (rs := [31]) (by kernel_rfl) (by simp) ?_
  refine AllReadyH.cons (o := _) rfl (fun K hK => ?_) AllReadyH.nil
  go_simp
  refine (HW7.out _).mono ?_
  rintro e V7 ⟨rfl, hb3⟩
  have B7 := Lib.hid (below_nx B6.out hb3)
  clear hb3
  go_wp2_with fail
  refine hK.out _ _ ⟨_, B7.out, Or.inl rfl⟩ (fun hH => ?_)
  clear hK K
  try simp only [Act.put, List.setIfInBounds_toArray, List.set_cons_zero, List.set_cons_succ, List.getElem_toArray, List.getElem_cons_succ, List.getElem_cons_zero]
  refine wpAnyH_ready (rs := [35]) (by kernel_rfl) (by simp) ?_
  refine AllReadyH.cons (o := _) rfl (fun K hK => ?_) AllReadyH.nil
  go_simp
  refine (HW8.out _).mono ?_
  rintro e V8 ⟨rfl, hb3⟩
  have B8 := Lib.hid (below_nx B7.out hb3)
  clear hb3
  go_wp2_with fail
  refine hK.out _ _ ⟨_, B8.out, Or.inl rfl⟩ (fun hH => ?_)
  clear hK K
  try simp only [Act.put, List.setIfInBounds_toArray, List.set_cons_zero, List.set_cons_succ, List.getElem_toArray, List.getElem_cons_succ, List.getElem_cons_zero]
  refine wpAnyH_ready (rs := [39]) (by kernel_rfl) (by simp) ?_
  refine AllReadyH.cons (o := _) rfl (fun K hK => ?_) AllReadyH.nil
  go_simp
  refine (HW9.out _).mono ?_
  rintro e V9 ⟨rfl, hb3⟩
  have B9 := Lib.hid (below_nx B8.out hb3)
  clear hb3
  go_wp2_with fail
  refine hK.out _ _ ⟨_, B9.out, Or.inl rfl⟩ (fun hH => ?_)
  clear hK K
  try simp only [Act.put, List.setIfInBounds_toArray, List.set_cons_zero, List.set_cons_succ, List.getElem_toArray, List.getElem_cons_succ, List.getElem_cons_zero]
  refine tk 48 (by assumption) rfl (by kernel_rfl) (fun _ _ _ h => h) (fun V hV => by go_simp; try with_reducible rfl) ?_
  try simp only [Act.put, List.setIfInBounds_toArray, List.set_cons_zero, List.set_cons_succ, List.getElem_toArray, List.getElem_cons_succ, List.getElem_cons_zero]
  refine wpAnyH_ready (rs := [49]) (by kernel_rfl) (by simp) ?_
  refine AllReadyH.cons (o := _) rfl (fun K hK => ?_) AllReadyH.nil
  have hth : V9.there w.heap.size 0 12 := there_next HTH.out HS1.out B9.out
  rw [if_pos (by rfl)]
  refine wp_store_mid _ _ _ rfl w.heap.size 0 #[.int .i64 x0, .int .i64 x1, .int .i64 x2, .int .i64 x3, .int .i64 x4, .int .i64 x5, .int .u64 (u6 : Int), .int .i64 x7, .string t10, .int .i64 x8, .int .i64 x9, .string t11] rfl rfl hth (by kernel_rfl) (all_oneCell_toArray (cs := [.int .i64 x0, .int .i64 x1, .int .i64 x2, .int .i64 x3, .int .i64 x4, .int .i64 x5, .int .u64 (u6 : Int), .int .i64 x7, .string t10, .int .i64 x8, .int .i64 x9, .string t11]) (by intro v hv; simp only [List.mem_cons, List.not_mem_nil, or_false] at hv; rcases hv with rfl | rfl | rfl | rfl | rfl | rfl | rfl | rfl | rfl | rfl | rfl | rfl <;> rfl)) ?_
  refine hK.out _ _ ⟨_, B9.out, Or.inr rfl⟩ (fun hH => ?_)
  clear hK K
  refine wpAnyH_done (by kernel_rfl) ?_ _
  have R := World.rangeAt_setCells_same V9 w.heap.size 0 [.int .i64 x0, .int .i64 x1, .int .i64 x2, .int .i64 x3, .int .i64 x4, .int .i64 x5, .int .u64 (u6 : Int), .int .i64 x7, .string t10, .int .i64 x8, .int .i64 x9, .string t11] hth
  have hbl : Below w.heap.size w (V9.setCells w.heap.size 0 [.int .i64 x0, .int .i64 x1, .int .i64 x2, .int .i64 x3, .int .i64 x4, .int .i64 x5, .int .u64 (u6 : Int), .int .i64 x7, .string t10, .int .i64 x8, .int .i64 x9, .string t11]) := below_set w.heap.size (Nat.le_refl _) _ _ _ (below_nx HB1.out B9.out)
  generalize V9.setCells w.heap.size 0 [.int .i64 x0, .int .i64 x1, .int .i64 x2, .int .i64 x3, .int .i64 x4, .int .i64 x5, .int .u64 (u6 : Int), .int .i64 x7, .string t10, .int .i64 x8, .int .i64 x9, .string t11] = Vz at *
  go_wp2_with fail
  refine bodyPost_ret (results_cell Tryz.results56 _ Vz w.heap.size 0 [.int .i64 x0, .int .i64 x1, .int .i64 x2, .int .i64 x3, .int .i64 x4, .int .i64 x5, .int .u64 (u6 : Int), .int .i64 x7, .string t10, .int .i64 x8, .int .i64 x9, .string t11] _ rfl R Tryz.underlying25 (by rfl) (by kernel_rfl)) rfl ?_
  exact ⟨rfl, hbl⟩
end Go.Proofs.YtidfgjgbigedeaaGreatDoor
