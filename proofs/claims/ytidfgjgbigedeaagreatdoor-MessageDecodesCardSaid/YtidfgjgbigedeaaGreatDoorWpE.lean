/- The program's writer, letter by letter. -/
import Derived.Test.YtidfgjgbigedeaaGreatDoorWpR
import Derived.Test.YtidfgjgbigedeaaGreatDoorWqAll
import Derived.Test.YtidfgjgbigedeaaGreatDoorWrA
import Derived.Deep.RegionLaw
import Derived.Deep.AppendLies
namespace Go.Proofs.YtidfgjgbigedeaaGreatDoor
open Go.RowKit Go.Lib Go.Wq
set_option linter.unusedVariables false
set_option linter.unusedSimpArgs false
set_option maxRecDepth 100000

/-- What a writer turns: its own cell, and what lies behind base. -/
def Ours (wb base : Nat) : Nat → Prop := fun k => k = wb ∨ base ≤ k
/-- A writer, in block wb, whose slice is v, with so many bytes, which lie in blocks from base on. -/
structure Wr (w : World) (wb base : Nat) (v : Value) (b : List UInt8) : Prop where
  lt : wb < base
  le : base ≤ w.heap.size
  fz : w.frozen? ⟨wb, 0, none⟩ = false
  cell : w.cell? ⟨wb, 0, none⟩ = some v
  own : w.ownsRow base 5 1 v b.length (bcs b)
/-- What writing turns: the writer's cell and the row, which lies where it lay or in a new block. -/
structure Moved (wb : Nat) (w w' : World) (v v' : Value) : Prop where
  os : w'.os = w.os
  tape : w'.tape = w.tape
  output : w'.output = w.output
  size : w.heap.size ≤ w'.heap.size
  block : ∀ k, k < w.heap.size → k ≠ wb → v.ownBlock ≠ some k → w'.heap[k]? = w.heap[k]?
  n : ∀ k, v'.ownBlock = some k → v.ownBlock = some k ∨ w.heap.size ≤ k
theorem Moved.refl (wb : Nat) (w : World) (v : Value) : Moved wb w w v v := ⟨rfl, rfl, rfl, Nat.le_refl _, fun _ _ _ _ => rfl, fun _ h => Or.inl h⟩
theorem Moved.other {wb : Nat} {w w' : World} {v v' : Value} (h : Moved wb w w' v v') {b : Nat} (hb : b < w.heap.size) (hne : v.ownBlock ≠ some b) : v'.ownBlock ≠ some b := by
  intro e
  rcases h.n b e with h1 | h1
  · exact hne h1
  · omega
theorem Moved.trans {wb : Nat} {w1 w2 w3 : World} {v1 v2 v3 : Value} (h : Moved wb w1 w2 v1 v2) (k : Moved wb w2 w3 v2 v3) : Moved wb w1 w3 v1 v3 := by
  refine ⟨k.os.trans h.os, k.tape.trans h.tape, k.output.trans h.output, Nat.le_trans h.size k.size, fun i hi hw hne => ?_, fun i hi => ?_⟩
  · have hs := h.size
    rw [k.block i (by omega) hw (h.other hi hne), h.block i hi hw hne]
  · rcases k.n i hi with h1 | h1
    · exact h.n i h1
    · exact Or.inr (Nat.le_trans h.size h1)
theorem Moved.of_below {wb : Nat} {w w' : World} (v : Value) (h : Below w.heap.size w w') : Moved wb w w' v v := ⟨h.os, h.tape, h.output, h.size, fun k hk _ _ => h.block k hk, fun k h => Or.inl h⟩
theorem Moved.kept {wb base : Nat} {w w' : World} {v v' : Value} {e : Nat} {n : Nat} {xs : List Value} (h : Moved wb w w' v v') (o : w.ownsRow base e 1 v n xs) : Kept (Ours wb base) w w' :=
  ⟨h.os, h.tape, h.output, h.size, fun k hk hn => h.block k hk (fun e => hn (Or.inl e)) (fun e => hn (Or.inr (o.lt k e).1))⟩
theorem own_put {w w' : World} {base e size : Nat} {v : Value} {n : Nat} {xs : List Value} (o : w.ownsRow base e size v n xs) (h : ∀ g, v.ownBlock = some g → w'.heap[g]? = w.heap[g]?) : w'.ownsRow base e size v n xs := by
  refine ⟨o.1, ?_⟩
  rcases o.2 with ⟨rfl, hn⟩ | ⟨g, cap, cur, rfl, h1⟩
  · exact Or.inl ⟨rfl, hn⟩
  · refine Or.inr ⟨g, cap, cur, rfl, ?_⟩
    rw [h g rfl]; exact h1
theorem wr_store {w w3 : World} {wb base : Nat} {b x : List UInt8} {v v' : Value} (H : Wr w wb base v b) (hg : Grew w w3 v v') (ho3 : w3.ownsRow base 5 1 v' x.length (bcs x)) {u : Value} (hc : w3.cell? ⟨wb, 0, none⟩ = some u) :
    Wr (w3.setCell ⟨wb, 0, none⟩ v') wb base v' x ∧ Moved wb w (w3.setCell ⟨wb, 0, none⟩ v') v v' := by
  have ho := H.own
  have hlt := H.lt
  have hle := H.le
  have hown := ho3.lt
  refine ⟨⟨hlt, by have := hg.g.size; simp [World.setCell]; omega, ?_, ?_, ?_⟩, ?_⟩
  · have := hg.frozen (b := wb) (by omega) (fun e => by have := (ho.lt wb e).1; omega) 0
    simp [go_sem]
    rw [this]; exact H.fz
  · simp [go_sem, hc]
  · exact own_put ho3 (fun g e => by rw [Below.heap_setCell _ _ _ _ (by have := (hown g e).1; simp; omega)])
  · exact ⟨hg.g.os, hg.g.tape, hg.g.output, by simpa [World.setCell] using hg.g.size, fun k hk hw hne => by rw [Below.heap_setCell _ _ _ _ hw, hg.g.block k hk (fun e => hne e.symm)], hg.n⟩
theorem Wr.kept {w w' : World} {wb base : Nat} {v : Value} {b : List UInt8} (H : Wr w wb base v b) (h : Below w.heap.size w w') : Wr w' wb base v b := by
  have h1 := H.cell
  have h2 := H.own
  have hlt := H.lt
  have hle := H.le
  exact ⟨hlt, by have := h.size; omega, (h.frozen (p := ⟨wb, 0, none⟩) (by simp; omega)).trans H.fz, (h.cell (p := ⟨wb, 0, none⟩) (by simp; omega)).trans h1, own_put h2 (fun g e => h.block g (h2.lt g e).2)⟩
theorem Wr.like {w w' : World} {wb base : Nat} {v : Value} {b : List UInt8} (H : Wr w wb base v b) (h : Like w w') : Wr w' wb base v b :=
  ⟨H.lt, by rw [h.heap]; exact H.le, (World.frozen?_of_block (by rw [h.heap])).trans H.fz, (World.cell?_of_block (by rw [h.heap])).trans H.cell, h.own H.own⟩

theorem own_shape {w : World} {base e size : Nat} {v : Value} {n : Nat} {xs : List Value} (o : w.ownsRow base e size v n xs) (h : 0 < n) : ∃ g cap, v = .slice (some ⟨g, 0, none⟩) n cap := by
  rcases o.2 with ⟨rfl, hn⟩ | ⟨g, cap, cur, rfl, h1⟩
  · omega
  · exact ⟨g, cap, rfl⟩
/-- How a writer's method ends that comes back. -/
def Wrote (wb base : Nat) (x : List UInt8) (v : Value) (w : World) (e : Ending) (w' : World) : Prop := e = .returned (.tuple #[]) ∧ ∃ v', Wr w' wb base v' x ∧ Moved wb w w' v v'

set_option maxHeartbeats 1000000 in
theorem number_any (wb base : Nat) (b : List UInt8) (n : Nat) (hn : n < 18446744073709551616) (v : Value) (w : World) (H : Wr w wb base v b) (hs : b.length ≤ 70368744177664) :
    Calls Tryz.prog 91 #[.pointer (some ⟨wb, 0, none⟩), .int .u64 (n : Int)] w fun e w' => Wrote wb base (b ++ vint n) v w e w' := by
  have hc := H.cell
  have ho := H.own
  have HC := Lib.hid (appendVarint_any base v b n hn w ho H.le hs)
  have HO := Lib.hid ho
  have HH := Lib.hid H
  have hlt := H.lt
  have hle := H.le
  clear ho H
  go_enter Tryz.func91, Tryz.ntmps91
  go_wp2_with fail
  refine HC.out.mono ?_
  rintro e w3 ⟨v', rfl, ho3, hg3⟩
  have hne : v.ownBlock ≠ some wb := fun e => by have := (HO.out.lt wb e).1; omega
  have c3 := (hg3.cell (b := wb) (by omega) hne 0).trans hc
  have f3 := (hg3.frozen (b := wb) (by omega) hne 0).trans HH.out.fz
  have HS := Lib.hid (wr_store HH.out hg3 ho3 c3)
  obtain ⟨g, cap, rfl⟩ := own_shape ho3 (by rw [List.length_append]; have := vint_pos n; omega)
  clear ho3 hg3 hne hc
  generalize (b ++ vint n).length = kk at *
  go_wp2_with fail
  first | go_end0 | refine bodyPost_ret (results_none rfl _ _ _) rfl ?_
  exact ⟨rfl, _, HS.out.1, HS.out.2⟩

set_option maxHeartbeats 1000000 in
theorem keep_ok (wb base : Nat) (b : List UInt8) (n : Nat) (v : Value) (w : World) (H : Wr w wb base v b) (hs : n + b.length ≤ 65536) :
    Calls Tryz.prog 68 #[.pointer (some ⟨wb, 0, none⟩), .int .i64 (n : Int)] w fun e w' => e = .returned (.tuple #[]) ∧ w = w' := by
  have hc := H.cell
  have ho := H.own
  have hv : ∃ a c, v = .slice a b.length c := by
    rcases ho.2 with ⟨rfl, h0⟩ | ⟨g, cap, cur, rfl, -⟩
    · exact ⟨_, _, by rw [h0]⟩
    · exact ⟨_, _, rfl⟩
  obtain ⟨a, c, rfl⟩ := hv
  have hle : decide ((n : Int) ≤ 65536 - (b.length : Int)) = true := by simp; omega
  clear ho H
  go_enter Tryz.func68, Tryz.ntmps68
  go_wp2_with fail
  try rw [hle]
  refine (check_ok _ _ _).mono ?_
  rintro e w3 ⟨rfl, rfl⟩
  go_wp2_with fail
  first | go_end0 | refine bodyPost_ret (results_none rfl _ _ _) rfl ?_
  exact ⟨rfl, rfl⟩
set_option maxHeartbeats 1000000 in
theorem keep_bad (wb base : Nat) (b : List UInt8) (n : Nat) (v : Value) (w : World) (H : Wr w wb base v b) (hn : n ≤ 281474976710656) (hs : 65536 < n + b.length) :
    Calls Tryz.prog 68 #[.pointer (some ⟨wb, 0, none⟩), .int .i64 (n : Int)] w fun e w' => Dies 3 0 w e w' ∧ Below w.heap.size w w' := by
  have hb : b.length ≤ 9223372036854775807 := by
    rcases H.own.2 with ⟨-, h0⟩ | ⟨g, cap, cur, -, -, -, h1, h2, -⟩
    · omega
    · unfold maxLen at h2; omega
  have hc := H.cell
  have ho := H.own
  have hv : ∃ a c, v = .slice a b.length c := by
    rcases ho.2 with ⟨rfl, h0⟩ | ⟨g, cap, cur, rfl, -⟩
    · exact ⟨_, _, by rw [h0]⟩
    · exact ⟨_, _, rfl⟩
  obtain ⟨a, c, rfl⟩ := hv
  have hle : decide ((n : Int) ≤ 65536 - (b.length : Int)) = false := by simp; omega
  clear ho H
  go_enter Tryz.func68, Tryz.ntmps68
  go_wp2_with fail
  try rw [hle]
  refine (check_bad _ _ _).mono ?_
  rintro e w3 ⟨⟨pb, rfl, hd1⟩, hb3⟩
  go_wp2_with fail
  exact ⟨rfl, ⟨pb, rfl, hd1⟩, hb3⟩

set_option maxHeartbeats 1000000 in
theorem truth_any (wb base : Nat) (b : List UInt8) (x : Bool) (v : Value) (w : World) (H : Wr w wb base v b) (hs : b.length ≤ 70368744177664) :
    Calls Tryz.prog 94 #[.pointer (some ⟨wb, 0, none⟩), .bool x] w fun e w' => Wrote wb base (b ++ [if x then 1 else 0]) v w e w' := by
  obtain ⟨i0, hi, hz0, hz1, hz2⟩ := info8
  have hc := H.cell
  have ho := H.own
  have HO := Lib.hid ho
  have HH := Lib.hid H
  have hlt := H.lt
  have hle := H.le
  have hne : Hid (v.ownBlock ≠ some wb) := Lib.hid (fun e => by have := (ho.lt wb e).1; omega)
  have H63 : Hid (b.length + 1 ≤ maxLen) := Lib.hid (by unfold maxLen; omega)
  have H47 : Hid ((b.length + 1) * 1 ≤ 140737488355328) := Lib.hid (by omega)
  have HCS : Hid (∀ (y : Int) (j : Nat) (u : Value), ([Value.int .u8 y] : List Value)[j]? = some u → (w.alloc (.cells #[.int .u8 y] 5)).cell? ((⟨w.heap.size, 0, none⟩ : Addr).add j) = some u) := Lib.hid (by
    intro y j u hj
    cases j with
    | zero => simp at hj; subst hj; simp [Addr.add]
    | succ j => simp at hj)
  clear ho H
  have HS : Hid (∀ (y : UInt8) (w3 : World) (v' : Value), w3.ownsRow base 5 1 v' (b.length + 1) (bcs b ++ [.int .u8 (y.toNat : Int)]) → Grew (w.alloc (.cells #[.int .u8 (y.toNat : Int)] 5)) w3 v v' →
      w3.cell? ⟨wb, 0, none⟩ = some v ∧ w3.frozen? ⟨wb, 0, none⟩ = false ∧ Wr (w3.setCell ⟨wb, 0, none⟩ v') wb base v' (b ++ [y]) ∧ Moved wb w (w3.setCell ⟨wb, 0, none⟩ v') v v') := Lib.hid (fun y w3 v' h1 h2 => by
    have hg := (Grew.alloc w (.cells #[.int .u8 (y.toNat : Int)] 5) v).trans h2
    have c3 := (hg.cell (b := wb) (by omega) hne.out 0).trans hc
    have f3 := (hg.frozen (b := wb) (by omega) hne.out 0).trans HH.out.fz
    have ho3 : w3.ownsRow base 5 1 v' (b ++ [y]).length (bcs (b ++ [y])) := by rw [bcs_append, List.length_append]; exact h1
    exact ⟨c3, f3, wr_store HH.out hg ho3 c3⟩)
  have HS0 := HS.out 0
  have HS1 := HS.out 1
  have e0 : ((0 : UInt8).toNat : Int) = 0 := rfl
  have e1 : ((1 : UInt8).toNat : Int) = 1 := rfl
  rw [e0] at HS0
  rw [e1] at HS1
  replace HS0 := Lib.hid HS0
  replace HS1 := Lib.hid HS1
  clear HS e0 e1
  generalize hbl : b.length = k at *
  generalize hbX : bcs b = X at *
  clear hbl hbX
  cases x with
  | false =>
    go_enter Tryz.func94, Tryz.ntmps94
    go_wp2_with (at_builtin; refine wpList_append_vals _ rfl _ _ 61 rfl base 5 i0 (.int .u8 0) 1 1 Tryz.underlying61 hi hz0 hz1 hz2 rfl (by decide) _ k X rfl (HO.out.alloc _) ⟨w.heap.size, 0, none⟩ 1 1 [.int .u8 0] rfl rfl (HCS.out 0) (by intro u hu; simp at hu; subst hu; rfl) H63.out H47.out (by simp; omega) ?_; intro v' w3 hown hg; obtain ⟨g, cap, rfl⟩ := own_shape hown (by omega); obtain ⟨c3, f3, hs⟩ := HS0.out w3 _ hown hg; have HS2 := Lib.hid hs; clear hown hg hs)
    first | go_end0 | refine bodyPost_ret (results_none rfl _ _ _) rfl ?_
    exact ⟨rfl, _, HS2.out.1, HS2.out.2⟩
  | true =>
    go_enter Tryz.func94, Tryz.ntmps94
    go_wp2_with (at_builtin; refine wpList_append_vals _ rfl _ _ 61 rfl base 5 i0 (.int .u8 0) 1 1 Tryz.underlying61 hi hz0 hz1 hz2 rfl (by decide) _ k X rfl (HO.out.alloc _) ⟨w.heap.size, 0, none⟩ 1 1 [.int .u8 1] rfl rfl (HCS.out 1) (by intro u hu; simp at hu; subst hu; rfl) H63.out H47.out (by simp; omega) ?_; intro v' w3 hown hg; obtain ⟨g, cap, rfl⟩ := own_shape hown (by omega); obtain ⟨c3, f3, hs⟩ := HS1.out w3 _ hown hg; have HS2 := Lib.hid hs; clear hown hg hs)
    first | go_end0 | refine bodyPost_ret (results_none rfl _ _ _) rfl ?_
    exact ⟨rfl, _, HS2.out.1, HS2.out.2⟩

theorem xzig_neg (i : Int) (h0 : i < 0) (h1 : -9223372036854775808 ≤ i) : bits BinOp.xor IntKind.u64 (IntKind.u64.wrap (IntKind.u64.wrap i * 2)) (IntKind.u64.wrap (i / 9223372036854775808)) = ((zig i : Nat) : Int) := by
  have hw : IntKind.u64.wrap (IntKind.u64.wrap i * 2) = ((18446744073709551616 + 2 * i).toNat : Int) := by
    rw [Go.IntKind.wrap_u64, Go.IntKind.wrap_u64]; omega
  have hm : IntKind.u64.wrap (i / 9223372036854775808) = ((18446744073709551615 : Nat) : Int) := by
    rw [Go.IntKind.wrap_u64]; omega
  rw [hw, hm, bits_xor_u64_nat _ _ (by omega) (by omega), Nat.xor_comm, xor_max _ (by omega)]
  unfold zig
  rw [if_pos h0]
  omega
theorem xzig_pos (i : Int) (h0 : ¬ i < 0) (h1 : i ≤ 9223372036854775807) : bits BinOp.xor IntKind.u64 (IntKind.u64.wrap (IntKind.u64.wrap i * 2)) (IntKind.u64.wrap (i / 9223372036854775808)) = ((zig i : Nat) : Int) := by
  have hw : IntKind.u64.wrap (IntKind.u64.wrap i * 2) = ((2 * i).toNat : Int) := by
    rw [Go.IntKind.wrap_u64, Go.IntKind.wrap_u64]; omega
  have hm : IntKind.u64.wrap (i / 9223372036854775808) = ((0 : Nat) : Int) := by
    rw [Go.IntKind.wrap_u64]; omega
  rw [hw, hm, bits_xor_u64_nat _ _ (by omega) (by omega), Nat.xor_zero]
  unfold zig
  rw [if_neg h0]
theorem fold_any (i : Int) (h0 : -9223372036854775808 ≤ i) (h1 : i ≤ 9223372036854775807) (w : World) : Calls Tryz.prog 92 #[.int .i64 i] w fun e w' => e = .returned (.int .u64 ((zig i : Nat) : Int)) ∧ w = w' := by
  have hx : Hid (bits BinOp.xor IntKind.u64 (IntKind.u64.wrap (IntKind.u64.wrap i * 2)) (IntKind.u64.wrap (i / 9223372036854775808)) = ((zig i : Nat) : Int)) := Lib.hid (by
    by_cases hi : i < 0
    · exact xzig_neg i hi h0
    · exact xzig_pos i hi h1)
  go_enter Tryz.func92, Tryz.ntmps92
  have hx2 := hx.out
  go_wp2_with fail
  go_ret
  exact ⟨rfl, rfl⟩

set_option maxHeartbeats 1000000 in
theorem text_any (wb base : Nat) (b : List UInt8) (s : ByteArray) (v : Value) (w : World) (H : Wr w wb base v b) (hs : b.length ≤ 35184372088832) (hss : s.size ≤ 140737488351232) :
    Calls Tryz.prog 95 #[.pointer (some ⟨wb, 0, none⟩), .string s] w fun e w' =>
      (Wrote wb base (b ++ (vint s.size ++ s.data.toList)) v w e w' ∨ (65536 < (b ++ (vint s.size ++ s.data.toList)).length ∧ Dies 3 0 w e w' ∧ Kept (Ours wb base) w w')) := by
  have hsd : s.data.toList.length = s.size := by rw [Array.length_toList]; rfl
  have hten := vint_ten' (n := s.size) (by omega)
  have hpos := vint_pos s.size
  have HN := Lib.hid (number_any wb base b s.size (by omega) v w H (by omega))
  have HOW := Lib.hid H.own
  have hws : IntKind.u64.wrap (s.size : Int) = (s.size : Int) := by rw [Go.IntKind.wrap_u64]; omega
  have hlt := H.lt
  have hlen : (b ++ vint s.size).length = b.length + (vint s.size).length := List.length_append
  have hlen2 : (b ++ (vint s.size ++ s.data.toList)).length = b.length + (vint s.size).length + s.size := by rw [List.length_append, List.length_append, hsd]; omega
  clear H
  by_cases hfit : s.size + (b ++ vint s.size).length ≤ 65536
  · obtain ⟨i0, hi, hz0, hz1, hz2⟩ := info8
    have H63 : Hid ((b ++ vint s.size).length + s.size ≤ maxLen) := Lib.hid (by unfold maxLen; omega)
    have H47 : Hid ((b ++ vint s.size).length + s.size ≤ 140737488355328) := Lib.hid (by omega)
    go_enter Tryz.func95, Tryz.ntmps95
    go_wp2_with fail
    refine HN.out.mono ?_
    rintro e w3 ⟨rfl, v3, hw3, hk3⟩
    have HW3 := Lib.hid hw3
    have HK3 := Lib.hid hk3
    have HKO := Lib.hid (keep_ok wb base _ s.size v3 w3 hw3 hfit)
    have hc := hw3.cell
    have ho := hw3.own
    have HO := Lib.hid ho
    have hle := hw3.le
    have hne : Hid (v3.ownBlock ≠ some wb) := Lib.hid (fun e => by have := (HO.out.lt wb e).1; omega)
    have HS : Hid (∀ (w4 : World) (v' : Value), w4.ownsRow base 5 1 v' ((b ++ vint s.size).length + s.size) (bcs (b ++ vint s.size) ++ strCells s) → Grew w3 w4 v3 v' →
        w4.cell? ⟨wb, 0, none⟩ = some v3 ∧ w4.frozen? ⟨wb, 0, none⟩ = false ∧ Wr (w4.setCell ⟨wb, 0, none⟩ v') wb base v' (b ++ (vint s.size ++ s.data.toList)) ∧ Moved wb w (w4.setCell ⟨wb, 0, none⟩ v') v v') := Lib.hid (fun w4 v' h1 h2 => by
      have c3 := (h2.cell (b := wb) (by omega) hne.out 0).trans hc
      have f3 := (h2.frozen (b := wb) (by omega) hne.out 0).trans HW3.out.fz
      have ho3 : w4.ownsRow base 5 1 v' (b ++ (vint s.size ++ s.data.toList)).length (bcs (b ++ (vint s.size ++ s.data.toList))) := by
        rw [strCells_bcs, ← bcs_append] at h1
        rw [← List.append_assoc, List.length_append, hsd]
        exact h1
      have h5 := wr_store HW3.out h2 ho3 c3
      exact ⟨c3, f3, h5.1, HK3.out.trans h5.2⟩)
    clear hw3 hk3 ho hlen hlen2
    generalize hbl : (b ++ vint s.size).length = k at *
    generalize hbX : bcs (b ++ vint s.size) = X at *
    have hk0 : 0 < k := by rw [← hbl, List.length_append]; omega
    clear hbl hbX
    go_wp2_with fail
    refine HKO.out.mono ?_
    rintro e w5 ⟨rfl, rfl⟩
    go_wp2_with (at_builtin; refine wpList_append_text _ rfl _ _ 61 9 rfl base 5 i0 Tryz.underlying61 Tryz.underlying9 hi hz0 hz1 hz2 _ k X rfl HO.out s rfl H63.out H47.out hle ?_; intro v' w4 hown hg; obtain ⟨g, cap, rfl⟩ := own_shape hown (by omega); obtain ⟨c3, f3, hs4⟩ := HS.out w4 _ hown hg; have HS2 := Lib.hid hs4; clear hown hg hs4)
    first | go_end0 | refine bodyPost_ret (results_none rfl _ _ _) rfl ?_
    exact Or.inl ⟨rfl, _, HS2.out.1, HS2.out.2⟩
  · have HB : Hid (65536 < (b ++ (vint s.size ++ s.data.toList)).length) := Lib.hid (by omega)
    go_enter Tryz.func95, Tryz.ntmps95
    go_wp2_with fail
    refine HN.out.mono ?_
    rintro e w3 ⟨rfl, v3, hw3, hk3⟩
    have HK3 := Lib.hid (hk3.kept HOW.out)
    have HKO := Lib.hid (keep_bad wb base _ s.size v3 w3 hw3 (by omega) (by omega))
    clear hw3 hk3
    go_wp2_with fail
    refine HKO.out.mono ?_
    rintro e w4 ⟨⟨pb, rfl, hd1⟩, hb4⟩
    have hsz := HK3.out.size
    go_wp2_with fail
    exact ⟨rfl, Or.inr ⟨HB.out, ⟨pb, rfl, by have h1 := hd1.1; omega, hd1.2⟩, HK3.out.trans (Kept.of_below hb4)⟩⟩

set_option maxHeartbeats 2000000 in
theorem wfloat_any (wb base : Nat) (b : List UInt8) (f : Nat) (v : Value) (w : World) (H : Wr w wb base v b) (hs : b.length ≤ 35184372088832) :
    Calls Tryz.prog 93 #[.pointer (some ⟨wb, 0, none⟩), .float .f64 f] w fun e w' => Wrote wb base (b ++ bytesOf 8 f) v w e w' := by
  obtain ⟨i0, hi, hz0, hz1, hz2⟩ := info8
  have hwb := w_bits
  have HH := Lib.hid H
  have hlt := H.lt
  clear H
  go_enter Tryz.func93, Tryz.ntmps93
  go_wp2_with fail
  go_loopw [5] (fun i wr => ∃ (j : Nat), j ≤ 8 ∧ i = .int .i64 (56 - 8 * (j : Int)) ∧ (∃ v', Wr wr wb base v' (b ++ (bytesOf 8 f).take j) ∧ Moved wb w wr v v')) (fun i _ => (intOf i + 8).toNat)
  case atStart => exact ⟨0, by omega, rfl, v, by simpa using HH.out, Moved.refl _ _ _⟩
  case round =>
    obtain ⟨vo, hvo⟩ : ∃ vo, vo = v := ⟨_, rfl⟩
    subst hvo
    obtain ⟨j, hj, rfl, v, hwr, hkp⟩ := hrel
    have HW := Lib.hid hwr
    have HK := Lib.hid hkp
    by_cases hj8 : j < 8
    · have hge : (0 : Int) ≤ 56 - 8 * (j : Int) := by omega
      have hc := hwr.cell
      have ho := hwr.own
      have HO := Lib.hid ho
      have hle := hwr.le
      clear hwr hkp ho
      go_wp2_with fail
      have hsh : (56 - 8 * (j : Int)).toNat = 56 - 8 * j := by omega
      obtain ⟨y, hy⟩ : ∃ y, y = IntKind.u8.wrap ((f : Int) / 2 ^ (56 - 8 * j)) := ⟨_, rfl⟩
      have hyc : y = ((UInt8.ofNat (f / 2 ^ (56 - 8 * j) % 256)).toNat : Int) := by rw [hy, Go.IntKind.wrap_u8]; exact byte_shift f j
      have hbl : ((bytesOf 8 f).take j).length = j := by rw [List.length_take, bytesOf_length]; omega
      have hbl2 : (b ++ (bytesOf 8 f).take j).length = b.length + j := by rw [List.length_append, hbl]
      have H63 : Hid ((b ++ (bytesOf 8 f).take j).length + 1 ≤ maxLen) := Lib.hid (by unfold maxLen; omega)
      have H47 : Hid (((b ++ (bytesOf 8 f).take j).length + 1) * 1 ≤ 140737488355328) := Lib.hid (by omega)
      have HCS : Hid (∀ (j : Nat) (u : Value), ([Value.int .u8 y] : List Value)[j]? = some u → ((wr.alloc (.cells #[.int .u8 y] 5)).drew).cell? ((⟨wr.heap.size, 0, none⟩ : Addr).add j) = some u) := Lib.hid (by
        intro j u hj
        show (wr.alloc (.cells #[.int .u8 y] 5)).cell? _ = _
        cases j with
        | zero => simp at hj; subst hj; simp [Addr.add]
        | succ j => simp at hj)
      have hne : Hid (v.ownBlock ≠ some wb) := Lib.hid (fun e => by have := (HO.out.lt wb e).1; omega)
      have HS : Hid (∀ (g cap : Nat) (w4 : World), w4.ownsRow base 5 1 (.slice (some ⟨g, 0, none⟩) ((b ++ (bytesOf 8 f).take j).length + 1) cap) ((b ++ (bytesOf 8 f).take j).length + 1) (bcs (b ++ (bytesOf 8 f).take j) ++ [.int .u8 y]) → ((wr.alloc (.cells #[.int .u8 y] 5)).drew).grownBy w4 v.ownBlock → (v.ownBlock = some g ∨ g = wr.heap.size + 1) →
          w4.cell? ⟨wb, 0, none⟩ = some v ∧ w4.frozen? ⟨wb, 0, none⟩ = false ∧ Wr (w4.setCell ⟨wb, 0, none⟩ (.slice (some ⟨g, 0, none⟩) ((b ++ (bytesOf 8 f).take j).length + 1) cap)) wb base (.slice (some ⟨g, 0, none⟩) ((b ++ (bytesOf 8 f).take j).length + 1) cap) (b ++ (bytesOf 8 f).take (j + 1)) ∧ Moved wb w (w4.setCell ⟨wb, 0, none⟩ (.slice (some ⟨g, 0, none⟩) ((b ++ (bytesOf 8 f).take j).length + 1) cap)) vo (.slice (some ⟨g, 0, none⟩) ((b ++ (bytesOf 8 f).take j).length + 1) cap)) := Lib.hid (fun g cap w4 h1 h2 h3 => by
        have hg : Grew wr w4 v (.slice (some ⟨g, 0, none⟩) ((b ++ (bytesOf 8 f).take j).length + 1) cap) := ((Grew.alloc wr (.cells #[.int .u8 y] 5) v).trans (Grew.drew _ v)).trans ⟨h2, fun k hk => by
          simp [Value.ownBlock] at hk; subst hk
          rcases h3 with h3 | h3
          · exact Or.inl h3
          · right; rw [h3]; simp [World.drew]⟩
        have c3 := (hg.cell (b := wb) (by omega) hne.out 0).trans hc
        have f3 := (hg.frozen (b := wb) (by omega) hne.out 0).trans HW.out.fz
        have ho3 : w4.ownsRow base 5 1 (.slice (some ⟨g, 0, none⟩) ((b ++ (bytesOf 8 f).take j).length + 1) cap) (b ++ (bytesOf 8 f).take (j + 1)).length (bcs (b ++ (bytesOf 8 f).take (j + 1))) := by
          rw [hyc] at h1
          rw [bytes8_take f j hj8, ← List.append_assoc, bcs_append, List.length_append (bs := [_])]
          exact h1
        have h5 := wr_store HW.out hg ho3 c3
        exact ⟨c3, f3, h5.1, HK.out.trans h5.2⟩)
      clear hyc hbl hbl2
      generalize (b ++ (bytesOf 8 f).take j).length = k at *
      generalize bcs (b ++ (bytesOf 8 f).take j) = X at *
      have hwbs : wb < wr.heap.size := by omega
      go_region_law (rw [← hy]; refine step_append_lies _ rfl (.tmp 16) (.tmp 21) 61 rfl base 5 i0 (.int .u8 0) 1 1 Tryz.underlying61 hi hz0 hz1 hz2 rfl (by decide) v k X (by simp [Act.eval, Act.put]) ((HO.out.alloc _).drew) ⟨wr.heap.size, 0, none⟩ 1 1 [.int .u8 y] (by simp [Act.eval, Act.put]) rfl HCS.out (by intro u hu; simp at hu; subst hu; rfl) (by omega) H63.out H47.out (by simp [World.drew]; omega) (wr.heap.size + 1) (by simp [World.drew]) ?_; intro g cap w4 h1 h2 h3 h4; obtain ⟨c3, f3, hs4⟩ := HS.out g cap w4 h1 h2 h3; have HS2 := Lib.hid hs4; clear h1 h2 h3 hs4)
      all_goals (
        go_wp2_with fail
        refine ⟨⟨j + 1, by omega, by simp; omega, _, HS2.out.1, HS2.out.2⟩, ?_⟩
        simp [intOf]; omega)
    · obtain rfl : j = 8 := by omega
      have HT : Hid (Wr wr wb base v (b ++ bytesOf 8 f)) := Lib.hid (by have h := HW.out; rwa [List.take_of_length_le (by rw [bytesOf_length]; omega)] at h)
      clear hwr hkp
      go_wp2_with fail
      first | go_end0 | refine bodyPost_ret (results_none rfl _ _ _) rfl ?_
      exact ⟨rfl, _, HT.out, HK.out⟩
end Go.Proofs.YtidfgjgbigedeaaGreatDoor
