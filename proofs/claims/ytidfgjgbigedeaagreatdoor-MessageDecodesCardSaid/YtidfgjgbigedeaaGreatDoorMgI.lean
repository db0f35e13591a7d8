/- Messages: may one be: the program's Check. Messages: a whole message, loaded. -/
import Derived.Test.YtidfgjgbigedeaaGreatDoorMgD
import Derived.Test.YtidfgjgbigedeaaGreatDoorMgG
import Derived.Deep.MidRow
import Derived.Deep.DeepCutAuto
section
namespace Go.Proofs.YtidfgjgbigedeaaGreatDoor
open Go.Fq Go.RowKit Go.Mq
open Go.Iq (idE nameE)
set_option linter.unusedVariables false
set_option linter.unusedSimpArgs false
set_option maxRecDepth 100000

set_option maxHeartbeats 2000000 in
theorem mNoPk_any (k : Int) (nn ec sq : Nat) (na : Option Addr) (nl nc : Nat) (kd fr bk tw hm hp : Int) (sr : Nat) (cd : Int) (nm : ByteArray) (id at_ : Int) (bd : ByteArray) (w : World) : Calls Tryz.prog 44 #[.agg #[.int .i64 k, .int .u64 (nn : Int), .int .u64 (ec : Int), .int .u64 (sq : Int), .slice na nl nc, .int .i64 kd, .int .i64 fr, .int .i64 bk, .int .i64 tw, .int .i64 hm, .int .i64 hp, .int .u64 (sr : Int), .int .i64 cd, .string nm, .int .i64 id, .int .i64 at_, .string bd]] w fun e w' => e = .returned (.bool (zeroPk ⟨kd, fr, bk, tw, hm, hp, sr, cd, nm, id, at_, bd⟩)) ∧ Below w.heap.size w w' := by
  go_enter Tryz.func44, Tryz.ntmps44
  go_wp2_with fail
  all_goals (go_ret; exact ⟨ret_bool (by simp [zeroPk, *]), below_al _ _⟩)
set_option maxHeartbeats 2000000 in
theorem mNoNews_any (k : Int) (nn ec sq : Nat) (na : Option Addr) (nl nc : Nat) (kd fr bk tw hm hp : Int) (sr : Nat) (cd : Int) (nm : ByteArray) (id at_ : Int) (bd : ByteArray) (w : World) : Calls Tryz.prog 43 #[.agg #[.int .i64 k, .int .u64 (nn : Int), .int .u64 (ec : Int), .int .u64 (sq : Int), .slice na nl nc, .int .i64 kd, .int .i64 fr, .int .i64 bk, .int .i64 tw, .int .i64 hm, .int .i64 hp, .int .u64 (sr : Int), .int .i64 cd, .string nm, .int .i64 id, .int .i64 at_, .string bd]] w fun e w' => e = .returned (.bool ((nl : Int) == 0)) ∧ Below w.heap.size w w' := by
  go_enter Tryz.func43, Tryz.ntmps43
  go_wp2_with fail
  all_goals (go_ret; exact ⟨ret_bool (by first | (simp [*]; done) | (simp at *; omega) | (simp at * <;> omega)), below_al _ _⟩)
set_option maxHeartbeats 2000000 in
theorem mNums_any (k : Int) (nn ec sq : Nat) (na : Option Addr) (nl nc : Nat) (kd fr bk tw hm hp : Int) (sr : Nat) (cd : Int) (nm : ByteArray) (id at_ : Int) (bd : ByteArray) (w : World) : Calls Tryz.prog 45 #[.agg #[.int .i64 k, .int .u64 (nn : Int), .int .u64 (ec : Int), .int .u64 (sq : Int), .slice na nl nc, .int .i64 kd, .int .i64 fr, .int .i64 bk, .int .i64 tw, .int .i64 hm, .int .i64 hp, .int .u64 (sr : Int), .int .i64 cd, .string nm, .int .i64 id, .int .i64 at_, .string bd]] w fun e w' => e = .returned (.bool (decide ((1 : Int) ≤ (nn : Int)) && decide ((1 : Int) ≤ (ec : Int)) && decide ((1 : Int) ≤ (sq : Int)))) ∧ Below w.heap.size w w' := by
  go_enter Tryz.func45, Tryz.ntmps45
  go_wp2_with fail
  all_goals (go_ret; exact ⟨ret_bool (by first | (simp [*]; done) | (simp at *; omega) | (simp at * <;> omega)), below_al _ _⟩)
set_option maxHeartbeats 2000000 in
theorem mNoNums_any (k : Int) (nn ec sq : Nat) (na : Option Addr) (nl nc : Nat) (kd fr bk tw hm hp : Int) (sr : Nat) (cd : Int) (nm : ByteArray) (id at_ : Int) (bd : ByteArray) (w : World) : Calls Tryz.prog 47 #[.agg #[.int .i64 k, .int .u64 (nn : Int), .int .u64 (ec : Int), .int .u64 (sq : Int), .slice na nl nc, .int .i64 kd, .int .i64 fr, .int .i64 bk, .int .i64 tw, .int .i64 hm, .int .i64 hp, .int .u64 (sr : Int), .int .i64 cd, .string nm, .int .i64 id, .int .i64 at_, .string bd]] w fun e w' => e = .returned (.bool (((nn : Int) == 0) && ((ec : Int) == 0) && ((sq : Int) == 0))) ∧ Below w.heap.size w w' := by
  go_enter Tryz.func47, Tryz.ntmps47
  go_wp2_with fail
  all_goals (go_ret; exact ⟨ret_bool (by first | (simp [*]; done) | (simp at *; omega) | (simp at * <;> omega)), below_al _ _⟩)
end Go.Proofs.YtidfgjgbigedeaaGreatDoor
end

section
namespace Go.Proofs.YtidfgjgbigedeaaGreatDoor
open Go.Fq Go.RowKit Go.Mq
set_option linter.unusedVariables false
set_option linter.unusedSimpArgs false
set_option maxRecDepth 100000

theorem range_ms (w : World) (t : TypeId) (v0 v1 v2 v3 v4 v5 v6 v7 v8 v9 v10 v11 v12 v13 v14 v15 v16 : Value) : (w.alloc (.cells #[v0, v1, v2, v3, v4, v5, v6, v7, v8, v9, v10, v11, v12, v13, v14, v15, v16] t)).rangeAt w.heap.size 0 [v0, v1, v2, v3, v4, v5, v6, v7, v8, v9, v10, v11, v12, v13, v14, v15, v16] := by
  intro j v hj
  match j with
  | 0 => simp at hj; subst hj; simp [go_sem]
  | 1 => simp at hj; subst hj; simp [go_sem]
  | 2 => simp at hj; subst hj; simp [go_sem]
  | 3 => simp at hj; subst hj; simp [go_sem]
  | 4 => simp at hj; subst hj; simp [go_sem]
  | 5 => simp at hj; subst hj; simp [go_sem]
  | 6 => simp at hj; subst hj; simp [go_sem]
  | 7 => simp at hj; subst hj; simp [go_sem]
  | 8 => simp at hj; subst hj; simp [go_sem]
  | 9 => simp at hj; subst hj; simp [go_sem]
  | 10 => simp at hj; subst hj; simp [go_sem]
  | 11 => simp at hj; subst hj; simp [go_sem]
  | 12 => simp at hj; subst hj; simp [go_sem]
  | 13 => simp at hj; subst hj; simp [go_sem]
  | 14 => simp at hj; subst hj; simp [go_sem]
  | 15 => simp at hj; subst hj; simp [go_sem]
  | 16 => simp at hj; subst hj; simp [go_sem]
  | j + 17 => simp at hj
/-- The same load, where the operation is guarded and wanted. -/
theorem wpList_load_guard {ops : Array Oper} {rest : List Oper} {op : Oper} {a : Act} {w : World} {Q : Exit → Act → World → Prop} (hw : Region.wanted op (yielded ops a.tmps) = true) (ty : TypeId) (x : Operand) (ho : op.op = .load ty x)
    (b o : Nat) (hx : a.eval x = .pointer (some ⟨b, o, none⟩)) (cs : List Value) (d : TypeDesc) (hc : w.rangeAt b o cs)
    (hu : Tryz.prog.underlying ty = some d) (hd : d.isRow = true) (hi : (Tryz.prog.info? ty).map (·.size) = some cs.length)
    (h : wpList Tryz.prog ops Q rest (a.put op.dst (.agg cs.toArray)) w) : wpList Tryz.prog ops Q (op :: rest) a w :=
  wpList_step fun K hK => by rw [if_pos hw]; exact wp_load_mid ty x ho b o hx cs d hc hu hd hi (hK _ _ h)
end Go.Proofs.YtidfgjgbigedeaaGreatDoor
end
