/- Messages: may one be: the program's Check. Messages: a whole message, loaded. -/
import Derived.Test.YtfnmfmelcghjbaaMgD
import Derived.Test.YtfnmfmelcghjbaaMgG
import Derived.Deep.MidRow
import Derived.Deep.DeepCutAuto
section
namespace Go.Proofs.Ytfnmfmelcghjbaa
open Go.Fq Go.RowKit Go.Mq
open Go.Iq (idE nameE)
set_option linter.unusedVariables false
set_option linter.unusedSimpArgs false
set_option maxRecDepth 100000

set_option maxHeartbeats 2000000 in
theorem mNoPk_any (k : Int) (nn ec sq : Nat) (na : Option Addr) (nl nc : Nat) (kd fr bk tw hm hp : Int) (sr : Nat) (cd : Int) (nm : ByteArray) (id at_ : Int) (bd : ByteArray) (w : World) : Calls Try.prog 76 #[.agg #[.int .i64 k, .int .u64 (nn : Int), .int .u64 (ec : Int), .int .u64 (sq : Int), .slice na nl nc, .int .i64 kd, .int .i64 fr, .int .i64 bk, .int .i64 tw, .int .i64 hm, .int .i64 hp, .int .u64 (sr : Int), .int .i64 cd, .string nm, .int .i64 id, .int .i64 at_, .string bd]] w fun e w' => e = .returned (.bool (zeroPk ⟨kd, fr, bk, tw, hm, hp, sr, cd, nm, id, at_, bd⟩)) ∧ Below w.heap.size w w' := by
  go_enter Try.func76, Try.ntmps76
  go_wp2_with fail
  all_goals (go_ret; exact ⟨ret_bool (by simp [zeroPk, *]), below_al _ _⟩)
set_option maxHeartbeats 2000000 in
theorem mNoNews_any (k : Int) (nn ec sq : Nat) (na : Option Addr) (nl nc : Nat) (kd fr bk tw hm hp : Int) (sr : Nat) (cd : Int) (nm : ByteArray) (id at_ : Int) (bd : ByteArray) (w : World) : Calls Try.prog 75 #[.agg #[.int .i64 k, .int .u64 (nn : Int), .int .u64 (ec : Int), .int .u64 (sq : Int), .slice na nl nc, .int .i64 kd, .int .i64 fr, .int .i64 bk, .int .i64 tw, .int .i64 hm, .int .i64 hp, .int .u64 (sr : Int), .int .i64 cd, .string nm, .int .i64 id, .int .i64 at_, .string bd]] w fun e w' => e = .returned (.bool ((nl : Int) == 0)) ∧ Below w.heap.size w w' := by
  go_enter Try.func75, Try.ntmps75
  go_wp2_with fail
  all_goals (go_ret; exact ⟨ret_bool (by first | (simp [*]; done) | (simp at *; omega) | (simp at * <;> omega)), below_al _ _⟩)
set_option maxHeartbeats 2000000 in
theorem mNums_any (k : Int) (nn ec sq : Nat) (na : Option Addr) (nl nc : Nat) (kd fr bk tw hm hp : Int) (sr : Nat) (cd : Int) (nm : ByteArray) (id at_ : Int) (bd : ByteArray) (w : World) : Calls Try.prog 77 #[.agg #[.int .i64 k, .int .u64 (nn : Int), .int .u64 (ec : Int), .int .u64 (sq : Int), .slice na nl nc, .int .i64 kd, .int .i64 fr, .int .i64 bk, .int .i64 tw, .int .i64 hm, .int .i64 hp, .int .u64 (sr : Int), .int .i64 cd, .string nm, .int .i64 id, .int .i64 at_, .string bd]] w fun e w' => e = .returned (.bool (decide ((1 : Int) ≤ (nn : Int)) && decide ((1 : Int) ≤ (ec : Int)) && decide ((1 : Int) ≤ (sq : Int)))) ∧ Below w.heap.size w w' := by
  go_enter Try.func77, Try.ntmps77
  go_wp2_with fail
  all_goals (go_ret; exact ⟨ret_bool (by first | (simp [*]; done) | (simp at *; omega) | (simp at * <;> omega)), below_al _ _⟩)
set_option maxHeartbeats 2000000 in
theorem mNoNums_any (k : Int) (nn ec sq : Nat) (na : Option Addr) (nl nc : Nat) (kd fr bk tw hm hp : Int) (sr : Nat) (cd : Int) (nm : ByteArray) (id at_ : Int) (bd : ByteArray) (w : World) : Calls Try.prog 79 #[.agg #[.int .i64 k, .int .u64 (nn : Int), .int .u64 (ec : Int), .int .u64 (sq : Int), .slice na nl nc, .int .i64 kd, .int .i64 fr, .int .i64 bk, .int .i64 tw, .int .i64 hm, .int .i64 hp, .int .u64 (sr : Int), .int .i64 cd, .string nm, .int .i64 id, .int .i64 at_, .string bd]] w fun e w' => e = .returned (.bool (((nn : Int) == 0) && ((ec : Int) == 0) && ((sq : Int) == 0))) ∧ Below w.heap.size w w' := by
  go_enter Try.func79, Try.ntmps79
  go_wp2_with fail
  all_goals (go_ret; exact ⟨ret_bool (by first | (simp [*]; done) | (simp at *; omega) | (simp at * <;> omega)), below_al _ _⟩)
end Go.Proofs.Ytfnmfmelcghjbaa
end

section
namespace Go.Proofs.Ytfnmfmelcghjbaa
open Go.Fq Go.RowKit Go.Mq
set_option linter.unusedVariables false
set_option linter.unusedSimpArgs false
set_option maxRecDepth 100000

/-- A whole message is loaded out of its box: once, for the kernel takes most of a minute for its nested types. -/
theorem load_ms (w : World) (b : Nat) (v0 v1 v2 v3 v4 v5 v6 v7 v8 v9 v10 v11 v12 v13 v14 v15 v16 : Value) (c0 : w.cell? ⟨b, 0, none⟩ = some v0) (c1 : w.cell? ⟨b, 1, none⟩ = some v1) (c2 : w.cell? ⟨b, 2, none⟩ = some v2) (c3 : w.cell? ⟨b, 3, none⟩ = some v3) (c4 : w.cell? ⟨b, 4, none⟩ = some v4) (c5 : w.cell? ⟨b, 5, none⟩ = some v5) (c6 : w.cell? ⟨b, 6, none⟩ = some v6) (c7 : w.cell? ⟨b, 7, none⟩ = some v7) (c8 : w.cell? ⟨b, 8, none⟩ = some v8) (c9 : w.cell? ⟨b, 9, none⟩ = some v9) (c10 : w.cell? ⟨b, 10, none⟩ = some v10) (c11 : w.cell? ⟨b, 11, none⟩ = some v11) (c12 : w.cell? ⟨b, 12, none⟩ = some v12) (c13 : w.cell? ⟨b, 13, none⟩ = some v13) (c14 : w.cell? ⟨b, 14, none⟩ = some v14) (c15 : w.cell? ⟨b, 15, none⟩ = some v15) (c16 : w.cell? ⟨b, 16, none⟩ = some v16) : (Instr.loadAt 89 (.pointer (some ⟨b, 0, none⟩))).run Try.prog w = .ok (.agg #[v0, v1, v2, v3, v4, v5, v6, v7, v8, v9, v10, v11, v12, v13, v14, v15, v16]) w := by
  refine run_loadAt_mid w b 0 89 [v0, v1, v2, v3, v4, v5, v6, v7, v8, v9, v10, v11, v12, v13, v14, v15, v16] _ ?_ Try.underlying89 (by rfl) (by kernel_rfl)
  intro j v hj
  match j with
  | 0 => simp at hj; subst hj; exact c0
  | 1 => simp at hj; subst hj; exact c1
  | 2 => simp at hj; subst hj; exact c2
  | 3 => simp at hj; subst hj; exact c3
  | 4 => simp at hj; subst hj; exact c4
  | 5 => simp at hj; subst hj; exact c5
  | 6 => simp at hj; subst hj; exact c6
  | 7 => simp at hj; subst hj; exact c7
  | 8 => simp at hj; subst hj; exact c8
  | 9 => simp at hj; subst hj; exact c9
  | 10 => simp at hj; subst hj; exact c10
  | 11 => simp at hj; subst hj; exact c11
  | 12 => simp at hj; subst hj; exact c12
  | 13 => simp at hj; subst hj; exact c13
  | 14 => simp at hj; subst hj; exact c14
  | 15 => simp at hj; subst hj; exact c15
  | 16 => simp at hj; subst hj; exact c16
  | j + 17 => simp at hj

theorem range_ms (w : World) (t : TypeId) (v0 v1 v2 v3 v4 v5 v6 v7 v8 v9 v10 v11 v12 v13 v14 v15 v16 : Value) : (w.alloc (.cells #[v0, v1, v2, v3, v4, v5, v6, v7, v8, v9, v10, v11, v12, v13, v14, v15, v16] t)).rangeAt w.heap.size 0 [v0, v1, v2, v3, v4, v5, v6, v7, v8, v9, v10, v11, v12, v13, v14, v15, v16] := by
  intro j v hj
  match j with
  | 0 => simp at hj; subst hj; simp [go_sem]
  | 1 => simp at hj; subst hj; simp [go_sem]
  | 2 => simp at hj; subst hj; simp [go_sem]
  | 3 => simp at hj; subst hj; simp [go_sem]
  | 4 => simp at hj; subst hj; simp [go_sem]
  | 5 => simp at hj; subst hj; simp [go_sem]
  | 6 => simp at hj; subst hj; simp [go_sem]
  | 7 => simp at hj; subst hj; simp [go_sem]
  | 8 => simp at hj; subst hj; simp [go_sem]
  | 9 => simp at hj; subst hj; simp [go_sem]
  | 10 => simp at hj; subst hj; simp [go_sem]
  | 11 => simp at hj; subst hj; simp [go_sem]
  | 12 => simp at hj; subst hj; simp [go_sem]
  | 13 => simp at hj; subst hj; simp [go_sem]
  | 14 => simp at hj; subst hj; simp [go_sem]
  | 15 => simp at hj; subst hj; simp [go_sem]
  | 16 => simp at hj; subst hj; simp [go_sem]
  | j + 17 => simp at hj
/-- Check over isMessage's contract: the load of the whole message by hand (the pattern for isMessage's regions). -/
theorem check_over (v0 v1 v2 v3 v4 v5 v6 v7 v8 v9 v10 v11 v12 v13 v14 v15 v16 : Value) (w : World) (HM : ∀ W, Calls Try.prog 71 #[.agg #[v0, v1, v2, v3, v4, v5, v6, v7, v8, v9, v10, v11, v12, v13, v14, v15, v16]] W fun e w' => e = .returned (.bool true) ∧ Below W.heap.size W w') : Calls Try.prog 65 #[.agg #[v0, v1, v2, v3, v4, v5, v6, v7, v8, v9, v10, v11, v12, v13, v14, v15, v16]] w fun e w' => e = .returned (.int .i64 0) ∧ Below w.heap.size w w' := by
  go_enter Try.func65, Try.ntmps65
  go_upto_region 1 with (fail)
  refine wp_region_list ?_
  refine wpList_load_mid rfl 89 (.tmp 1) rfl w.heap.size 0 rfl [v0, v1, v2, v3, v4, v5, v6, v7, v8, v9, v10, v11, v12, v13, v14, v15, v16] _ (range_ms w _ v0 v1 v2 v3 v4 v5 v6 v7 v8 v9 v10 v11 v12 v13 v14 v15 v16) Try.underlying89 (by rfl) (by kernel_rfl) ?_
  simp only [Act.put, List.setIfInBounds_toArray, List.set_cons_zero, List.set_cons_succ]
  go_wp2_with (go_at_call 71; refine (HM _).mono ?_; rintro e w3 ⟨rfl, hb3⟩)
  go_ret
  exact ⟨rfl, below_nx (below_al _ _) hb3⟩
/-- The same load, where the operation is guarded and wanted. -/
theorem wpList_load_guard {ops : Array Oper} {rest : List Oper} {op : Oper} {a : Act} {w : World} {Q : Exit → Act → World → Prop} (hw : Region.wanted op (yielded ops a.tmps) = true) (ty : TypeId) (x : Operand) (ho : op.op = .load ty x)
    (b o : Nat) (hx : a.eval x = .pointer (some ⟨b, o, none⟩)) (cs : List Value) (d : TypeDesc) (hc : w.rangeAt b o cs)
    (hu : Try.prog.underlying ty = some d) (hd : d.isRow = true) (hi : (Try.prog.info? ty).map (·.size) = some cs.length)
    (h : wpList Try.prog ops Q rest (a.put op.dst (.agg cs.toArray)) w) : wpList Try.prog ops Q (op :: rest) a w :=
  wpList_step fun K hK => by rw [if_pos hw]; exact wp_load_mid ty x ho b o hx cs d hc hu hd hi (hK _ _ h)
end Go.Proofs.Ytfnmfmelcghjbaa
end
