/- Must, Check, and the law's closures under Run; awake. -/
import Derived.Test.YtahdmdfcakpajaaDoorGuE
namespace Go.Proofs.YtahdmdfcakpajaaDoor
open Go.RowKit Go.Extern.Stop Go.Stop Go.Extern
set_option linter.unusedVariables false
set_option linter.unusedSimpArgs false

theorem must_ok (w : World) : Calls Tryd.prog 6 #[.int .i64 0] w fun e w' => e = .returned (.tuple #[]) ∧ w = w' := by
  go_enter Tryd.func6, Tryd.ntmps6
  go_wp2
  first | go_end0 | refine bodyPost_ret (results_none rfl _ _ _) rfl ?_
  exact ⟨rfl, rfl⟩
theorem must_bad (n : Int) (hn : (n != 0) = true) (w : World) : Calls Tryd.prog 6 #[.int .i64 n] w fun e w' => e = .panicked [{ v := .iface 22 (.int .i64 n), recovered := false }] ∧ w = w' := by
  go_enter Tryd.func6, Tryd.ntmps6
  go_wp2
  exact ⟨rfl, rfl, rfl⟩
theorem hnot (x : Bool) (w : World) : (Op.unary .not (.bool x)).run Tryd.prog w = .ok (.bool (!x)) w := rfl
theorem check_ok (n place : Int) (w : World) : Calls Tryd.prog 8 #[.bool true, .int .i64 n, .int .i64 place] w fun e w' => e = .returned (.tuple #[]) ∧ w = w' := by
  have hnot := hnot
  go_enter Tryd.func8, Tryd.ntmps8
  go_wp2
  first | go_end0 | refine bodyPost_ret (results_none rfl _ _ _) rfl ?_
  exact ⟨rfl, rfl⟩
theorem check_bad (n place : Int) (w : World) : Calls Tryd.prog 8 #[.bool false, .int .i64 n, .int .i64 place] w fun e w' =>
    e = .panicked [{ v := .iface 34 (.pointer (some ⟨w.heap.size, 0, none⟩)), recovered := false }] ∧ w' = w.alloc (.cells #[.int .i64 n, .int .i64 place, .nilIface] 38) := by
  have hnot := hnot
  go_enter Tryd.func8, Tryd.ntmps8
  go_wp2
  exact ⟨rfl, rfl, rfl⟩

theorem ent5 (args : Array Value) (w : World) : (callFunc 5 args).run Tryd.prog w = .ok (.enter 5 args) w := by kernel_rfl
theorem ent7 (args : Array Value) (w : World) : (callFunc 7 args).run Tryd.prog w = .ok (.enter 7 args) w := by kernel_rfl
theorem ent12 (args : Array Value) (w : World) : (callFunc 12 args).run Tryd.prog w = .ok (.enter 12 args) w := by kernel_rfl

theorem one_ok (a b : Addr) (w : World) (ha : w.cell? a = some (.int .i64 0)) (hb : w.cell? b = some (.int .i64 0)) (hf : w.frozen? b = false) :
    Calls Tryd.prog 5 #[.pointer (some a), .pointer (some b)] w fun e w' => e = .returned (.tuple #[]) ∧ Below w.heap.size (sets [(b, .int .i64 1)] w) w' := by
  go_enter Tryd.func5, Tryd.ntmps5
  go_wp2_with fail
  refine (must_ok w).mono ?_
  rintro e w' ⟨rfl, rfl⟩
  go_wp2_with fail
  first | go_end0 | refine bodyPost_ret (results_none rfl _ _ _) rfl ?_
  exact ⟨rfl, Below.refl _ _⟩
theorem one_bad (n : Int) (hn : (n != 0) = true) (a b : Addr) (w : World) (ha : w.cell? a = some (.int .i64 n)) :
    Calls Tryd.prog 5 #[.pointer (some a), .pointer (some b)] w fun e w' => e = .panicked [{ v := .iface 22 (.int .i64 n), recovered := false }] ∧ Below w.heap.size w w' := by
  go_enter Tryd.func5, Tryd.ntmps5
  go_wp2_with fail
  refine (must_bad n hn w).mono ?_
  rintro e w' ⟨rfl, rfl⟩
  go_wp2_with fail
  exact ⟨rfl, rfl, Below.refl _ _⟩
theorem two_ok (x : Int) (hx : x = 0 ∨ x = 1) (n place : Int) (a b c d : Addr) (w : World) (ha : w.cell? a = some (.bool true)) (hb : w.cell? b = some (.int .i64 n)) (hc : w.cell? c = some (.int .i64 place)) (hd : w.cell? d = some (.int .i64 x)) (hf : w.frozen? d = false) :
    Calls Tryd.prog 7 #[.pointer (some a), .pointer (some b), .pointer (some c), .pointer (some d)] w fun e w' => e = .returned (.tuple #[]) ∧ Below w.heap.size (sets [(d, .int .i64 (x + 2))] w) w' := by
  rcases hx with rfl | rfl <;> (
    go_enter Tryd.func7, Tryd.ntmps7
    go_wp2_with fail
    refine (check_ok n place w).mono ?_
    rintro e w' ⟨rfl, rfl⟩
    go_wp2_with fail
    first | go_end0 | refine bodyPost_ret (results_none rfl _ _ _) rfl ?_
    exact ⟨rfl, Below.refl _ _⟩)
theorem two_bad (n place : Int) (a b c d : Addr) (w : World) (ha : w.cell? a = some (.bool false)) (hb : w.cell? b = some (.int .i64 n)) (hc : w.cell? c = some (.int .i64 place)) :
    Calls Tryd.prog 7 #[.pointer (some a), .pointer (some b), .pointer (some c), .pointer (some d)] w fun e w' => e = .panicked [{ v := .iface 34 (.pointer (some ⟨w.heap.size, 0, none⟩)), recovered := false }] ∧ Below w.heap.size w w' ∧
      w'.cell? ⟨w.heap.size, 0, none⟩ = some (.int .i64 n) ∧ w'.cell? ⟨w.heap.size, 1, none⟩ = some (.int .i64 place) := by
  go_enter Tryd.func7, Tryd.ntmps7
  go_wp2_with fail
  refine (check_bad n place w).mono ?_
  rintro e w' ⟨rfl, rfl⟩
  go_wp2_with fail
  exact ⟨rfl, rfl, (Below.refl _ w).alloc (Nat.le_refl _) _, by simp [go_sem], by simp [go_sem]⟩
theorem three (w : World) : Calls Tryd.prog 12 #[] w fun e w' => e = .panicked [{ v := .iface 22 (.int .i64 70), recovered := false }] ∧ Below w.heap.size w w' := by
  go_enter Tryd.func12, Tryd.ntmps12
  go_wp2_with fail
  exact ⟨rfl, rfl, Below.refl _ _⟩

theorem eqC (k c p : Int) (w : World) : (binOp .eql 24 (.agg #[.int .i64 k, .string ⟨#[]⟩, .int .i64 c, .int .i64 p]) (.agg #[.int .i64 k, .string ⟨#[]⟩, .int .i64 c, .int .i64 p])).run Tryd.prog w = .ok (.bool true) w := by
  simp [go_sem]

theorem awake_any (w : World) (hg : Handle w) : Calls Tryd.prog 9 #[] w fun e w' => e = .returned (.bool true) ∧ Below w.heap.size w w' := by
  have HG := Lib.hid hg
  clear hg
  have eqC := eqC
  go_enter Tryd.func9, Tryd.ntmps9
  go_wp2_with fail
  refine (run_E 12 #[] _ 70 HG.out ent12 (fun W _ => three W)).mono ?_
  rintro e w' ⟨rfl, b1⟩
  unfold caughtV
  go_wp2_with fail
  go_ret
  exact ⟨rfl, b1.alloc b1.size _⟩

theorem run5_ok (a b : Addr) (w : World) (ha : w.cell? a = some (.int .i64 0)) (hb : w.cell? b = some (.int .i64 0)) (hf : w.frozen? b = false) :
    Calls Tryd.prog 4 #[.func (.func 5) #[] #[.pointer (some a), .pointer (some b)]] w fun e w' => e = .returned (caughtV 0 0 0) ∧ Below w.heap.size (w.setCell b (.int .i64 1)) w' :=
  run_back _ _ w [(b, .int .i64 1)] (by simpa using lt_of_cell hb) ent5 (fun W h => one_ok a b W ((h.cell (lt_of_cell ha)).trans ha) ((h.cell (lt_of_cell hb)).trans hb) ((h.frozen (lt_of_cell hb)).trans hf))
theorem run5_bad (n : Int) (hn : (n != 0) = true) (a b : Addr) (w : World) (hg : Handle w) (ha : w.cell? a = some (.int .i64 n)) :
    Calls Tryd.prog 4 #[.func (.func 5) #[] #[.pointer (some a), .pointer (some b)]] w fun e w' => e = .returned (caughtV 1 n 0) ∧ Below w.heap.size w w' :=
  run_E _ _ w n hg ent5 (fun W h => one_bad n hn a b W ((h.cell (lt_of_cell ha)).trans ha))
theorem run7_ok (x : Int) (hx : x = 0 ∨ x = 1) (n place : Int) (a b c d : Addr) (w : World) (ha : w.cell? a = some (.bool true)) (hb : w.cell? b = some (.int .i64 n)) (hc : w.cell? c = some (.int .i64 place)) (hd : w.cell? d = some (.int .i64 x)) (hf : w.frozen? d = false) :
    Calls Tryd.prog 4 #[.func (.func 7) #[] #[.pointer (some a), .pointer (some b), .pointer (some c), .pointer (some d)]] w fun e w' => e = .returned (caughtV 0 0 0) ∧ Below w.heap.size (w.setCell d (.int .i64 (x + 2))) w' :=
  run_back _ _ w [(d, .int .i64 (x + 2))] (by simpa using lt_of_cell hd) ent7 (fun W h => two_ok x hx n place a b c d W ((h.cell (lt_of_cell ha)).trans ha) ((h.cell (lt_of_cell hb)).trans hb) ((h.cell (lt_of_cell hc)).trans hc) ((h.cell (lt_of_cell hd)).trans hd) ((h.frozen (lt_of_cell hd)).trans hf))
theorem run7_bad (n place : Int) (a b c d : Addr) (w : World) (hg : Handle w) (ha : w.cell? a = some (.bool false)) (hb : w.cell? b = some (.int .i64 n)) (hc : w.cell? c = some (.int .i64 place)) :
    Calls Tryd.prog 4 #[.func (.func 7) #[] #[.pointer (some a), .pointer (some b), .pointer (some c), .pointer (some d)]] w fun e w' => e = .returned (caughtV 2 n place) ∧ Below w.heap.size w w' :=
  run_F _ _ w n place hg ent7 (fun W h => two_bad n place a b c d W ((h.cell (lt_of_cell ha)).trans ha) ((h.cell (lt_of_cell hb)).trans hb) ((h.cell (lt_of_cell hc)).trans hc))
end Go.Proofs.YtahdmdfcakpajaaDoor
