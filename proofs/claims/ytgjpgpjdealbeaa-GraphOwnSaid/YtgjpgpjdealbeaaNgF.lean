/- Graphs: the link of two. -/
import Derived.Test.YtgjpgpjdealbeaaNgE
namespace Go.Proofs.Ytgjpgpjdealbeaa
open Go.RowKit Go.Lib Go.Nq
set_option linter.unusedVariables false
set_option linter.unusedSimpArgs false
set_option maxRecDepth 100000

theorem g_storeL (a : Addr) (n : Nat) (m : Mode) (w : World) : (store a (.float .f64 n) m).run Try.prog w = stored Try.prog w a (.float .f64 n) m := run_store Try.prog w a _ m rfl
theorem gLinkOf_any (a b : Int) (w : World) : Calls Try.prog 79 #[.int .i64 a, .int .i64 b] w fun e w' => e = .returned (.agg #[.int .i64 (min a b), .int .i64 (max a b), .float .f64 0, .bool false]) ∧ Below w.heap.size w w' := by
  have hst := g_storeL
  rcases Int.lt_trichotomy a b with h | rfl | h
  · have h3 : ¬ b < a := by omega
    have h5 : a ≤ b := by omega
    have h6 : ¬ b ≤ a := by omega
    rw [show min a b = a by omega, show max a b = b by omega]
    go_enter Try.func79, Try.ntmps79
    go_wp2_with fail
    refine bodyPost_ret (results_cell Try.results79 _ _ w.heap.size 0 [.int .i64 a, .int .i64 b, .float .f64 0, .bool false] _ rfl (range_box0 w _ _) Try.underlying54 (by rfl) (by kernel_rfl)) rfl ?_
    exact ⟨rfl, gAl _ _⟩
  · have h3 : ¬ a < a := by omega
    rw [show min a a = a by omega, show max a a = a by omega]
    go_enter Try.func79, Try.ntmps79
    go_wp2_with fail
    refine bodyPost_ret (results_cell Try.results79 _ _ w.heap.size 0 [.int .i64 a, .int .i64 a, .float .f64 0, .bool false] _ rfl (range_box0 w _ _) Try.underlying54 (by rfl) (by kernel_rfl)) rfl ?_
    exact ⟨rfl, gAl _ _⟩
  · have h3 : ¬ a < b := by omega
    have h5 : ¬ a ≤ b := by omega
    have h6 : b ≤ a := by omega
    rw [show min a b = b by omega, show max a b = a by omega]
    go_enter Try.func79, Try.ntmps79
    go_wp2_with fail
    refine bodyPost_ret (results_cell Try.results79 _ _ w.heap.size 0 [.int .i64 b, .int .i64 a, .float .f64 0, .bool false] _ rfl (range_box0 w _ _) Try.underlying54 (by rfl) (by kernel_rfl)) rfl ?_
    exact ⟨rfl, gAl _ _⟩
end Go.Proofs.Ytgjpgpjdealbeaa
