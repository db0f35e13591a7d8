/- The reference's Same. -/
import Derived.Test.YtfnmfmelcghjbaaWrA
import Derived.Test.YtfnmfmelcghjbaaWqAll
import Derived.StillTailTactics
namespace Go.Proofs.Ytfnmfmelcghjbaa
open Go.RowKit Go.Lib Go.Wq
set_option linter.unusedVariables false
set_option linter.unusedSimpArgs false
set_option maxRecDepth 100000

theorem w_storeS (a : Addr) (n : Nat) (m : Mode) (w : World) : (store a (.float .f64 n) m).run Try.prog w = stored Try.prog w a (.float .f64 n) m := run_store Try.prog w a _ m rfl
theorem bne_bool {a b : Bool} (h : a ≠ b) : (a != b) = true := by cases a <;> cases b <;> first | rfl | exact absurd rfl h
theorem bne_i {a b : Int} (h : a ≠ b) : (a != b) = true := by simp [h]
theorem bne_n {a b : Nat} (h : a ≠ b) : (a != b) = true := by simp [h]
theorem bne_c {a b : Nat} (h : a ≠ b) : ((a : Int) != (b : Int)) = true := by simp; omega
theorem beq_c {a b : Nat} (h : a = b) : ((a : Int) != (b : Int)) = false := by subst h; simp
theorem beq_n {a b : Nat} (h : a = b) : (a != b) = false := by subst h; simp
theorem bne_s {s t : ByteArray} (h : (s == t) = false) : (s != t) = true := by simp [bne, h]
theorem beq_s {s t : ByteArray} (h : (s == t) = true) : (s != t) = false := by simp [bne, h]
theorem bne_bytes (s t : ByteArray) (h : s ≠ t) : (s == t) = false := by
  first
  | exact beq_eq_false_iff_ne.2 h
  | (cases s; cases t; rename_i a b; show (a == b) = false; exact beq_eq_false_iff_ne.2 (fun e => h (by rw [e])))
theorem drawn_below {B : Nat} {a w W : World} (h : Below B a w) (hl : Like w W) : Below B a W := h.trans ⟨hl.os, hl.tape, hl.output, by rw [hl.heap]; exact Nat.le_refl _, fun _ _ => by rw [hl.heap]⟩
def SameEnds (fs gs : List Fld) (w : World) (e : Ending) (w' : World) : Prop := (∃ r : Bool, e = .returned (.bool r) ∧ (r = true ↔ fs = gs)) ∧ Below w.heap.size w w'
theorem same_no {fs gs : List Fld} {w w' : World} (h : fs ≠ gs) (hb : Below w.heap.size w w') : SameEnds fs gs w (.returned (.bool false)) w' := ⟨⟨false, rfl, by simp [h]⟩, hb⟩

end Go.Proofs.Ytfnmfmelcghjbaa
