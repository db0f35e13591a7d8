/- Graphs: slices.Insert at routers. Graphs: slices.Insert at links. -/
import Derived.Test.YtjlfpjjfldbknaaGreatNgA
import Derived.Test.YtjlfpjjfldbknaaGreatOwA
import Derived.Deep.RegionLaw
section
namespace Go.Proofs.YtjlfpjjfldbknaaGreat
open Go.RowKit Go.Lib Go.Nq Go.Ow
set_option linter.unusedVariables false
set_option linter.unusedSimpArgs false
set_option maxRecDepth 100000

/-- The cells of one, and of a row. -/
def ndC (n : Nd) : List Value := [.int .i64 n.id, .bool n.up, .bool n.mark]
def ndRow (l : List Nd) : List Value := l.flatMap ndC
theorem ndRow_drop : ∀ (l : List Nd) (i : Nat), ndRow (l.drop i) = (ndRow l).drop (i * 3)
  | [], i => by simp [ndRow]
  | n :: r, 0 => by simp [ndRow]
  | n :: r, i + 1 => by
    have ih := ndRow_drop r i
    simp only [ndRow, List.drop_succ_cons, List.flatMap_cons] at *
    rw [ih, show (i + 1) * 3 = i * 3 + 3 by omega, List.drop_append, show (ndC n).length = 3 by simp [ndC], List.drop_of_length_le (l := ndC n) (by simp [ndC]), Nat.add_sub_cancel, List.nil_append]
theorem ndC_one (n : Nd) : ∀ v ∈ ndC n, v.oneCell' = true := by
  intro v hv
  simp only [ndC, List.mem_cons, List.not_mem_nil, or_false] at hv
  rcases hv with rfl | rfl | rfl <;> rfl
theorem ndInfo : (Tryz.prog.info? 60).map (fun i => (i.zero, i.size, i.bytes)) = some (some (.agg #[.int .i64 0, .bool false, .bool false]), 3, 16) := by kernel_rfl
end Go.Proofs.YtjlfpjjfldbknaaGreat
end

section
namespace Go.Proofs.YtjlfpjjfldbknaaGreat
open Go.RowKit Go.Lib Go.Nq Go.Ow
set_option linter.unusedVariables false
set_option linter.unusedSimpArgs false
set_option maxRecDepth 100000

/-- The cells of one, and of a row. -/
def lkC (n : Lk) : List Value := [.int .i64 n.a, .int .i64 n.b, .float .f64 n.w, .bool n.up]
def lkRow (l : List Lk) : List Value := l.flatMap lkC
theorem lkRow_drop : ∀ (l : List Lk) (i : Nat), lkRow (l.drop i) = (lkRow l).drop (i * 4)
  | [], i => by simp [lkRow]
  | n :: r, 0 => by simp [lkRow]
  | n :: r, i + 1 => by
    have ih := lkRow_drop r i
    simp only [lkRow, List.drop_succ_cons, List.flatMap_cons] at *
    rw [ih, show (i + 1) * 4 = i * 4 + 4 by omega, List.drop_append, show (lkC n).length = 4 by simp [lkC], List.drop_of_length_le (l := lkC n) (by simp [lkC]), Nat.add_sub_cancel, List.nil_append]
theorem lkC_one (n : Lk) : ∀ v ∈ lkC n, v.oneCell' = true := by
  intro v hv
  simp only [lkC, List.mem_cons, List.not_mem_nil, or_false] at hv
  rcases hv with rfl | rfl | rfl | rfl <;> rfl
theorem lkInfo : (Tryz.prog.info? 62).map (fun i => (i.zero, i.size, i.bytes)) = some (some (.agg #[.int .i64 0, .int .i64 0, .float .f64 0, .bool false]), 4, 32) := by kernel_rfl
end Go.Proofs.YtjlfpjjfldbknaaGreat
end
