/- Graphs: slices.Insert at links. -/
import Derived.Test.YtomcnaghdfhkkaaNgI
import Derived.Test.YtomcnaghdfhkkaaOwA
import Derived.Deep.RegionLaw
namespace Go.Proofs.Ytomcnaghdfhkkaa
open Go.RowKit Go.Lib Go.Nq Go.Ow
set_option linter.unusedVariables false
set_option linter.unusedSimpArgs false
set_option maxRecDepth 100000

/-- The cells of one, and of a row. -/
def lkC (n : Lk) : List Value := [.int .i64 n.a, .int .i64 n.b, .float .f64 n.w, .bool n.up]
def lkRow (l : List Lk) : List Value := l.flatMap lkC
theorem lkRow_len (l : List Lk) : (lkRow l).length = l.length * 4 := by
  induction l with
  | nil => rfl
  | cons n r ih => simp only [lkRow, List.flatMap_cons, List.length_append, List.length_cons] at *; rw [ih]; simp [lkC]; omega
theorem lkRow_take : ∀ (l : List Lk) (i : Nat), lkRow (l.take i) = (lkRow l).take (i * 4)
  | [], i => by simp [lkRow]
  | n :: r, 0 => by simp [lkRow]
  | n :: r, i + 1 => by
    have ih := lkRow_take r i
    simp only [lkRow, List.take_succ_cons, List.flatMap_cons] at *
    rw [ih, show (i + 1) * 4 = i * 4 + 4 by omega, List.take_append, show (lkC n).length = 4 by simp [lkC], List.take_of_length_le (l := lkC n) (by simp [lkC]), Nat.add_sub_cancel]
theorem lkRow_drop : ∀ (l : List Lk) (i : Nat), lkRow (l.drop i) = (lkRow l).drop (i * 4)
  | [], i => by simp [lkRow]
  | n :: r, 0 => by simp [lkRow]
  | n :: r, i + 1 => by
    have ih := lkRow_drop r i
    simp only [lkRow, List.drop_succ_cons, List.flatMap_cons] at *
    rw [ih, show (i + 1) * 4 = i * 4 + 4 by omega, List.drop_append, show (lkC n).length = 4 by simp [lkC], List.drop_of_length_le (l := lkC n) (by simp [lkC]), Nat.add_sub_cancel, List.nil_append]
theorem lkRow_put (l : List Lk) (i : Nat) (x : Lk) : lkRow (l.take i ++ x :: l.drop i) = (lkRow l).take (i * 4) ++ lkC x ++ (lkRow l).drop (i * 4) := by
  rw [← lkRow_take, ← lkRow_drop]
  simp [lkRow]
theorem lkC_one (n : Lk) : ∀ v ∈ lkC n, v.oneCell' = true := by
  intro v hv
  simp only [lkC, List.mem_cons, List.not_mem_nil, or_false] at hv
  rcases hv with rfl | rfl | rfl | rfl <;> rfl
theorem lkRow_one (l : List Lk) : ∀ v ∈ lkRow l, v.oneCell' = true := by
  intro v hv
  obtain ⟨n, -, h⟩ := List.mem_flatMap.1 hv
  exact lkC_one n v h
theorem lkInfo : (Try.prog.info? 77).map (fun i => (i.zero, i.size, i.bytes)) = some (some (.agg #[.int .i64 0, .int .i64 0, .float .f64 0, .bool false]), 4, 32) := by kernel_rfl
end Go.Proofs.Ytomcnaghdfhkkaa
