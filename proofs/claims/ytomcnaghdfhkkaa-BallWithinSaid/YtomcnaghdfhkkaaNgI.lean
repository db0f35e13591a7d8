/- Graphs: slices.Insert at routers. -/
import Derived.Test.YtomcnaghdfhkkaaNgA
import Derived.Test.YtomcnaghdfhkkaaOwA
import Derived.Deep.RegionLaw
namespace Go.Proofs.Ytomcnaghdfhkkaa
open Go.RowKit Go.Lib Go.Nq Go.Ow
set_option linter.unusedVariables false
set_option linter.unusedSimpArgs false
set_option maxRecDepth 100000

/-- The cells of one, and of a row. -/
def ndC (n : Nd) : List Value := [.int .i64 n.id, .bool n.up, .bool n.mark]
def ndRow (l : List Nd) : List Value := l.flatMap ndC
theorem ndRow_len (l : List Nd) : (ndRow l).length = l.length * 3 := by
  induction l with
  | nil => rfl
  | cons n r ih => simp only [ndRow, List.flatMap_cons, List.length_append, List.length_cons] at *; rw [ih]; simp [ndC]; omega
theorem ndRow_take : ∀ (l : List Nd) (i : Nat), ndRow (l.take i) = (ndRow l).take (i * 3)
  | [], i => by simp [ndRow]
  | n :: r, 0 => by simp [ndRow]
  | n :: r, i + 1 => by
    have ih := ndRow_take r i
    simp only [ndRow, List.take_succ_cons, List.flatMap_cons] at *
    rw [ih, show (i + 1) * 3 = i * 3 + 3 by omega, List.take_append, show (ndC n).length = 3 by simp [ndC], List.take_of_length_le (l := ndC n) (by simp [ndC]), Nat.add_sub_cancel]
theorem ndRow_drop : ∀ (l : List Nd) (i : Nat), ndRow (l.drop i) = (ndRow l).drop (i * 3)
  | [], i => by simp [ndRow]
  | n :: r, 0 => by simp [ndRow]
  | n :: r, i + 1 => by
    have ih := ndRow_drop r i
    simp only [ndRow, List.drop_succ_cons, List.flatMap_cons] at *
    rw [ih, show (i + 1) * 3 = i * 3 + 3 by omega, List.drop_append, show (ndC n).length = 3 by simp [ndC], List.drop_of_length_le (l := ndC n) (by simp [ndC]), Nat.add_sub_cancel, List.nil_append]
theorem ndRow_put (l : List Nd) (i : Nat) (x : Nd) : ndRow (l.take i ++ x :: l.drop i) = (ndRow l).take (i * 3) ++ ndC x ++ (ndRow l).drop (i * 3) := by
  rw [← ndRow_take, ← ndRow_drop]
  simp [ndRow]
theorem ndC_one (n : Nd) : ∀ v ∈ ndC n, v.oneCell' = true := by
  intro v hv
  simp only [ndC, List.mem_cons, List.not_mem_nil, or_false] at hv
  rcases hv with rfl | rfl | rfl <;> rfl
theorem ndRow_one (l : List Nd) : ∀ v ∈ ndRow l, v.oneCell' = true := by
  intro v hv
  obtain ⟨n, -, h⟩ := List.mem_flatMap.1 hv
  exact ndC_one n v h
theorem ndInfo : (Try.prog.info? 56).map (fun i => (i.zero, i.size, i.bytes)) = some (some (.agg #[.int .i64 0, .bool false, .bool false]), 3, 16) := by kernel_rfl
end Go.Proofs.Ytomcnaghdfhkkaa
