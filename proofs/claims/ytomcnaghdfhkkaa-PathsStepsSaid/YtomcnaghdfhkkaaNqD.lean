/- Graphs, plainly: Play. -/
import Derived.Test.YtomcnaghdfhkkaaNqC
namespace Go.Nq
open Go.Fq Go.Iq
set_option linter.unusedVariables false
set_option linter.unusedSimpArgs false

def gr0 : Gr := ⟨[], []⟩
theorem check_gr0 : checkG gr0 = 0 := by decide
/-- What Play tells. -/
def playA (l : List Ch) : Gr × Nat × Int := if 65536 < l.length then (gr0, 0, 2) else playG gr0 0 l
theorem playA_many {l : List Ch} (h : 65536 < l.length) : playA l = (gr0, 0, 2) := by unfold playA; rw [if_pos h]
theorem playA_few {l : List Ch} (h : ¬ 65536 < l.length) : playA l = playG gr0 0 l := by unfold playA; rw [if_neg h]
theorem play_end {l : List Ch} {k : Nat} (hk : l.length ≤ k) (g : Gr) : playG g k (l.drop k) = (g, 0, 0) := by rw [List.drop_of_length_le hk]; unfold playG; rfl
theorem play_stop {l : List Ch} {k : Nat} (hk : k < l.length) (g : Gr) (h : changeE g l[k] ≠ 0) : playG g k (l.drop k) = (g, k, changeE g l[k]) := by
  rw [List.drop_eq_getElem_cons hk]; unfold playG; rw [if_pos h]
theorem play_go {l : List Ch} {k : Nat} (hk : k < l.length) (g : Gr) (h : changeE g l[k] = 0) : playG g k (l.drop k) = playG (changeG g l[k]) (k + 1) (l.drop (k + 1)) := by
  rw [List.drop_eq_getElem_cons hk]; conv => lhs; unfold playG
  rw [if_neg (by simpa using h)]
theorem playA_keeps (l : List Ch) : checkG (playA l).1 = 0 := by
  unfold playA; split
  · exact check_gr0
  · exact play_keeps l gr0 0 check_gr0
end Go.Nq
