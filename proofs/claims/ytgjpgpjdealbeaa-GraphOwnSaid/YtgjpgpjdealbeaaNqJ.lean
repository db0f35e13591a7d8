/- Graphs, plainly: what Neighbours tells. -/
import Derived.Test.YtgjpgpjdealbeaaNqG
namespace Go.Nq
open Go.Fq Go.Iq
set_option linter.unusedVariables false
set_option linter.unusedSimpArgs false

def nbE (g : Gr) (x : Int) : Int := if checkG g = 0 then (if has g.nodes x then 0 else 4) else checkG g
def nbL (g : Gr) (x : Int) : List Lk := if nbE g x = 0 then neighL g x else []
theorem nbE_no {g : Gr} (h : checkG g ≠ 0) (x : Int) : nbE g x = checkG g := by unfold nbE; rw [if_neg h]
theorem nbE_miss {g : Gr} (h : checkG g = 0) {x : Int} (hx : has g.nodes x = false) : nbE g x = 4 := by unfold nbE; rw [if_pos h, hx]; rfl
theorem nbE_ok {g : Gr} (h : checkG g = 0) {x : Int} (hx : has g.nodes x = true) : nbE g x = 0 := by unfold nbE; rw [if_pos h, hx]; rfl
theorem nbL_no {g : Gr} {x : Int} (h : nbE g x ≠ 0) : nbL g x = [] := by unfold nbL; rw [if_neg h]
theorem nbL_ok {g : Gr} {x : Int} (h : nbE g x = 0) : nbL g x = neighL g x := by unfold nbL; rw [if_pos h]
theorem nbL_len (g : Gr) (x : Int) : (nbL g x).length ≤ g.links.length := by
  unfold nbL
  split
  · exact List.length_filter_le _ _
  · exact Nat.zero_le _
theorem nbL_mem (g : Gr) (x : Int) : ∀ y ∈ nbL g x, y ∈ g.links := by
  intro y hy
  unfold nbL at hy
  split at hy
  · exact (List.mem_filter.1 hy).1
  · cases hy
def nbP (g : Gr) (x : Int) (y : Lk) : Bool := (y.a == x || y.b == x) && liveL g.nodes y
theorem neighL_is (g : Gr) (x : Int) : neighL g x = g.links.filter (nbP g x) := rfl
end Go.Nq
