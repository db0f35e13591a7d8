/- Rows that a call owns: a copy of a row. Graphs: slices.Clone at routers and at links. Graphs: Apply. Graphs: Neighbours. -/
import Derived.Test.YtjlfpjjfldbknaaGreatOwA
import Derived.Test.YtjlfpjjfldbknaaGreatNgY
import Derived.Test.YtjlfpjjfldbknaaGreatNhB
import Derived.Test.YtjlfpjjfldbknaaGreatNqG
section
section
namespace Go.Ow
open Go.RowKit Go.Lib
set_option linter.unusedVariables false
set_option linter.unusedSimpArgs false

end Go.Ow
end

section
namespace Go.Proofs.YtjlfpjjfldbknaaGreat
open Go.RowKit Go.Lib Go.Fq Go.Iq Go.Nq Go.Ow
set_option linter.unusedVariables false
set_option linter.unusedSimpArgs false
set_option maxRecDepth 100000

end Go.Proofs.YtjlfpjjfldbknaaGreat
end
end

section
namespace Go.Proofs.YtjlfpjjfldbknaaGreat
open Go.RowKit Go.Lib Go.Fq Go.Iq Go.Nq Go.Ow
set_option linter.unusedVariables false
set_option linter.unusedSimpArgs false
set_option maxRecDepth 100000

/-- A block of a graph's struct is filled with rows of the call's own. -/
theorem GrAt.make {V : World} {base bg : Nat} {x y vn vl : Value} {G : Gr} (hb : base ≤ bg) (hg : V.heap[bg]? = some (.cells #[x, y] 25 (0, 0))) (hv : GrV V base vn vl G) :
    GrAt ((V.setCell ⟨bg, 0, none⟩ vn).setCell ⟨bg, 1, none⟩ vl) base bg vn vl G := by
  have hq1 := heap_setCell_same V bg 0 _ _ vn hg
  have hq2 := heap_setCell_same _ bg 1 _ _ vl hq1
  have h2 := (hv.set (u := vn) (o := 0) hg).set (u := vl) (o := 1) hq1
  exact ⟨hb, by simpa using hq2, h2.nodes, h2.links, h2.wts⟩
end Go.Proofs.YtjlfpjjfldbknaaGreat
end

section
namespace Go.Proofs.YtjlfpjjfldbknaaGreat
open Go.RowKit Go.Lib Go.Fq Go.Iq Go.Nq Go.Ow
set_option linter.unusedVariables false
set_option linter.unusedSimpArgs false
set_option maxRecDepth 100000

/-- What Neighbours tells: a row of the call's own, and a number. -/
def NbEnds (w : World) (L : List Lk) (n : Int) (e : Ending) (w' : World) : Prop := ∃ v, e = .returned (.tuple #[v, .int .i64 n]) ∧ Own w' w.heap.size 62 4 v L.length (lkRow L) ∧ (∀ y ∈ L, y.w < 2 ^ 64) ∧ Below w.heap.size w w'
theorem own_nil (w : World) (b : Nat) (T : TypeId) (k : Nat) : Own w b T k (.slice none 0 0) 0 [] := Or.inl ⟨rfl, rfl, none, rfl⟩
end Go.Proofs.YtjlfpjjfldbknaaGreat
end
