/- Bytes in memory that the call owns. -/
import Derived.Test.YtbepipnnhkaemaaDoorWqE
import Derived.WalkKit
import Derived.Below
import Derived.Laws.AppendOwn
import Derived.Laws.AppendOwnNone
import Derived.Laws.OwnMore
import Derived.Laws.IdiomStrings
import Derived.Lib.AppendStr
namespace Go.Wq
open Go.RowKit Go.Lib

/-- Bytes as values. -/
def bcs (l : List UInt8) : List Value := l.map fun c => Value.int .u8 (c.toNat : Int)
theorem bcs_append (a b : List UInt8) : bcs (a ++ b) = bcs a ++ bcs b := List.map_append
theorem bcs_length (l : List UInt8) : (bcs l).length = l.length := List.length_map ..
theorem strCells_bcs (s : ByteArray) : strCells s = bcs s.data.toList := rfl
theorem bcs_one (x : Int) (c : UInt8) (h : x = (c.toNat : Int)) : [Value.int .u8 x] = bcs [c] := by subst h; rfl

/-- Bytes that the call owns, as a text. -/
theorem own_text {P : Program} {w : World} {base e : Nat} {v : Value} {n : Nat} {l : List UInt8} (src dst : TypeId) (hs : P.underlying src = some (.slice e)) (he : P.underlying e = some (.int .u8)) (hd : P.underlying dst = some .string)
    (h : w.ownsRow base e 1 v n (bcs l)) : (convert src dst v).run P w = .ok (.string ⟨l.toArray⟩) w := by
  have hl : l.length = n := by have := h.1; rw [bcs_length] at this; omega
  rcases h.2 with ⟨rfl, hn⟩ | ⟨g, cap, cur, rfl, hg, hh, hc⟩
  · have : l = [] := List.eq_nil_of_length_eq_zero (by omega)
    subst this
    rw [run_convert_bytes_string w src dst e none 0 0 hs he hd]
    rfl
  · subst hl
    refine run_convert_bytes_back w src dst e ⟨g, 0, none⟩ cap l hs he hd ?_
    intro j hj
    have := h.cells (g := g) rfl j (.int .u8 (l[j].toNat : Int)) (by simp [bcs, hj])
    exact this
end Go.Wq
