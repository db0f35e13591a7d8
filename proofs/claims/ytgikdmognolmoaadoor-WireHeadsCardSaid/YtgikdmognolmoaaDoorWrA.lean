/- Package beaconref04's small functions: Varint, add. -/
import Derived.Test.YtgikdmognolmoaaDoorProg
import Derived.WalkKit
import Derived.ProofKit
import Derived.Lib.Hide
import Derived.LoopTactic
import Derived.Outline
import Derived.IntWalk
import Derived.BigQuiet
import Derived.Deep.QuietTactic
import Derived.Laws.Bits64
import Derived.Test.YtgikdmognolmoaaDoorWqAll
namespace Go.Proofs.YtgikdmognolmoaaDoor
open Go.RowKit Go.Lib Go.Wq
set_option linter.unusedVariables false
set_option linter.unusedSimpArgs false

set_option maxRecDepth 100000 in
theorem info8 : ∃ i : TypeInfo, Tryd.prog.info? 5 = some i ∧ i.zero = some (.int .u8 0) ∧ i.size = 1 ∧ i.bytes = 1 := by
  refine ⟨_, rfl, ?_, ?_, ?_⟩ <;> kernel_rfl

/-- What has been put so far: the bytes themselves, or so many that they are too many. -/
def Cap (b x : List UInt8) : Prop := (b = x ∧ x.length ≤ 65536) ∨ (65536 < b.length ∧ b.length ≤ 131073 ∧ 65536 < x.length)

theorem Cap.len {b x : List UInt8} (h : Cap b x) : b.length ≤ 131073 := by rcases h with ⟨rfl, h⟩ | ⟨_, h, _⟩ <;> omega
theorem Cap.keep {b x : List UInt8} (h : Cap b x) (hb : 65536 < b.length) (y : List UInt8) : Cap b (x ++ y) := by
  rcases h with ⟨rfl, h⟩ | ⟨h1, h2, h3⟩
  · omega
  · exact Or.inr ⟨h1, h2, by simp; omega⟩
theorem Cap.more {b x : List UInt8} (h : Cap b x) (hb : b.length ≤ 65536) (y : List UInt8) (hy : y.length ≤ 65536) : Cap (b ++ y) (x ++ y) := by
  rcases h with ⟨rfl, h⟩ | ⟨h1, h2, h3⟩
  · by_cases hl : (b ++ y).length ≤ 65536
    · exact Or.inl ⟨rfl, hl⟩
    · exact Or.inr ⟨by omega, by rw [List.length_append]; omega, by omega⟩
  · omega
theorem Cap.much {b x : List UInt8} (h : Cap b x) (hb : b.length ≤ 65536) (y : List UInt8) (hy : 65536 < y.length) : Cap (b ++ y.take 65537) (x ++ y) := by
  rcases h with ⟨rfl, h⟩ | ⟨h1, h2, h3⟩
  · exact Or.inr ⟨by rw [List.length_append, List.length_take]; omega, by rw [List.length_append, List.length_take]; omega, by rw [List.length_append]; omega⟩
  · omega

/-- How adding ends: with bytes that the call owns. -/
def Added (base : Nat) (x : List UInt8) (v : Value) (w : World) (e : Ending) (w' : World) : Prop :=
  ∃ (v' : Value) (b' : List UInt8), e = .returned v' ∧ w'.ownsRow base 5 1 v' b'.length (bcs b') ∧ Cap b' x ∧ Grew w w' v v'

end Go.Proofs.YtgikdmognolmoaaDoor
