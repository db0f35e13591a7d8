/-
  No cell of these rows narrows 'for every input' (looked for: loops, veiled, ifaces, maps, wideKeys, modest, calm, conditions, laid).
  DERIVED. THE GIVEN ROWS OF THIS SEAT. 4 by the template 'for every input the law returns true; each argument reads behind the call as it read before'; 0 by the template 'total and deterministic' (their statements: YtjlfpjjfldbknaaGreatTotals.lean).
  GIVEN WITH THE SEED: the statements are not yours to turn. If you find one false, say at which input.
  Laid BY PROGRAM, IN A SANDBOX (cutbox-rows.mjs): the forced cells as the released guide's own fill.sh prints them over the translation 4c5e16ed38d6e5ed… (all of the seat's roots in one cut). By AI agents, Wed Nov 11 2026. No macro, syntax, notation, axiom, sorry.
-/
import Derived.Test.YtjlfpjjfldbknaaGreatChecked
import GoSem.Claim
import GoSem.ClaimJoined
import GoSem.ClaimMapViews
import Derived.JoinedTies
import Derived.KernelRfl
namespace Go.Proofs.YtjlfpjjfldbknaaGreat
/- THE CELL 'sum', in the pinned program and in every row, IS THE sha256 OF THE DUMP (.gsa) THAT YtjlfpjjfldbknaaGreatProg.lean LOADS. Nothing in Lean hashes anything: it is a label: what it is worth is what the hold of that sum in a sandbox is worth. -/
noncomputable def Tryz.pinned : Pinned := { name := "ytjlfpjjfldbknaagreat", sum := "4c5e16ed38d6e5ede01459c71b7f165012fcc6e2ae4f266285128530ac793dbf", checked := Tryz.checked }
namespace Rows
def none {H : Type} : Left H := { results := [], args := [] }

/-- 'beaconlaw09.BallTables': WHATEVER THE INPUT: true; the input reads as it did. -/
def ballTablesSpec : ChangeSpec := { name := "ballTables", fn := fun _ => fun
  | [d1, d2, d3] => { results := [.lit (.bool true)], args := [d1, d2, d3] }
  | _ => none }
def ballTablesRow : OpenClaim := { program := "ytjlfpjjfldbknaagreat", sum := "4c5e16ed38d6e5ede01459c71b7f165012fcc6e2ae4f266285128530ac793dbf", func := "beacon/beaconlaw09.BallTables", spec := "ballTables", inPlace := ["math.Float64bits", "math.Float64frombits", "math.archTrunc"], unfollowed := true, recurses := true, apart := false }
def BallTablesSaid : Prop := ballTablesRow.holds Tryz.pinned (OpenSpec.ofChange ballTablesSpec)

/-- ITS FALSE NEIGHBOUR: 'it returns false'. Refute it at one input. -/
def ballTablesWrong : ChangeSpec := { name := "ballTables", fn := fun _ => fun
  | [d1, d2, d3] => { results := [.lit (.bool false)], args := [d1, d2, d3] }
  | _ => none }
def BallTablesWrongFalsely : Prop := ballTablesRow.holds Tryz.pinned (OpenSpec.ofChange ballTablesWrong)

/-- 'beaconlaw09.BallSizes': WHATEVER THE INPUT: true; the input reads as it did. -/
def ballSizesSpec : ChangeSpec := { name := "ballSizes", fn := fun _ => fun
  | [d1, d2] => { results := [.lit (.bool true)], args := [d1, d2] }
  | _ => none }
def ballSizesRow : OpenClaim := { program := "ytjlfpjjfldbknaagreat", sum := "4c5e16ed38d6e5ede01459c71b7f165012fcc6e2ae4f266285128530ac793dbf", func := "beacon/beaconlaw09.BallSizes", spec := "ballSizes", inPlace := ["math.Float64bits", "math.Float64frombits", "math.archTrunc"], unfollowed := true, recurses := true, apart := false }
def BallSizesSaid : Prop := ballSizesRow.holds Tryz.pinned (OpenSpec.ofChange ballSizesSpec)

/-- ITS FALSE NEIGHBOUR: 'it returns false'. Refute it at one input. -/
def ballSizesWrong : ChangeSpec := { name := "ballSizes", fn := fun _ => fun
  | [d1, d2] => { results := [.lit (.bool false)], args := [d1, d2] }
  | _ => none }
def BallSizesWrongFalsely : Prop := ballSizesRow.holds Tryz.pinned (OpenSpec.ofChange ballSizesWrong)

/-- 'beaconlaw09.BallOn': WHATEVER THE INPUT: true; the input reads as it did. -/
def ballOnSpec : ChangeSpec := { name := "ballOn", fn := fun _ => fun
  | [d1, d2, d3] => { results := [.lit (.bool true)], args := [d1, d2, d3] }
  | _ => none }
def ballOnRow : OpenClaim := { program := "ytjlfpjjfldbknaagreat", sum := "4c5e16ed38d6e5ede01459c71b7f165012fcc6e2ae4f266285128530ac793dbf", func := "beacon/beaconlaw09.BallOn", spec := "ballOn", inPlace := ["math.Float64bits", "math.Float64frombits", "math.archTrunc"], unfollowed := true, recurses := true, apart := false }
def BallOnSaid : Prop := ballOnRow.holds Tryz.pinned (OpenSpec.ofChange ballOnSpec)

/-- ITS FALSE NEIGHBOUR: 'it returns false'. Refute it at one input. -/
def ballOnWrong : ChangeSpec := { name := "ballOn", fn := fun _ => fun
  | [d1, d2, d3] => { results := [.lit (.bool false)], args := [d1, d2, d3] }
  | _ => none }
def BallOnWrongFalsely : Prop := ballOnRow.holds Tryz.pinned (OpenSpec.ofChange ballOnWrong)

/-- 'beaconlaw09.BallOwn': WHATEVER THE INPUT: true; the input reads as it did. -/
def ballOwnSpec : ChangeSpec := { name := "ballOwn", fn := fun _ => fun
  | [d1, d2, d3] => { results := [.lit (.bool true)], args := [d1, d2, d3] }
  | _ => none }
def ballOwnRow : OpenClaim := { program := "ytjlfpjjfldbknaagreat", sum := "4c5e16ed38d6e5ede01459c71b7f165012fcc6e2ae4f266285128530ac793dbf", func := "beacon/beaconlaw09.BallOwn", spec := "ballOwn", inPlace := ["math.Float64bits", "math.Float64frombits", "math.archTrunc"], unfollowed := true, recurses := true, apart := false }
def BallOwnSaid : Prop := ballOwnRow.holds Tryz.pinned (OpenSpec.ofChange ballOwnSpec)

/-- ITS FALSE NEIGHBOUR: 'it returns false'. Refute it at one input. -/
def ballOwnWrong : ChangeSpec := { name := "ballOwn", fn := fun _ => fun
  | [d1, d2, d3] => { results := [.lit (.bool false)], args := [d1, d2, d3] }
  | _ => none }
def BallOwnWrongFalsely : Prop := ballOwnRow.holds Tryz.pinned (OpenSpec.ofChange ballOwnWrong)

/- THE SECOND FORM. 'bulk': how many values and letters a reading holds, each counted each time it is reached (what is shared counts as often as it is met; a slice's spare places count too). A statement '..UptoSaid' is the law's where the arguments, and the package variables that the reading takes, are together of bulk at most 1048576: NARROWER than '..Said'. Prove '..Said' where nothing that the law and all that it calls make is longer than what came in: it says more and counts as full. Else prove '..UptoSaid'. A law counts once. -/
mutual
def uptoBulk {H : Type} : DataW H → Nat
  | .lit (.string bytes) => bytes.length + 1
  | .lit _ => 1
  | .nil => 1
  | .ptr d => uptoBulk d + 1
  | .slice elems spare => uptoBulkAll elems + uptoBulkAll spare + 1
  | .agg parts => uptoBulkAll parts + 1
  | .iface _ d => uptoBulk d + 1
  | .map entries => uptoBulkEntries entries + 1
  | .held _ => 1
def uptoBulkAll {H : Type} : List (DataW H) → Nat
  | [] => 0
  | d :: r => uptoBulk d + uptoBulkAll r
def uptoBulkEntries {H : Type} : List (Lit × DataW H) → Nat
  | [] => 0
  | x :: r => uptoBulkEntry x + uptoBulkEntries r
def uptoBulkEntry {H : Type} : Lit × DataW H → Nat
  | (.string bytes, d) => bytes.length + uptoBulk d + 1
  | (_, d) => uptoBulk d + 1
 end
def uptoSmall : (H : Type) → List (DataW H) → Bool := fun _ ds => decide (uptoBulkAll ds ≤ 1048576)
def OpenSpec.upto (s : _root_.Go.ChangeSpec) : _root_.Go.OpenSpec := { _root_.Go.OpenSpec.ofChange s with cond := some uptoSmall }

/-- 'beaconlaw09.BallTables', WHERE WHAT IT READS IS OF BULK AT MOST 1048576: true; the input reads as it did. -/
def ballTablesUptoRow : OpenClaim := { program := "ytjlfpjjfldbknaagreat", sum := "4c5e16ed38d6e5ede01459c71b7f165012fcc6e2ae4f266285128530ac793dbf", func := "beacon/beaconlaw09.BallTables", spec := "ballTables", inPlace := ["math.Float64bits", "math.Float64frombits", "math.archTrunc"], unfollowed := true, recurses := true, apart := false, narrowed := true }
def BallTablesUptoSaid : Prop := ballTablesUptoRow.holds Tryz.pinned (OpenSpec.upto ballTablesSpec)

/-- 'beaconlaw09.BallSizes', WHERE WHAT IT READS IS OF BULK AT MOST 1048576: true; the input reads as it did. -/
def ballSizesUptoRow : OpenClaim := { program := "ytjlfpjjfldbknaagreat", sum := "4c5e16ed38d6e5ede01459c71b7f165012fcc6e2ae4f266285128530ac793dbf", func := "beacon/beaconlaw09.BallSizes", spec := "ballSizes", inPlace := ["math.Float64bits", "math.Float64frombits", "math.archTrunc"], unfollowed := true, recurses := true, apart := false, narrowed := true }
def BallSizesUptoSaid : Prop := ballSizesUptoRow.holds Tryz.pinned (OpenSpec.upto ballSizesSpec)

/-- 'beaconlaw09.BallOn', WHERE WHAT IT READS IS OF BULK AT MOST 1048576: true; the input reads as it did. -/
def ballOnUptoRow : OpenClaim := { program := "ytjlfpjjfldbknaagreat", sum := "4c5e16ed38d6e5ede01459c71b7f165012fcc6e2ae4f266285128530ac793dbf", func := "beacon/beaconlaw09.BallOn", spec := "ballOn", inPlace := ["math.Float64bits", "math.Float64frombits", "math.archTrunc"], unfollowed := true, recurses := true, apart := false, narrowed := true }
def BallOnUptoSaid : Prop := ballOnUptoRow.holds Tryz.pinned (OpenSpec.upto ballOnSpec)

/-- 'beaconlaw09.BallOwn', WHERE WHAT IT READS IS OF BULK AT MOST 1048576: true; the input reads as it did. -/
def ballOwnUptoRow : OpenClaim := { program := "ytjlfpjjfldbknaagreat", sum := "4c5e16ed38d6e5ede01459c71b7f165012fcc6e2ae4f266285128530ac793dbf", func := "beacon/beaconlaw09.BallOwn", spec := "ballOwn", inPlace := ["math.Float64bits", "math.Float64frombits", "math.archTrunc"], unfollowed := true, recurses := true, apart := false, narrowed := true }
def BallOwnUptoSaid : Prop := ballOwnUptoRow.holds Tryz.pinned (OpenSpec.upto ballOwnSpec)

end Rows
end Go.Proofs.YtjlfpjjfldbknaaGreat
