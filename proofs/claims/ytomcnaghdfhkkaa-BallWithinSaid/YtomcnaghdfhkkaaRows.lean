/-
  No cell of these rows narrows 'for every input' (looked for: loops, veiled, ifaces, maps, wideKeys, modest, calm, conditions, laid).
  DERIVED. THE GIVEN ROWS OF THIS SEAT. 4 by the template 'for every input the law returns true; each argument reads behind the call as it read before'; 0 by the template 'total and deterministic' (their statements: YtomcnaghdfhkkaaTotals.lean).
  GIVEN WITH THE SEED: the statements are not yours to turn. If you find one false, say at which input.
  Laid BY PROGRAM, IN A SANDBOX (cutbox-rows.mjs): the forced cells as the released guide's own fill.sh prints them over the translation bdbf3c1fff1f6003… (all of the seat's roots in one cut). By AI agents, Wed Nov 11 2026. No macro, syntax, notation, axiom, sorry.
-/
import Derived.Test.YtomcnaghdfhkkaaChecked
import GoSem.Claim
import GoSem.ClaimJoined
import GoSem.ClaimMapViews
import Derived.JoinedTies
import Derived.KernelRfl
namespace Go.Proofs.Ytomcnaghdfhkkaa
/- THE CELL 'sum', in the pinned program and in every row, IS THE sha256 OF THE DUMP (.gsa) THAT YtomcnaghdfhkkaaProg.lean LOADS. Nothing in Lean hashes anything: it is a label: what it is worth is what the hold of that sum in a sandbox is worth. -/
noncomputable def Try.pinned : Pinned := { name := "ytomcnaghdfhkkaa", sum := "bdbf3c1fff1f6003e7fab75637532a9c791213eda1630caf2dfd2f07c939e798", checked := Try.checked }
namespace Rows
def none {H : Type} : Left H := { results := [], args := [] }

/-- 'beaconlaw08.PathsComponents': WHATEVER THE INPUT: true; the input reads as it did. -/
def pathsComponentsSpec : ChangeSpec := { name := "pathsComponents", fn := fun _ => fun
  | [d1, d2] => { results := [.lit (.bool true)], args := [d1, d2] }
  | _ => none }
def pathsComponentsRow : OpenClaim := { program := "ytomcnaghdfhkkaa", sum := "bdbf3c1fff1f6003e7fab75637532a9c791213eda1630caf2dfd2f07c939e798", func := "beacon/beaconlaw08.PathsComponents", spec := "pathsComponents", inPlace := ["math.Float64bits", "math.Float64frombits", "math.archTrunc"], unfollowed := true, recurses := true, apart := false }
def PathsComponentsSaid : Prop := pathsComponentsRow.holds Try.pinned (OpenSpec.ofChange pathsComponentsSpec)

/-- ITS FALSE NEIGHBOUR: 'it returns false'. Refute it at one input. -/
def pathsComponentsWrong : ChangeSpec := { name := "pathsComponents", fn := fun _ => fun
  | [d1, d2] => { results := [.lit (.bool false)], args := [d1, d2] }
  | _ => none }
def PathsComponentsWrongFalsely : Prop := pathsComponentsRow.holds Try.pinned (OpenSpec.ofChange pathsComponentsWrong)

/-- 'beaconlaw08.PathsSteps': WHATEVER THE INPUT: true; the input reads as it did. -/
def pathsStepsSpec : ChangeSpec := { name := "pathsSteps", fn := fun _ => fun
  | [d1, d2, d3] => { results := [.lit (.bool true)], args := [d1, d2, d3] }
  | _ => none }
def pathsStepsRow : OpenClaim := { program := "ytomcnaghdfhkkaa", sum := "bdbf3c1fff1f6003e7fab75637532a9c791213eda1630caf2dfd2f07c939e798", func := "beacon/beaconlaw08.PathsSteps", spec := "pathsSteps", inPlace := ["math.Float64bits", "math.Float64frombits", "math.archTrunc"], unfollowed := true, recurses := true, apart := false }
def PathsStepsSaid : Prop := pathsStepsRow.holds Try.pinned (OpenSpec.ofChange pathsStepsSpec)

/-- ITS FALSE NEIGHBOUR: 'it returns false'. Refute it at one input. -/
def pathsStepsWrong : ChangeSpec := { name := "pathsSteps", fn := fun _ => fun
  | [d1, d2, d3] => { results := [.lit (.bool false)], args := [d1, d2, d3] }
  | _ => none }
def PathsStepsWrongFalsely : Prop := pathsStepsRow.holds Try.pinned (OpenSpec.ofChange pathsStepsWrong)

/-- 'beaconlaw09.BallHomes': WHATEVER THE INPUT: true; the input reads as it did. -/
def ballHomesSpec : ChangeSpec := { name := "ballHomes", fn := fun _ => fun
  | [d1, d2] => { results := [.lit (.bool true)], args := [d1, d2] }
  | _ => none }
def ballHomesRow : OpenClaim := { program := "ytomcnaghdfhkkaa", sum := "bdbf3c1fff1f6003e7fab75637532a9c791213eda1630caf2dfd2f07c939e798", func := "beacon/beaconlaw09.BallHomes", spec := "ballHomes", inPlace := ["math.Float64bits", "math.Float64frombits", "math.archTrunc"], unfollowed := true, recurses := true, apart := false }
def BallHomesSaid : Prop := ballHomesRow.holds Try.pinned (OpenSpec.ofChange ballHomesSpec)

/-- ITS FALSE NEIGHBOUR: 'it returns false'. Refute it at one input. -/
def ballHomesWrong : ChangeSpec := { name := "ballHomes", fn := fun _ => fun
  | [d1, d2] => { results := [.lit (.bool false)], args := [d1, d2] }
  | _ => none }
def BallHomesWrongFalsely : Prop := ballHomesRow.holds Try.pinned (OpenSpec.ofChange ballHomesWrong)

/-- 'beaconlaw09.BallWithin': WHATEVER THE INPUT: true; the input reads as it did. -/
def ballWithinSpec : ChangeSpec := { name := "ballWithin", fn := fun _ => fun
  | [d1, d2, d3] => { results := [.lit (.bool true)], args := [d1, d2, d3] }
  | _ => none }
def ballWithinRow : OpenClaim := { program := "ytomcnaghdfhkkaa", sum := "bdbf3c1fff1f6003e7fab75637532a9c791213eda1630caf2dfd2f07c939e798", func := "beacon/beaconlaw09.BallWithin", spec := "ballWithin", inPlace := ["math.Float64bits", "math.Float64frombits", "math.archTrunc"], unfollowed := true, recurses := true, apart := false }
def BallWithinSaid : Prop := ballWithinRow.holds Try.pinned (OpenSpec.ofChange ballWithinSpec)

/-- ITS FALSE NEIGHBOUR: 'it returns false'. Refute it at one input. -/
def ballWithinWrong : ChangeSpec := { name := "ballWithin", fn := fun _ => fun
  | [d1, d2, d3] => { results := [.lit (.bool false)], args := [d1, d2, d3] }
  | _ => none }
def BallWithinWrongFalsely : Prop := ballWithinRow.holds Try.pinned (OpenSpec.ofChange ballWithinWrong)

/- THE SECOND FORM. 'bulk': how many values and letters a reading holds, each counted each time it is reached (what is shared counts as often as it is met; a slice's spare places count too). A statement '..UptoSaid' is the law's where the arguments, and the package variables that the reading takes, are together of bulk at most 1048576: NARROWER than '..Said'. Prove '..Said' where nothing that the law and all that it calls make is longer than what came in: it says more and counts as full. Else prove '..UptoSaid'. A law counts once. -/
mutual
def uptoBulk {H : Type} : DataW H → Nat
  | .lit (.string bytes) => bytes.length + 1
  | .lit _ => 1
  | .nil => 1
  | .ptr d => uptoBulk d + 1
  | .slice elems spare => uptoBulkAll elems + uptoBulkAll spare + 1
  | .agg parts => uptoBulkAll parts + 1
  | .iface _ d => uptoBulk d + 1
  | .map entries => uptoBulkEntries entries + 1
  | .held _ => 1
def uptoBulkAll {H : Type} : List (DataW H) → Nat
  | [] => 0
  | d :: r => uptoBulk d + uptoBulkAll r
def uptoBulkEntries {H : Type} : List (Lit × DataW H) → Nat
  | [] => 0
  | x :: r => uptoBulkEntry x + uptoBulkEntries r
def uptoBulkEntry {H : Type} : Lit × DataW H → Nat
  | (.string bytes, d) => bytes.length + uptoBulk d + 1
  | (_, d) => uptoBulk d + 1
 end
def uptoSmall : (H : Type) → List (DataW H) → Bool := fun _ ds => decide (uptoBulkAll ds ≤ 1048576)
def OpenSpec.upto (s : _root_.Go.ChangeSpec) : _root_.Go.OpenSpec := { _root_.Go.OpenSpec.ofChange s with cond := some uptoSmall }

/-- 'beaconlaw08.PathsComponents', WHERE WHAT IT READS IS OF BULK AT MOST 1048576: true; the input reads as it did. -/
def pathsComponentsUptoRow : OpenClaim := { program := "ytomcnaghdfhkkaa", sum := "bdbf3c1fff1f6003e7fab75637532a9c791213eda1630caf2dfd2f07c939e798", func := "beacon/beaconlaw08.PathsComponents", spec := "pathsComponents", inPlace := ["math.Float64bits", "math.Float64frombits", "math.archTrunc"], unfollowed := true, recurses := true, apart := false, narrowed := true }
def PathsComponentsUptoSaid : Prop := pathsComponentsUptoRow.holds Try.pinned (OpenSpec.upto pathsComponentsSpec)

/-- 'beaconlaw08.PathsSteps', WHERE WHAT IT READS IS OF BULK AT MOST 1048576: true; the input reads as it did. -/
def pathsStepsUptoRow : OpenClaim := { program := "ytomcnaghdfhkkaa", sum := "bdbf3c1fff1f6003e7fab75637532a9c791213eda1630caf2dfd2f07c939e798", func := "beacon/beaconlaw08.PathsSteps", spec := "pathsSteps", inPlace := ["math.Float64bits", "math.Float64frombits", "math.archTrunc"], unfollowed := true, recurses := true, apart := false, narrowed := true }
def PathsStepsUptoSaid : Prop := pathsStepsUptoRow.holds Try.pinned (OpenSpec.upto pathsStepsSpec)

/-- 'beaconlaw09.BallHomes', WHERE WHAT IT READS IS OF BULK AT MOST 1048576: true; the input reads as it did. -/
def ballHomesUptoRow : OpenClaim := { program := "ytomcnaghdfhkkaa", sum := "bdbf3c1fff1f6003e7fab75637532a9c791213eda1630caf2dfd2f07c939e798", func := "beacon/beaconlaw09.BallHomes", spec := "ballHomes", inPlace := ["math.Float64bits", "math.Float64frombits", "math.archTrunc"], unfollowed := true, recurses := true, apart := false, narrowed := true }
def BallHomesUptoSaid : Prop := ballHomesUptoRow.holds Try.pinned (OpenSpec.upto ballHomesSpec)

/-- 'beaconlaw09.BallWithin', WHERE WHAT IT READS IS OF BULK AT MOST 1048576: true; the input reads as it did. -/
def ballWithinUptoRow : OpenClaim := { program := "ytomcnaghdfhkkaa", sum := "bdbf3c1fff1f6003e7fab75637532a9c791213eda1630caf2dfd2f07c939e798", func := "beacon/beaconlaw09.BallWithin", spec := "ballWithin", inPlace := ["math.Float64bits", "math.Float64frombits", "math.archTrunc"], unfollowed := true, recurses := true, apart := false, narrowed := true }
def BallWithinUptoSaid : Prop := ballWithinUptoRow.holds Try.pinned (OpenSpec.upto ballWithinSpec)

end Rows
end Go.Proofs.Ytomcnaghdfhkkaa
