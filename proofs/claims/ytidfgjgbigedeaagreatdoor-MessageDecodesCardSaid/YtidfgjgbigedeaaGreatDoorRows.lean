/-
  NARROWER THAN 'FOR EVERY INPUT', by the rows' own cells (each row's printed sentence says how): MessageEncodes: laid · MessageDecodes: laid · MessageBack: laid · MessageUnlike: laid · MessageOwn: laid.
  DERIVED. THE GIVEN ROWS OF THIS SEAT. 5 by the template 'for every input the law returns true; each argument reads behind the call as it read before'; 0 by the template 'total and deterministic' (their statements: YtidfgjgbigedeaaGreatDoorTotals.lean).
  GIVEN WITH THE SEED: the statements are not yours to turn. If you find one false, say at which input.
  Laid BY PROGRAM, IN A SANDBOX (cutbox-rows.mjs): the forced cells as the released guide's own fill.sh prints them over the translation d98dd3f8e1dec8cd… (all of the seat's roots in one cut). By AI agents, Wed Nov 11 2026. No macro, syntax, notation, axiom, sorry.
-/
import Derived.Test.YtidfgjgbigedeaaGreatDoorChecked
import GoSem.Claim
import GoSem.ClaimJoined
import GoSem.ClaimMapViews
import Derived.JoinedTies
import Derived.KernelRfl
namespace Go.Proofs.YtidfgjgbigedeaaGreatDoor
/- THE CELL 'sum', in the pinned program and in every row, IS THE sha256 OF THE DUMP (.gsa) THAT YtidfgjgbigedeaaGreatDoorProg.lean LOADS. Nothing in Lean hashes anything: it is a label: what it is worth is what the hold of that sum in a sandbox is worth. -/
noncomputable def Tryz.pinned : Pinned := { name := "ytidfgjgbigedeaagreatdoor", sum := "d98dd3f8e1dec8cd1e3c43f4e6c708160fa14f70a5021b110964da480f9da1d7", checked := Tryz.checked }
namespace Rows
def none {H : Type} : Left H := { results := [], args := [] }

/- WHAT THE LISTED PACKAGE-LEVEL VARIABLES READ AS WHEN THE CALL BEGINS. Each datum BY PROGRAM (the guide's laid-datum.mjs) off the statement by which the dump's own 'gosem.cut.vars' lays the variable. In a bare row this is a premise. The card (YtidfgjgbigedeaaGreatDoorCards.lean) ties it to the program's text. -/
def laid_errors_errorType {H : Type} : DataW H := .iface "internal/reflectlite.rtype" (.agg [.ptr (.lit (.string [101, 114, 114, 111, 114]))])
def laid_beacon_message_shapes {H : Type} : DataW H := .agg [.lit (.string []), .lit (.string [117, 117, 117]), .lit (.string [117, 117, 117, 117, 40, 117, 117, 102, 102, 117, 41]), .lit (.string [117, 117, 117, 117]), .lit (.string [117, 117, 117, 117, 117, 117, 117, 117, 117, 117, 117, 116, 116])]

/-- 'beaconlaw06.MessageEncodes': WHATEVER THE INPUT: true; the input reads as it did. -/
def messageEncodesSpec : ChangeSpec := { name := "messageEncodes", fn := fun _ => fun
  | [d] => { results := [.lit (.bool true)], args := [d] }
  | _ => none }
def messageEncodesRow : OpenClaim := { program := "ytidfgjgbigedeaagreatdoor", sum := "d98dd3f8e1dec8cd1e3c43f4e6c708160fa14f70a5021b110964da480f9da1d7", func := "beacon/beaconlaw06.MessageEncodes", spec := "messageEncodes", inPlace := ["math.Float64bits", "math.Float64frombits", "math.archTrunc", "internal/bytealg.IndexByteString", "internal/reflectlite.ValueOf", "(internal/reflectlite.Value).Type", "(internal/reflectlite.Value).IsNil", "internal/reflectlite.TypeOf", "(internal/reflectlite.Value).Elem", "(internal/reflectlite.Value).Set"], unfollowed := true, recurses := true, named := ["beacon/message.shapes", "errors.errorType"], apart := false, laid := [("errors.errorType", laid_errors_errorType), ("beacon/message.shapes", laid_beacon_message_shapes)] }
def MessageEncodesSaid : Prop := messageEncodesRow.holds Tryz.pinned (OpenSpec.ofChange messageEncodesSpec)

/-- ITS FALSE NEIGHBOUR: 'it returns false'. Refute it at one input. -/
def messageEncodesWrong : ChangeSpec := { name := "messageEncodes", fn := fun _ => fun
  | [d] => { results := [.lit (.bool false)], args := [d] }
  | _ => none }
def MessageEncodesWrongFalsely : Prop := messageEncodesRow.holds Tryz.pinned (OpenSpec.ofChange messageEncodesWrong)

/-- 'beaconlaw06.MessageDecodes': WHATEVER THE INPUT: true; the input reads as it did. -/
def messageDecodesSpec : ChangeSpec := { name := "messageDecodes", fn := fun _ => fun
  | [d] => { results := [.lit (.bool true)], args := [d] }
  | _ => none }
def messageDecodesRow : OpenClaim := { program := "ytidfgjgbigedeaagreatdoor", sum := "d98dd3f8e1dec8cd1e3c43f4e6c708160fa14f70a5021b110964da480f9da1d7", func := "beacon/beaconlaw06.MessageDecodes", spec := "messageDecodes", inPlace := ["internal/bytealg.IndexByteString", "math.Float64frombits", "internal/reflectlite.ValueOf", "(internal/reflectlite.Value).Type", "(internal/reflectlite.Value).IsNil", "internal/reflectlite.TypeOf", "(internal/reflectlite.Value).Elem", "(internal/reflectlite.Value).Set", "math.Float64bits", "math.archTrunc"], unfollowed := true, recurses := true, named := ["beacon/message.shapes", "errors.errorType"], apart := false, laid := [("errors.errorType", laid_errors_errorType), ("beacon/message.shapes", laid_beacon_message_shapes)] }
def MessageDecodesSaid : Prop := messageDecodesRow.holds Tryz.pinned (OpenSpec.ofChange messageDecodesSpec)

/-- ITS FALSE NEIGHBOUR: 'it returns false'. Refute it at one input. -/
def messageDecodesWrong : ChangeSpec := { name := "messageDecodes", fn := fun _ => fun
  | [d] => { results := [.lit (.bool false)], args := [d] }
  | _ => none }
def MessageDecodesWrongFalsely : Prop := messageDecodesRow.holds Tryz.pinned (OpenSpec.ofChange messageDecodesWrong)

/-- 'beaconlaw06.MessageBack': WHATEVER THE INPUT: true; the input reads as it did. -/
def messageBackSpec : ChangeSpec := { name := "messageBack", fn := fun _ => fun
  | [d1, d2] => { results := [.lit (.bool true)], args := [d1, d2] }
  | _ => none }
def messageBackRow : OpenClaim := { program := "ytidfgjgbigedeaagreatdoor", sum := "d98dd3f8e1dec8cd1e3c43f4e6c708160fa14f70a5021b110964da480f9da1d7", func := "beacon/beaconlaw06.MessageBack", spec := "messageBack", inPlace := ["math.Float64bits", "math.Float64frombits", "math.archTrunc", "internal/bytealg.IndexByteString", "internal/reflectlite.ValueOf", "(internal/reflectlite.Value).Type", "(internal/reflectlite.Value).IsNil", "internal/reflectlite.TypeOf", "(internal/reflectlite.Value).Elem", "(internal/reflectlite.Value).Set"], unfollowed := true, recurses := true, named := ["beacon/message.shapes", "errors.errorType"], apart := false, laid := [("errors.errorType", laid_errors_errorType), ("beacon/message.shapes", laid_beacon_message_shapes)] }
def MessageBackSaid : Prop := messageBackRow.holds Tryz.pinned (OpenSpec.ofChange messageBackSpec)

/-- ITS FALSE NEIGHBOUR: 'it returns false'. Refute it at one input. -/
def messageBackWrong : ChangeSpec := { name := "messageBack", fn := fun _ => fun
  | [d1, d2] => { results := [.lit (.bool false)], args := [d1, d2] }
  | _ => none }
def MessageBackWrongFalsely : Prop := messageBackRow.holds Tryz.pinned (OpenSpec.ofChange messageBackWrong)

/-- 'beaconlaw06.MessageUnlike': WHATEVER THE INPUT: true; the input reads as it did. -/
def messageUnlikeSpec : ChangeSpec := { name := "messageUnlike", fn := fun _ => fun
  | [d1, d2] => { results := [.lit (.bool true)], args := [d1, d2] }
  | _ => none }
def messageUnlikeRow : OpenClaim := { program := "ytidfgjgbigedeaagreatdoor", sum := "d98dd3f8e1dec8cd1e3c43f4e6c708160fa14f70a5021b110964da480f9da1d7", func := "beacon/beaconlaw06.MessageUnlike", spec := "messageUnlike", inPlace := ["math.Float64bits", "math.Float64frombits", "math.archTrunc", "internal/bytealg.IndexByteString", "internal/reflectlite.ValueOf", "(internal/reflectlite.Value).Type", "(internal/reflectlite.Value).IsNil", "internal/reflectlite.TypeOf", "(internal/reflectlite.Value).Elem", "(internal/reflectlite.Value).Set"], unfollowed := true, recurses := true, named := ["beacon/message.shapes", "errors.errorType"], apart := false, laid := [("errors.errorType", laid_errors_errorType), ("beacon/message.shapes", laid_beacon_message_shapes)] }
def MessageUnlikeSaid : Prop := messageUnlikeRow.holds Tryz.pinned (OpenSpec.ofChange messageUnlikeSpec)

/-- ITS FALSE NEIGHBOUR: 'it returns false'. Refute it at one input. -/
def messageUnlikeWrong : ChangeSpec := { name := "messageUnlike", fn := fun _ => fun
  | [d1, d2] => { results := [.lit (.bool false)], args := [d1, d2] }
  | _ => none }
def MessageUnlikeWrongFalsely : Prop := messageUnlikeRow.holds Tryz.pinned (OpenSpec.ofChange messageUnlikeWrong)

/-- 'beaconlaw06.MessageOwn': WHATEVER THE INPUT: true; the input reads as it did. -/
def messageOwnSpec : ChangeSpec := { name := "messageOwn", fn := fun _ => fun
  | [d] => { results := [.lit (.bool true)], args := [d] }
  | _ => none }
def messageOwnRow : OpenClaim := { program := "ytidfgjgbigedeaagreatdoor", sum := "d98dd3f8e1dec8cd1e3c43f4e6c708160fa14f70a5021b110964da480f9da1d7", func := "beacon/beaconlaw06.MessageOwn", spec := "messageOwn", inPlace := ["math.Float64bits", "math.Float64frombits", "math.archTrunc", "internal/bytealg.IndexByteString", "internal/reflectlite.ValueOf", "(internal/reflectlite.Value).Type", "(internal/reflectlite.Value).IsNil", "internal/reflectlite.TypeOf", "(internal/reflectlite.Value).Elem", "(internal/reflectlite.Value).Set"], unfollowed := true, recurses := true, named := ["beacon/message.shapes", "errors.errorType"], apart := false, laid := [("errors.errorType", laid_errors_errorType), ("beacon/message.shapes", laid_beacon_message_shapes)] }
def MessageOwnSaid : Prop := messageOwnRow.holds Tryz.pinned (OpenSpec.ofChange messageOwnSpec)

/-- ITS FALSE NEIGHBOUR: 'it returns false'. Refute it at one input. -/
def messageOwnWrong : ChangeSpec := { name := "messageOwn", fn := fun _ => fun
  | [d] => { results := [.lit (.bool false)], args := [d] }
  | _ => none }
def MessageOwnWrongFalsely : Prop := messageOwnRow.holds Tryz.pinned (OpenSpec.ofChange messageOwnWrong)

/- THE SECOND FORM. 'bulk': how many values and letters a reading holds, each counted each time it is reached (what is shared counts as often as it is met; a slice's spare places count too). A statement '..UptoSaid' is the law's where the arguments, and the package variables that the reading takes, are together of bulk at most 1048576: NARROWER than '..Said'. Prove '..Said' where nothing that the law and all that it calls make is longer than what came in: it says more and counts as full. Else prove '..UptoSaid'. A law counts once. -/
mutual
def uptoBulk {H : Type} : DataW H → Nat
  | .lit (.string bytes) => bytes.length + 1
  | .lit _ => 1
  | .nil => 1
  | .ptr d => uptoBulk d + 1
  | .slice elems spare => uptoBulkAll elems + uptoBulkAll spare + 1
  | .agg parts => uptoBulkAll parts + 1
  | .iface _ d => uptoBulk d + 1
  | .map entries => uptoBulkEntries entries + 1
  | .held _ => 1
def uptoBulkAll {H : Type} : List (DataW H) → Nat
  | [] => 0
  | d :: r => uptoBulk d + uptoBulkAll r
def uptoBulkEntries {H : Type} : List (Lit × DataW H) → Nat
  | [] => 0
  | x :: r => uptoBulkEntry x + uptoBulkEntries r
def uptoBulkEntry {H : Type} : Lit × DataW H → Nat
  | (.string bytes, d) => bytes.length + uptoBulk d + 1
  | (_, d) => uptoBulk d + 1
 end
def uptoSmall : (H : Type) → List (DataW H) → Bool := fun _ ds => decide (uptoBulkAll ds ≤ 1048576)
def OpenSpec.upto (s : _root_.Go.ChangeSpec) : _root_.Go.OpenSpec := { _root_.Go.OpenSpec.ofChange s with cond := some uptoSmall }

/-- 'beaconlaw06.MessageEncodes', WHERE WHAT IT READS IS OF BULK AT MOST 1048576: true; the input reads as it did. -/
def messageEncodesUptoRow : OpenClaim := { program := "ytidfgjgbigedeaagreatdoor", sum := "d98dd3f8e1dec8cd1e3c43f4e6c708160fa14f70a5021b110964da480f9da1d7", func := "beacon/beaconlaw06.MessageEncodes", spec := "messageEncodes", inPlace := ["math.Float64bits", "math.Float64frombits", "math.archTrunc", "internal/bytealg.IndexByteString", "internal/reflectlite.ValueOf", "(internal/reflectlite.Value).Type", "(internal/reflectlite.Value).IsNil", "internal/reflectlite.TypeOf", "(internal/reflectlite.Value).Elem", "(internal/reflectlite.Value).Set"], unfollowed := true, recurses := true, named := ["beacon/message.shapes", "errors.errorType"], apart := false, laid := [("errors.errorType", laid_errors_errorType), ("beacon/message.shapes", laid_beacon_message_shapes)], narrowed := true }
def MessageEncodesUptoSaid : Prop := messageEncodesUptoRow.holds Tryz.pinned (OpenSpec.upto messageEncodesSpec)

/-- 'beaconlaw06.MessageDecodes', WHERE WHAT IT READS IS OF BULK AT MOST 1048576: true; the input reads as it did. -/
def messageDecodesUptoRow : OpenClaim := { program := "ytidfgjgbigedeaagreatdoor", sum := "d98dd3f8e1dec8cd1e3c43f4e6c708160fa14f70a5021b110964da480f9da1d7", func := "beacon/beaconlaw06.MessageDecodes", spec := "messageDecodes", inPlace := ["internal/bytealg.IndexByteString", "math.Float64frombits", "internal/reflectlite.ValueOf", "(internal/reflectlite.Value).Type", "(internal/reflectlite.Value).IsNil", "internal/reflectlite.TypeOf", "(internal/reflectlite.Value).Elem", "(internal/reflectlite.Value).Set", "math.Float64bits", "math.archTrunc"], unfollowed := true, recurses := true, named := ["beacon/message.shapes", "errors.errorType"], apart := false, laid := [("errors.errorType", laid_errors_errorType), ("beacon/message.shapes", laid_beacon_message_shapes)], narrowed := true }
def MessageDecodesUptoSaid : Prop := messageDecodesUptoRow.holds Tryz.pinned (OpenSpec.upto messageDecodesSpec)

/-- 'beaconlaw06.MessageBack', WHERE WHAT IT READS IS OF BULK AT MOST 1048576: true; the input reads as it did. -/
def messageBackUptoRow : OpenClaim := { program := "ytidfgjgbigedeaagreatdoor", sum := "d98dd3f8e1dec8cd1e3c43f4e6c708160fa14f70a5021b110964da480f9da1d7", func := "beacon/beaconlaw06.MessageBack", spec := "messageBack", inPlace := ["math.Float64bits", "math.Float64frombits", "math.archTrunc", "internal/bytealg.IndexByteString", "internal/reflectlite.ValueOf", "(internal/reflectlite.Value).Type", "(internal/reflectlite.Value).IsNil", "internal/reflectlite.TypeOf", "(internal/reflectlite.Value).Elem", "(internal/reflectlite.Value).Set"], unfollowed := true, recurses := true, named := ["beacon/message.shapes", "errors.errorType"], apart := false, laid := [("errors.errorType", laid_errors_errorType), ("beacon/message.shapes", laid_beacon_message_shapes)], narrowed := true }
def MessageBackUptoSaid : Prop := messageBackUptoRow.holds Tryz.pinned (OpenSpec.upto messageBackSpec)

/-- 'beaconlaw06.MessageUnlike', WHERE WHAT IT READS IS OF BULK AT MOST 1048576: true; the input reads as it did. -/
def messageUnlikeUptoRow : OpenClaim := { program := "ytidfgjgbigedeaagreatdoor", sum := "d98dd3f8e1dec8cd1e3c43f4e6c708160fa14f70a5021b110964da480f9da1d7", func := "beacon/beaconlaw06.MessageUnlike", spec := "messageUnlike", inPlace := ["math.Float64bits", "math.Float64frombits", "math.archTrunc", "internal/bytealg.IndexByteString", "internal/reflectlite.ValueOf", "(internal/reflectlite.Value).Type", "(internal/reflectlite.Value).IsNil", "internal/reflectlite.TypeOf", "(internal/reflectlite.Value).Elem", "(internal/reflectlite.Value).Set"], unfollowed := true, recurses := true, named := ["beacon/message.shapes", "errors.errorType"], apart := false, laid := [("errors.errorType", laid_errors_errorType), ("beacon/message.shapes", laid_beacon_message_shapes)], narrowed := true }
def MessageUnlikeUptoSaid : Prop := messageUnlikeUptoRow.holds Tryz.pinned (OpenSpec.upto messageUnlikeSpec)

/-- 'beaconlaw06.MessageOwn', WHERE WHAT IT READS IS OF BULK AT MOST 1048576: true; the input reads as it did. -/
def messageOwnUptoRow : OpenClaim := { program := "ytidfgjgbigedeaagreatdoor", sum := "d98dd3f8e1dec8cd1e3c43f4e6c708160fa14f70a5021b110964da480f9da1d7", func := "beacon/beaconlaw06.MessageOwn", spec := "messageOwn", inPlace := ["math.Float64bits", "math.Float64frombits", "math.archTrunc", "internal/bytealg.IndexByteString", "internal/reflectlite.ValueOf", "(internal/reflectlite.Value).Type", "(internal/reflectlite.Value).IsNil", "internal/reflectlite.TypeOf", "(internal/reflectlite.Value).Elem", "(internal/reflectlite.Value).Set"], unfollowed := true, recurses := true, named := ["beacon/message.shapes", "errors.errorType"], apart := false, laid := [("errors.errorType", laid_errors_errorType), ("beacon/message.shapes", laid_beacon_message_shapes)], narrowed := true }
def MessageOwnUptoSaid : Prop := messageOwnUptoRow.holds Tryz.pinned (OpenSpec.upto messageOwnSpec)

end Rows
end Go.Proofs.YtidfgjgbigedeaaGreatDoor
