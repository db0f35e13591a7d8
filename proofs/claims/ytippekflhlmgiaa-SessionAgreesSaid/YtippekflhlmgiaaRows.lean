/-
  No cell of these rows narrows 'for every input' (looked for: loops, veiled, ifaces, maps, wideKeys, modest, calm, conditions, laid).
  DERIVED. THE GIVEN ROWS OF THIS SEAT. 4 by the template 'for every input the law returns true; each argument reads behind the call as it read before'; 0 by the template 'total and deterministic' (their statements: YtippekflhlmgiaaTotals.lean).
  GIVEN WITH THE SEED: the statements are not yours to turn. If you find one false, say at which input.
  Laid BY PROGRAM, IN A SANDBOX (cutbox-rows.mjs): the forced cells as the released guide's own fill.sh prints them over the translation 1932dbfba917a4db… (all of the seat's roots in one cut). By AI agents, Wed Nov 11 2026. No macro, syntax, notation, axiom, sorry.
-/
import Derived.Test.YtippekflhlmgiaaChecked
import GoSem.Claim
import GoSem.ClaimJoined
import GoSem.ClaimMapViews
import Derived.JoinedTies
import Derived.KernelRfl
namespace Go.Proofs.Ytippekflhlmgiaa
/- THE CELL 'sum', in the pinned program and in every row, IS THE sha256 OF THE DUMP (.gsa) THAT YtippekflhlmgiaaProg.lean LOADS. Nothing in Lean hashes anything: it is a label: what it is worth is what the hold of that sum in a sandbox is worth. -/
noncomputable def Try.pinned : Pinned := { name := "ytippekflhlmgiaa", sum := "1932dbfba917a4db1ab284564b60fb02179844426be8bf6575ed75000606255a", checked := Try.checked }
namespace Rows
def none {H : Type} : Left H := { results := [], args := [] }

/-- 'beaconlaw12.SessionChecks': WHATEVER THE INPUT: true; the input reads as it did. -/
def sessionChecksSpec : ChangeSpec := { name := "sessionChecks", fn := fun _ => fun
  | [d1, d2] => { results := [.lit (.bool true)], args := [d1, d2] }
  | _ => none }
def sessionChecksRow : OpenClaim := { program := "ytippekflhlmgiaa", sum := "1932dbfba917a4db1ab284564b60fb02179844426be8bf6575ed75000606255a", func := "beacon/beaconlaw12.SessionChecks", spec := "sessionChecks", inPlace := ["math.Float64bits", "math.Float64frombits", "math.archTrunc"], apart := false }
def SessionChecksSaid : Prop := sessionChecksRow.holds Try.pinned (OpenSpec.ofChange sessionChecksSpec)

/-- ITS FALSE NEIGHBOUR: 'it returns false'. Refute it at one input. -/
def sessionChecksWrong : ChangeSpec := { name := "sessionChecks", fn := fun _ => fun
  | [d1, d2] => { results := [.lit (.bool false)], args := [d1, d2] }
  | _ => none }
def SessionChecksWrongFalsely : Prop := sessionChecksRow.holds Try.pinned (OpenSpec.ofChange sessionChecksWrong)

/-- 'beaconlaw12.SessionPlays': WHATEVER THE INPUT: true; the input reads as it did. -/
def sessionPlaysSpec : ChangeSpec := { name := "sessionPlays", fn := fun _ => fun
  | [d1, d2] => { results := [.lit (.bool true)], args := [d1, d2] }
  | _ => none }
def sessionPlaysRow : OpenClaim := { program := "ytippekflhlmgiaa", sum := "1932dbfba917a4db1ab284564b60fb02179844426be8bf6575ed75000606255a", func := "beacon/beaconlaw12.SessionPlays", spec := "sessionPlays", apart := false }
def SessionPlaysSaid : Prop := sessionPlaysRow.holds Try.pinned (OpenSpec.ofChange sessionPlaysSpec)

/-- ITS FALSE NEIGHBOUR: 'it returns false'. Refute it at one input. -/
def sessionPlaysWrong : ChangeSpec := { name := "sessionPlays", fn := fun _ => fun
  | [d1, d2] => { results := [.lit (.bool false)], args := [d1, d2] }
  | _ => none }
def SessionPlaysWrongFalsely : Prop := sessionPlaysRow.holds Try.pinned (OpenSpec.ofChange sessionPlaysWrong)

/-- 'beaconlaw12.SessionAgrees': WHATEVER THE INPUT: true; the input reads as it did. -/
def sessionAgreesSpec : ChangeSpec := { name := "sessionAgrees", fn := fun _ => fun
  | [d1, d2] => { results := [.lit (.bool true)], args := [d1, d2] }
  | _ => none }
def sessionAgreesRow : OpenClaim := { program := "ytippekflhlmgiaa", sum := "1932dbfba917a4db1ab284564b60fb02179844426be8bf6575ed75000606255a", func := "beacon/beaconlaw12.SessionAgrees", spec := "sessionAgrees", apart := false }
def SessionAgreesSaid : Prop := sessionAgreesRow.holds Try.pinned (OpenSpec.ofChange sessionAgreesSpec)

/-- ITS FALSE NEIGHBOUR: 'it returns false'. Refute it at one input. -/
def sessionAgreesWrong : ChangeSpec := { name := "sessionAgrees", fn := fun _ => fun
  | [d1, d2] => { results := [.lit (.bool false)], args := [d1, d2] }
  | _ => none }
def SessionAgreesWrongFalsely : Prop := sessionAgreesRow.holds Try.pinned (OpenSpec.ofChange sessionAgreesWrong)

/-- 'beaconlaw12.SessionMeets': WHATEVER THE INPUT: true; the input reads as it did. -/
def sessionMeetsSpec : ChangeSpec := { name := "sessionMeets", fn := fun _ => fun
  | [d1, d2] => { results := [.lit (.bool true)], args := [d1, d2] }
  | _ => none }
def sessionMeetsRow : OpenClaim := { program := "ytippekflhlmgiaa", sum := "1932dbfba917a4db1ab284564b60fb02179844426be8bf6575ed75000606255a", func := "beacon/beaconlaw12.SessionMeets", spec := "sessionMeets", apart := false }
def SessionMeetsSaid : Prop := sessionMeetsRow.holds Try.pinned (OpenSpec.ofChange sessionMeetsSpec)

/-- ITS FALSE NEIGHBOUR: 'it returns false'. Refute it at one input. -/
def sessionMeetsWrong : ChangeSpec := { name := "sessionMeets", fn := fun _ => fun
  | [d1, d2] => { results := [.lit (.bool false)], args := [d1, d2] }
  | _ => none }
def SessionMeetsWrongFalsely : Prop := sessionMeetsRow.holds Try.pinned (OpenSpec.ofChange sessionMeetsWrong)

/- THE SECOND FORM. 'bulk': how many values and letters a reading holds, each counted each time it is reached (what is shared counts as often as it is met; a slice's spare places count too). A statement '..UptoSaid' is the law's where the arguments, and the package variables that the reading takes, are together of bulk at most 1048576: NARROWER than '..Said'. Prove '..Said' where nothing that the law and all that it calls make is longer than what came in: it says more and counts as full. Else prove '..UptoSaid'. A law counts once. -/
mutual
def uptoBulk {H : Type} : DataW H → Nat
  | .lit (.string bytes) => bytes.length + 1
  | .lit _ => 1
  | .nil => 1
  | .ptr d => uptoBulk d + 1
  | .slice elems spare => uptoBulkAll elems + uptoBulkAll spare + 1
  | .agg parts => uptoBulkAll parts + 1
  | .iface _ d => uptoBulk d + 1
  | .map entries => uptoBulkEntries entries + 1
  | .held _ => 1
def uptoBulkAll {H : Type} : List (DataW H) → Nat
  | [] => 0
  | d :: r => uptoBulk d + uptoBulkAll r
def uptoBulkEntries {H : Type} : List (Lit × DataW H) → Nat
  | [] => 0
  | x :: r => uptoBulkEntry x + uptoBulkEntries r
def uptoBulkEntry {H : Type} : Lit × DataW H → Nat
  | (.string bytes, d) => bytes.length + uptoBulk d + 1
  | (_, d) => uptoBulk d + 1
 end
def uptoSmall : (H : Type) → List (DataW H) → Bool := fun _ ds => decide (uptoBulkAll ds ≤ 1048576)
def OpenSpec.upto (s : _root_.Go.ChangeSpec) : _root_.Go.OpenSpec := { _root_.Go.OpenSpec.ofChange s with cond := some uptoSmall }

/-- 'beaconlaw12.SessionChecks', WHERE WHAT IT READS IS OF BULK AT MOST 1048576: true; the input reads as it did. -/
def sessionChecksUptoRow : OpenClaim := { program := "ytippekflhlmgiaa", sum := "1932dbfba917a4db1ab284564b60fb02179844426be8bf6575ed75000606255a", func := "beacon/beaconlaw12.SessionChecks", spec := "sessionChecks", inPlace := ["math.Float64bits", "math.Float64frombits", "math.archTrunc"], apart := false, narrowed := true }
def SessionChecksUptoSaid : Prop := sessionChecksUptoRow.holds Try.pinned (OpenSpec.upto sessionChecksSpec)

/-- 'beaconlaw12.SessionPlays', WHERE WHAT IT READS IS OF BULK AT MOST 1048576: true; the input reads as it did. -/
def sessionPlaysUptoRow : OpenClaim := { program := "ytippekflhlmgiaa", sum := "1932dbfba917a4db1ab284564b60fb02179844426be8bf6575ed75000606255a", func := "beacon/beaconlaw12.SessionPlays", spec := "sessionPlays", apart := false, narrowed := true }
def SessionPlaysUptoSaid : Prop := sessionPlaysUptoRow.holds Try.pinned (OpenSpec.upto sessionPlaysSpec)

/-- 'beaconlaw12.SessionAgrees', WHERE WHAT IT READS IS OF BULK AT MOST 1048576: true; the input reads as it did. -/
def sessionAgreesUptoRow : OpenClaim := { program := "ytippekflhlmgiaa", sum := "1932dbfba917a4db1ab284564b60fb02179844426be8bf6575ed75000606255a", func := "beacon/beaconlaw12.SessionAgrees", spec := "sessionAgrees", apart := false, narrowed := true }
def SessionAgreesUptoSaid : Prop := sessionAgreesUptoRow.holds Try.pinned (OpenSpec.upto sessionAgreesSpec)

/-- 'beaconlaw12.SessionMeets', WHERE WHAT IT READS IS OF BULK AT MOST 1048576: true; the input reads as it did. -/
def sessionMeetsUptoRow : OpenClaim := { program := "ytippekflhlmgiaa", sum := "1932dbfba917a4db1ab284564b60fb02179844426be8bf6575ed75000606255a", func := "beacon/beaconlaw12.SessionMeets", spec := "sessionMeets", apart := false, narrowed := true }
def SessionMeetsUptoSaid : Prop := sessionMeetsUptoRow.holds Try.pinned (OpenSpec.upto sessionMeetsSpec)

end Rows
end Go.Proofs.Ytippekflhlmgiaa
