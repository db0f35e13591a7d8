/-
  DERIVED. GIVEN WITH THE SEED: THE CARDS: each row of YtloaajoeciajaaaDoorRows.lean that lists a variable, with what it lists TIED to the program's text (the seventh form; the later family's looks); each row that meets fmt, with fmt's text TOLD by the authors' own Lean function (tested against real Go, not proved from fmt's source: count such statements apart). THE CARD IS WHAT COUNTS. Prove the row's statement (the work); the ties are given (YtloaajoeciajaaaDoorTie.lean); close each card by the builder's one call (the guide's Derived/Test/ToyasCard.lean, 'card_holds'). Laid BY PROGRAM, IN A SANDBOX (cutbox-door.mjs). By AI agents, Wed Nov 11 2026. No macro, syntax, notation, axiom, sorry.
-/
import Derived.Test.YtloaajoeciajaaaDoorRows
import GoSem.ClaimSeven
namespace Go.Proofs.YtloaajoeciajaaaDoor
namespace Rows

/-- THE TIED CARD OF 'beaconlaw01.MetricTexts'. -/
def metricTextsCard : Claim7 := { stood := { row := metricTextsRow, standIns := [], harness := (true, "bb4dfde291b5879815df1bf68ef9370654dfa7902289bebe6fe86e7613d60923"), looks := true }, kinds := [], alts := [], laidByText := true, laidKinds := [.data, .data, .data, .data], laidTests := true, laidLooks := .later }
def MetricTextsCardSaid : Prop := Claim7.holds Tryd.pinned (.plain (OpenSpec.ofChange metricTextsSpec)) metricTextsCard

/-- THE TIED CARD OF 'beaconlaw01.MetricParses'. -/
def metricParsesCard : Claim7 := { stood := { row := metricParsesRow, standIns := [], harness := (true, "bb4dfde291b5879815df1bf68ef9370654dfa7902289bebe6fe86e7613d60923"), looks := true }, kinds := [], alts := [], laidByText := true, laidKinds := [.data, .data, .widerDeep, .widerDeep, .data, .data, .data, .data, .data, .sentinel, .sentinel, .data, .pinned, .pinned], laidTests := true, laidLooks := .later }
def MetricParsesCardSaid : Prop := Claim7.holds Tryd.pinned (.plain (OpenSpec.ofChange metricParsesSpec)) metricParsesCard

/-- THE TIED CARD OF 'beaconlaw01.MetricBack'. -/
def metricBackCard : Claim7 := { stood := { row := metricBackRow, standIns := [], harness := (true, "bb4dfde291b5879815df1bf68ef9370654dfa7902289bebe6fe86e7613d60923"), looks := true }, kinds := [], alts := [], laidByText := true, laidKinds := [.data, .data, .widerDeep, .widerDeep, .data, .data, .data, .data, .data, .sentinel, .sentinel, .data, .pinned, .pinned], laidTests := true, laidLooks := .later }
def MetricBackCardSaid : Prop := Claim7.holds Tryd.pinned (.plain (OpenSpec.ofChange metricBackSpec)) metricBackCard

/-- THE SECOND FORM's CARD OF 'beaconlaw01.MetricTexts'. -/
def metricTextsUptoCard : Claim7 := { stood := { row := metricTextsUptoRow, standIns := [], harness := (true, "bb4dfde291b5879815df1bf68ef9370654dfa7902289bebe6fe86e7613d60923"), looks := true }, kinds := [], alts := [], laidByText := true, laidKinds := [.data, .data, .data, .data], laidTests := true, laidLooks := .later }
def MetricTextsUptoCardSaid : Prop := Claim7.holds Tryd.pinned (.plain (OpenSpec.upto metricTextsSpec)) metricTextsUptoCard

/-- THE SECOND FORM's CARD OF 'beaconlaw01.MetricParses'. -/
def metricParsesUptoCard : Claim7 := { stood := { row := metricParsesUptoRow, standIns := [], harness := (true, "bb4dfde291b5879815df1bf68ef9370654dfa7902289bebe6fe86e7613d60923"), looks := true }, kinds := [], alts := [], laidByText := true, laidKinds := [.data, .data, .widerDeep, .widerDeep, .data, .data, .data, .data, .data, .sentinel, .sentinel, .data, .pinned, .pinned], laidTests := true, laidLooks := .later }
def MetricParsesUptoCardSaid : Prop := Claim7.holds Tryd.pinned (.plain (OpenSpec.upto metricParsesSpec)) metricParsesUptoCard

/-- THE SECOND FORM's CARD OF 'beaconlaw01.MetricBack'. -/
def metricBackUptoCard : Claim7 := { stood := { row := metricBackUptoRow, standIns := [], harness := (true, "bb4dfde291b5879815df1bf68ef9370654dfa7902289bebe6fe86e7613d60923"), looks := true }, kinds := [], alts := [], laidByText := true, laidKinds := [.data, .data, .widerDeep, .widerDeep, .data, .data, .data, .data, .data, .sentinel, .sentinel, .data, .pinned, .pinned], laidTests := true, laidLooks := .later }
def MetricBackUptoCardSaid : Prop := Claim7.holds Tryd.pinned (.plain (OpenSpec.upto metricBackSpec)) metricBackUptoCard
end Rows
end Go.Proofs.YtloaajoeciajaaaDoor
