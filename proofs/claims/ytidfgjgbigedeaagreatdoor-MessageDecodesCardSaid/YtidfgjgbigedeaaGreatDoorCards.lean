/-
  DERIVED. GIVEN WITH THE SEED: THE CARDS: each row of YtidfgjgbigedeaaGreatDoorRows.lean that lists a variable, with what it lists TIED to the program's text (the seventh form; the later family's looks); each row that meets fmt, with fmt's text TOLD by the authors' own Lean function (tested against real Go, not proved from fmt's source: count such statements apart). THE CARD IS WHAT COUNTS. Prove the row's statement (the work); the ties are given (YtidfgjgbigedeaaGreatDoorTie.lean); close each card by the builder's one call (the guide's Derived/Test/ToyasCard.lean, 'card_holds'). Laid BY PROGRAM, IN A SANDBOX (cutbox-door.mjs). By AI agents, Wed Nov 11 2026. No macro, syntax, notation, axiom, sorry.
-/
import Derived.Test.YtidfgjgbigedeaaGreatDoorRows
import GoSem.ClaimSeven
namespace Go.Proofs.YtidfgjgbigedeaaGreatDoor
namespace Rows

/-- THE TIED CARD OF 'beaconlaw06.MessageEncodes'. -/
def messageEncodesCard : Claim7 := { stood := { row := messageEncodesRow, standIns := [], harness := (true, "f337239e596cc12bc7ebb14be748758c1e115fb5ba7c22c6ce0596370d05e0f0"), looks := true }, kinds := [], alts := [], laidByText := true, laidKinds := [.handle, .data], laidTests := true, laidLooks := .later }
def MessageEncodesCardSaid : Prop := Claim7.holds Tryz.pinned (.plain (OpenSpec.ofChange messageEncodesSpec)) messageEncodesCard

/-- THE TIED CARD OF 'beaconlaw06.MessageDecodes'. -/
def messageDecodesCard : Claim7 := { stood := { row := messageDecodesRow, standIns := [], harness := (true, "f337239e596cc12bc7ebb14be748758c1e115fb5ba7c22c6ce0596370d05e0f0"), looks := true }, kinds := [], alts := [], laidByText := true, laidKinds := [.handle, .data], laidTests := true, laidLooks := .later }
def MessageDecodesCardSaid : Prop := Claim7.holds Tryz.pinned (.plain (OpenSpec.ofChange messageDecodesSpec)) messageDecodesCard

/-- THE TIED CARD OF 'beaconlaw06.MessageBack'. -/
def messageBackCard : Claim7 := { stood := { row := messageBackRow, standIns := [], harness := (true, "f337239e596cc12bc7ebb14be748758c1e115fb5ba7c22c6ce0596370d05e0f0"), looks := true }, kinds := [], alts := [], laidByText := true, laidKinds := [.handle, .data], laidTests := true, laidLooks := .later }
def MessageBackCardSaid : Prop := Claim7.holds Tryz.pinned (.plain (OpenSpec.ofChange messageBackSpec)) messageBackCard

/-- THE TIED CARD OF 'beaconlaw06.MessageUnlike'. -/
def messageUnlikeCard : Claim7 := { stood := { row := messageUnlikeRow, standIns := [], harness := (true, "f337239e596cc12bc7ebb14be748758c1e115fb5ba7c22c6ce0596370d05e0f0"), looks := true }, kinds := [], alts := [], laidByText := true, laidKinds := [.handle, .data], laidTests := true, laidLooks := .later }
def MessageUnlikeCardSaid : Prop := Claim7.holds Tryz.pinned (.plain (OpenSpec.ofChange messageUnlikeSpec)) messageUnlikeCard

/-- THE TIED CARD OF 'beaconlaw06.MessageOwn'. -/
def messageOwnCard : Claim7 := { stood := { row := messageOwnRow, standIns := [], harness := (true, "f337239e596cc12bc7ebb14be748758c1e115fb5ba7c22c6ce0596370d05e0f0"), looks := true }, kinds := [], alts := [], laidByText := true, laidKinds := [.handle, .data], laidTests := true, laidLooks := .later }
def MessageOwnCardSaid : Prop := Claim7.holds Tryz.pinned (.plain (OpenSpec.ofChange messageOwnSpec)) messageOwnCard

/-- THE SECOND FORM's CARD OF 'beaconlaw06.MessageEncodes'. -/
def messageEncodesUptoCard : Claim7 := { stood := { row := messageEncodesUptoRow, standIns := [], harness := (true, "f337239e596cc12bc7ebb14be748758c1e115fb5ba7c22c6ce0596370d05e0f0"), looks := true }, kinds := [], alts := [], laidByText := true, laidKinds := [.handle, .data], laidTests := true, laidLooks := .later }
def MessageEncodesUptoCardSaid : Prop := Claim7.holds Tryz.pinned (.plain (OpenSpec.upto messageEncodesSpec)) messageEncodesUptoCard

/-- THE SECOND FORM's CARD OF 'beaconlaw06.MessageDecodes'. -/
def messageDecodesUptoCard : Claim7 := { stood := { row := messageDecodesUptoRow, standIns := [], harness := (true, "f337239e596cc12bc7ebb14be748758c1e115fb5ba7c22c6ce0596370d05e0f0"), looks := true }, kinds := [], alts := [], laidByText := true, laidKinds := [.handle, .data], laidTests := true, laidLooks := .later }
def MessageDecodesUptoCardSaid : Prop := Claim7.holds Tryz.pinned (.plain (OpenSpec.upto messageDecodesSpec)) messageDecodesUptoCard

/-- THE SECOND FORM's CARD OF 'beaconlaw06.MessageBack'. -/
def messageBackUptoCard : Claim7 := { stood := { row := messageBackUptoRow, standIns := [], harness := (true, "f337239e596cc12bc7ebb14be748758c1e115fb5ba7c22c6ce0596370d05e0f0"), looks := true }, kinds := [], alts := [], laidByText := true, laidKinds := [.handle, .data], laidTests := true, laidLooks := .later }
def MessageBackUptoCardSaid : Prop := Claim7.holds Tryz.pinned (.plain (OpenSpec.upto messageBackSpec)) messageBackUptoCard

/-- THE SECOND FORM's CARD OF 'beaconlaw06.MessageUnlike'. -/
def messageUnlikeUptoCard : Claim7 := { stood := { row := messageUnlikeUptoRow, standIns := [], harness := (true, "f337239e596cc12bc7ebb14be748758c1e115fb5ba7c22c6ce0596370d05e0f0"), looks := true }, kinds := [], alts := [], laidByText := true, laidKinds := [.handle, .data], laidTests := true, laidLooks := .later }
def MessageUnlikeUptoCardSaid : Prop := Claim7.holds Tryz.pinned (.plain (OpenSpec.upto messageUnlikeSpec)) messageUnlikeUptoCard

/-- THE SECOND FORM's CARD OF 'beaconlaw06.MessageOwn'. -/
def messageOwnUptoCard : Claim7 := { stood := { row := messageOwnUptoRow, standIns := [], harness := (true, "f337239e596cc12bc7ebb14be748758c1e115fb5ba7c22c6ce0596370d05e0f0"), looks := true }, kinds := [], alts := [], laidByText := true, laidKinds := [.handle, .data], laidTests := true, laidLooks := .later }
def MessageOwnUptoCardSaid : Prop := Claim7.holds Tryz.pinned (.plain (OpenSpec.upto messageOwnSpec)) messageOwnUptoCard
end Rows
end Go.Proofs.YtidfgjgbigedeaaGreatDoor
