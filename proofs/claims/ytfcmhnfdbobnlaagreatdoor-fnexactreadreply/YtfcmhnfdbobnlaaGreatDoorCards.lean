/-
  DERIVED. GIVEN WITH THE SEED: THE CARDS: each row of YtfcmhnfdbobnlaaGreatDoorRows.lean that lists a variable, with what it lists TIED to the program's text (the seventh form; the later family's looks); each row that meets fmt, with fmt's text TOLD by the authors' own Lean function (tested against real Go, not proved from fmt's source: count such statements apart). THE CARD IS WHAT COUNTS. Prove the row's statement (the work); the ties are given (YtfcmhnfdbobnlaaGreatDoorTie.lean); close each card by the builder's one call (the guide's Derived/Test/ToyasCard.lean, 'card_holds'). Laid BY PROGRAM, IN A SANDBOX (cutbox-door.mjs). By AI agents, Wed Nov 11 2026. No macro, syntax, notation, axiom, sorry.
-/
import Derived.Test.YtfcmhnfdbobnlaaGreatDoorRows
import GoSem.ClaimSeven
namespace Go.Proofs.YtfcmhnfdbobnlaaGreatDoor
namespace Rows

/-- THE TIED CARD OF 'laws.FnExactReadReply'. -/
def fnExactReadReplyCard : Claim7 := { stood := { row := fnExactReadReplyRow, standIns := [], harness := (true, "9fe521e1d163b1198a3783d4fe7394795c93bf9073b7cf6645e9048e096de4f0"), looks := true }, kinds := [], alts := [], laidByText := true, laidKinds := [.data, .data, .data, .sentinel, .sentinel], laidTests := true, laidLooks := .later }
def FnExactReadReplyCardSaid : Prop := Claim7.holds Tryz.pinned (.plain (OpenSpec.ofChange fnExactReadReplySpec)) fnExactReadReplyCard

/-- THE SECOND FORM's CARD OF 'laws.FnExactReadReply'. -/
def fnExactReadReplyUptoCard : Claim7 := { stood := { row := fnExactReadReplyUptoRow, standIns := [], harness := (true, "9fe521e1d163b1198a3783d4fe7394795c93bf9073b7cf6645e9048e096de4f0"), looks := true }, kinds := [], alts := [], laidByText := true, laidKinds := [.data, .data, .data, .sentinel, .sentinel], laidTests := true, laidLooks := .later }
def FnExactReadReplyUptoCardSaid : Prop := Claim7.holds Tryz.pinned (.plain (OpenSpec.upto fnExactReadReplySpec)) fnExactReadReplyUptoCard
end Rows
end Go.Proofs.YtfcmhnfdbobnlaaGreatDoor
