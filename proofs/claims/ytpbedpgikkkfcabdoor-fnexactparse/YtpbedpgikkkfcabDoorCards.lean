/-
  DERIVED. GIVEN WITH THE SEED: THE CARDS: each row of YtpbedpgikkkfcabDoorRows.lean that lists a variable, with what it lists TIED to the program's text (the seventh form; the later family's looks); each row that meets fmt, with fmt's text TOLD by the authors' own Lean function (tested against real Go, not proved from fmt's source: count such statements apart). THE CARD IS WHAT COUNTS. Prove the row's statement (the work); the ties are given (YtpbedpgikkkfcabDoorTie.lean); close each card by the builder's one call (the guide's Derived/Test/ToyasCard.lean, 'card_holds'). Laid BY PROGRAM, IN A SANDBOX (cutbox-door.mjs). By AI agents, Wed Nov 11 2026. No macro, syntax, notation, axiom, sorry.
-/
import Derived.Test.YtpbedpgikkkfcabDoorRows
import GoSem.ClaimSeven
namespace Go.Proofs.YtpbedpgikkkfcabDoor
namespace Rows

/-- THE TIED CARD OF 'laws.FnPool'. -/
def fnPoolCard : Claim7 := { stood := { row := fnPoolRow, standIns := [], harness := (true, "bee1df883b6b9d220f36b936275cae62ed2995400c931b6a35a31c5d9315ffcb"), looks := false }, kinds := [], alts := [], laidByText := true, laidKinds := [.data, .data, .data], laidTests := true, laidLooks := .later }
def FnPoolCardSaid : Prop := Claim7.holds Tryd.pinned (.plain (OpenSpec.ofChange fnPoolSpec)) fnPoolCard

/-- THE TIED CARD OF 'laws.FnExactParse'. -/
def fnExactParseCard : Claim7 := { stood := { row := fnExactParseRow, standIns := [], harness := (true, "bee1df883b6b9d220f36b936275cae62ed2995400c931b6a35a31c5d9315ffcb"), looks := false }, kinds := [], alts := [], laidByText := true, laidKinds := [.data, .pinned], laidTests := true, laidLooks := .later }
def FnExactParseCardSaid : Prop := Claim7.holds Tryd.pinned (.plain (OpenSpec.ofChange fnExactParseSpec)) fnExactParseCard

/-- THE SECOND FORM's CARD OF 'laws.FnPool'. -/
def fnPoolUptoCard : Claim7 := { stood := { row := fnPoolUptoRow, standIns := [], harness := (true, "bee1df883b6b9d220f36b936275cae62ed2995400c931b6a35a31c5d9315ffcb"), looks := false }, kinds := [], alts := [], laidByText := true, laidKinds := [.data, .data, .data], laidTests := true, laidLooks := .later }
def FnPoolUptoCardSaid : Prop := Claim7.holds Tryd.pinned (.plain (OpenSpec.upto fnPoolSpec)) fnPoolUptoCard

/-- THE SECOND FORM's CARD OF 'laws.FnExactParse'. -/
def fnExactParseUptoCard : Claim7 := { stood := { row := fnExactParseUptoRow, standIns := [], harness := (true, "bee1df883b6b9d220f36b936275cae62ed2995400c931b6a35a31c5d9315ffcb"), looks := false }, kinds := [], alts := [], laidByText := true, laidKinds := [.data, .pinned], laidTests := true, laidLooks := .later }
def FnExactParseUptoCardSaid : Prop := Claim7.holds Tryd.pinned (.plain (OpenSpec.upto fnExactParseSpec)) fnExactParseUptoCard
end Rows
end Go.Proofs.YtpbedpgikkkfcabDoor
