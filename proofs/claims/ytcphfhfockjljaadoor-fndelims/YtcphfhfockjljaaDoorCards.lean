/-
  DERIVED. GIVEN WITH THE SEED: THE CARDS: each row of YtcphfhfockjljaaDoorRows.lean that lists a variable, with what it lists TIED to the program's text (the seventh form; the later family's looks); each row that meets fmt, with fmt's text TOLD by the authors' own Lean function (tested against real Go, not proved from fmt's source: count such statements apart). THE CARD IS WHAT COUNTS. Prove the row's statement (the work); the ties are given (YtcphfhfockjljaaDoorTie.lean); close each card by the builder's one call (the guide's Derived/Test/ToyasCard.lean, 'card_holds'). Laid BY PROGRAM, IN A SANDBOX (cutbox-door.mjs). By AI agents, Wed Nov 11 2026. No macro, syntax, notation, axiom, sorry.
-/
import Derived.Test.YtcphfhfockjljaaDoorRows
import GoSem.ClaimSeven
namespace Go.Proofs.YtcphfhfockjljaaDoor
namespace Rows

/-- THE TIED CARD OF 'laws.FnDelims'. -/
def fnDelimsCard : Claim7 := { stood := { row := fnDelimsRow, standIns := [], harness := (true, "1a4fdd48123d2ac694d38879da2df1fd8a5f2d9fae5ab337079b09d7dc932ea2"), looks := false }, kinds := [], alts := [], laidByText := true, laidKinds := [.data, .pinned], laidTests := true, laidLooks := .later }
def FnDelimsCardSaid : Prop := Claim7.holds Tryd.pinned (.plain (OpenSpec.ofChange fnDelimsSpec)) fnDelimsCard

/-- THE SECOND FORM's CARD OF 'laws.FnDelims'. -/
def fnDelimsUptoCard : Claim7 := { stood := { row := fnDelimsUptoRow, standIns := [], harness := (true, "1a4fdd48123d2ac694d38879da2df1fd8a5f2d9fae5ab337079b09d7dc932ea2"), looks := false }, kinds := [], alts := [], laidByText := true, laidKinds := [.data, .pinned], laidTests := true, laidLooks := .later }
def FnDelimsUptoCardSaid : Prop := Claim7.holds Tryd.pinned (.plain (OpenSpec.upto fnDelimsSpec)) fnDelimsUptoCard
end Rows
end Go.Proofs.YtcphfhfockjljaaDoor
