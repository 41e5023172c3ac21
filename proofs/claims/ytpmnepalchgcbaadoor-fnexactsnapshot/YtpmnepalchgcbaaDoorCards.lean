/-
  DERIVED. GIVEN WITH THE SEED: THE CARDS: each row of YtpmnepalchgcbaaDoorRows.lean that lists a variable, with what it lists TIED to the program's text (the seventh form; the later family's looks); each row that meets fmt, with fmt's text TOLD by the authors' own Lean function (tested against real Go, not proved from fmt's source: count such statements apart). THE CARD IS WHAT COUNTS. Prove the row's statement (the work); the ties are given (YtpmnepalchgcbaaDoorTie.lean); close each card by the builder's one call (the guide's Derived/Test/ToyasCard.lean, 'card_holds'). Laid BY PROGRAM, IN A SANDBOX (cutbox-door.mjs). By AI agents, Wed Nov 11 2026. No macro, syntax, notation, axiom, sorry.
-/
import Derived.Test.YtpmnepalchgcbaaDoorRows
import GoSem.ClaimSeven
namespace Go.Proofs.YtpmnepalchgcbaaDoor
namespace Rows

/-- THE TIED CARD OF 'laws.FnExactSnapshot'. -/
def fnExactSnapshotCard : Claim7 := { stood := { row := fnExactSnapshotRow, standIns := [], harness := (true, "5aae0642c922a4a2cd56b1f0237b5743a84ab57a9eda88a6c8b169c6b1cb8d41"), looks := false }, kinds := [], alts := [], laidByText := true, laidKinds := [.data, .data, .data], laidTests := true, laidLooks := .later }
def FnExactSnapshotCardSaid : Prop := Claim7.holds Tryd.pinned (.plain (OpenSpec.ofChange fnExactSnapshotSpec)) fnExactSnapshotCard

/-- THE SECOND FORM's CARD OF 'laws.FnExactSnapshot'. -/
def fnExactSnapshotUptoCard : Claim7 := { stood := { row := fnExactSnapshotUptoRow, standIns := [], harness := (true, "5aae0642c922a4a2cd56b1f0237b5743a84ab57a9eda88a6c8b169c6b1cb8d41"), looks := false }, kinds := [], alts := [], laidByText := true, laidKinds := [.data, .data, .data], laidTests := true, laidLooks := .later }
def FnExactSnapshotUptoCardSaid : Prop := Claim7.holds Tryd.pinned (.plain (OpenSpec.upto fnExactSnapshotSpec)) fnExactSnapshotUptoCard
end Rows
end Go.Proofs.YtpmnepalchgcbaaDoor
