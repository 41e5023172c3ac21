/-
  DERIVED. GIVEN WITH THE SEED: THE CARDS: each row of YtlgobalcegapmacDoorRows.lean that lists a variable, with what it lists TIED to the program's text (the seventh form; the later family's looks); each row that meets fmt, with fmt's text TOLD by the authors' own Lean function (tested against real Go, not proved from fmt's source: count such statements apart). THE CARD IS WHAT COUNTS. Prove the row's statement (the work); the ties are given (YtlgobalcegapmacDoorTie.lean); close each card by the builder's one call (the guide's Derived/Test/ToyasCard.lean, 'card_holds'). Laid BY PROGRAM, IN A SANDBOX (cutbox-door.mjs). By AI agents, Wed Nov 11 2026. No macro, syntax, notation, axiom, sorry.
-/
import Derived.Test.YtlgobalcegapmacDoorRows
import GoSem.ClaimSeven
namespace Go.Proofs.YtlgobalcegapmacDoor
namespace Rows

/-- THE TIED CARD OF 'laws.FnExactEncodeChange'. -/
def fnExactEncodeChangeCard : Claim7 := { stood := { row := fnExactEncodeChangeRow, standIns := [], harness := (true, "118e5918ba4d63e08dee3acbf2bce5a06cff1905e0926954003cdb4598b38257"), looks := true }, kinds := [], alts := [], laidByText := true, laidKinds := [.data, .data, .data], laidTests := true, laidLooks := .later }
def FnExactEncodeChangeCardSaid : Prop := Claim7.holds Tryd.pinned (.plain (OpenSpec.ofChange fnExactEncodeChangeSpec)) fnExactEncodeChangeCard

/-- THE TIED CARD OF 'laws.FnExactDecodeChange'. -/
def fnExactDecodeChangeCard : Claim7 := { stood := { row := fnExactDecodeChangeRow, standIns := [], harness := (true, "118e5918ba4d63e08dee3acbf2bce5a06cff1905e0926954003cdb4598b38257"), looks := true }, kinds := [], alts := [], laidByText := true, laidKinds := [.data, .data, .data, .data, .sentinel, .sentinel, .pinned], laidTests := true, laidLooks := .later }
def FnExactDecodeChangeCardSaid : Prop := Claim7.holds Tryd.pinned (.plain (OpenSpec.ofChange fnExactDecodeChangeSpec)) fnExactDecodeChangeCard

/-- THE TIED CARD OF 'laws.FnExactSnapshot'. -/
def fnExactSnapshotCard : Claim7 := { stood := { row := fnExactSnapshotRow, standIns := [], harness := (true, "118e5918ba4d63e08dee3acbf2bce5a06cff1905e0926954003cdb4598b38257"), looks := true }, kinds := [], alts := [], laidByText := true, laidKinds := [.data, .data, .data], laidTests := true, laidLooks := .later }
def FnExactSnapshotCardSaid : Prop := Claim7.holds Tryd.pinned (.plain (OpenSpec.ofChange fnExactSnapshotSpec)) fnExactSnapshotCard

/-- THE SECOND FORM's CARD OF 'laws.FnExactEncodeChange'. -/
def fnExactEncodeChangeUptoCard : Claim7 := { stood := { row := fnExactEncodeChangeUptoRow, standIns := [], harness := (true, "118e5918ba4d63e08dee3acbf2bce5a06cff1905e0926954003cdb4598b38257"), looks := true }, kinds := [], alts := [], laidByText := true, laidKinds := [.data, .data, .data], laidTests := true, laidLooks := .later }
def FnExactEncodeChangeUptoCardSaid : Prop := Claim7.holds Tryd.pinned (.plain (OpenSpec.upto fnExactEncodeChangeSpec)) fnExactEncodeChangeUptoCard

/-- THE SECOND FORM's CARD OF 'laws.FnExactDecodeChange'. -/
def fnExactDecodeChangeUptoCard : Claim7 := { stood := { row := fnExactDecodeChangeUptoRow, standIns := [], harness := (true, "118e5918ba4d63e08dee3acbf2bce5a06cff1905e0926954003cdb4598b38257"), looks := true }, kinds := [], alts := [], laidByText := true, laidKinds := [.data, .data, .data, .data, .sentinel, .sentinel, .pinned], laidTests := true, laidLooks := .later }
def FnExactDecodeChangeUptoCardSaid : Prop := Claim7.holds Tryd.pinned (.plain (OpenSpec.upto fnExactDecodeChangeSpec)) fnExactDecodeChangeUptoCard

/-- THE SECOND FORM's CARD OF 'laws.FnExactSnapshot'. -/
def fnExactSnapshotUptoCard : Claim7 := { stood := { row := fnExactSnapshotUptoRow, standIns := [], harness := (true, "118e5918ba4d63e08dee3acbf2bce5a06cff1905e0926954003cdb4598b38257"), looks := true }, kinds := [], alts := [], laidByText := true, laidKinds := [.data, .data, .data], laidTests := true, laidLooks := .later }
def FnExactSnapshotUptoCardSaid : Prop := Claim7.holds Tryd.pinned (.plain (OpenSpec.upto fnExactSnapshotSpec)) fnExactSnapshotUptoCard
end Rows
end Go.Proofs.YtlgobalcegapmacDoor
