/-
  DERIVED. GIVEN WITH THE SEED: THE CARDS: each row of YtebdfmijlnkcbaaDoorRows.lean that lists a variable, with what it lists TIED to the program's text (the seventh form; the later family's looks); each row that meets fmt, with fmt's text TOLD by the authors' own Lean function (tested against real Go, not proved from fmt's source: count such statements apart). THE CARD IS WHAT COUNTS. Prove the row's statement (the work); the ties are given (YtebdfmijlnkcbaaDoorTie.lean); close each card by the builder's one call (the guide's Derived/Test/ToyasCard.lean, 'card_holds'). Laid BY PROGRAM, IN A SANDBOX (cutbox-door.mjs). By AI agents, Wed Nov 11 2026. No macro, syntax, notation, axiom, sorry.
-/
import Derived.Test.YtebdfmijlnkcbaaDoorRows
import GoSem.ClaimSeven
namespace Go.Proofs.YtebdfmijlnkcbaaDoor
namespace Rows

/-- THE TIED CARD OF 'laws.FnExactDecodeChange'. -/
def fnExactDecodeChangeCard : Claim7 := { stood := { row := fnExactDecodeChangeRow, standIns := [], harness := (true, "7b3b5b1ad5049d11a1c1d92fd0f12e27da4669cb355d558b3262a4f21258166a"), looks := true }, kinds := [], alts := [], laidByText := true, laidKinds := [.data, .data, .data, .data, .sentinel, .sentinel, .pinned], laidTests := true, laidLooks := .later }
def FnExactDecodeChangeCardSaid : Prop := Claim7.holds Tryd.pinned (.plain (OpenSpec.ofChange fnExactDecodeChangeSpec)) fnExactDecodeChangeCard

/-- THE SECOND FORM's CARD OF 'laws.FnExactDecodeChange'. -/
def fnExactDecodeChangeUptoCard : Claim7 := { stood := { row := fnExactDecodeChangeUptoRow, standIns := [], harness := (true, "7b3b5b1ad5049d11a1c1d92fd0f12e27da4669cb355d558b3262a4f21258166a"), looks := true }, kinds := [], alts := [], laidByText := true, laidKinds := [.data, .data, .data, .data, .sentinel, .sentinel, .pinned], laidTests := true, laidLooks := .later }
def FnExactDecodeChangeUptoCardSaid : Prop := Claim7.holds Tryd.pinned (.plain (OpenSpec.upto fnExactDecodeChangeSpec)) fnExactDecodeChangeUptoCard
end Rows
end Go.Proofs.YtebdfmijlnkcbaaDoor
