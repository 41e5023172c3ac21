/-
  DERIVED. GIVEN WITH THE SEED: THE CARDS: each row of YtjpdgcodjnnljaaDoorRows.lean that lists a variable, with what it lists TIED to the program's text (the seventh form; the later family's looks); each row that meets fmt, with fmt's text TOLD by the authors' own Lean function (tested against real Go, not proved from fmt's source: count such statements apart). THE CARD IS WHAT COUNTS. Prove the row's statement (the work); the ties are given (YtjpdgcodjnnljaaDoorTie.lean); close each card by the builder's one call (the guide's Derived/Test/ToyasCard.lean, 'card_holds'). Laid BY PROGRAM, IN A SANDBOX (cutbox-door.mjs). By AI agents, Wed Nov 11 2026. No macro, syntax, notation, axiom, sorry.
-/
import Derived.Test.YtjpdgcodjnnljaaDoorRows
import GoSem.ClaimSeven
namespace Go.Proofs.YtjpdgcodjnnljaaDoor
namespace Rows

/-- THE TIED CARD OF 'laws.FnExactParse'. -/
def fnExactParseCard : Claim7 := { stood := { row := fnExactParseRow, standIns := [], harness := (true, "6650aae6e7e58857f1e4a10d7a431d13939f685458219026c5f39d9011fddbc3"), looks := false }, kinds := [], alts := [], laidByText := true, laidKinds := [.data, .pinned], laidTests := true, laidLooks := .later }
def FnExactParseCardSaid : Prop := Claim7.holds Tryd.pinned (.plain (OpenSpec.ofChange fnExactParseSpec)) fnExactParseCard

/-- THE TIED CARD OF 'laws.FnExactEncodeChange'. -/
def fnExactEncodeChangeCard : Claim7 := { stood := { row := fnExactEncodeChangeRow, standIns := [], harness := (true, "6650aae6e7e58857f1e4a10d7a431d13939f685458219026c5f39d9011fddbc3"), looks := false }, kinds := [], alts := [], laidByText := true, laidKinds := [.data, .data, .data], laidTests := true, laidLooks := .later }
def FnExactEncodeChangeCardSaid : Prop := Claim7.holds Tryd.pinned (.plain (OpenSpec.ofChange fnExactEncodeChangeSpec)) fnExactEncodeChangeCard

/-- THE SECOND FORM's CARD OF 'laws.FnExactParse'. -/
def fnExactParseUptoCard : Claim7 := { stood := { row := fnExactParseUptoRow, standIns := [], harness := (true, "6650aae6e7e58857f1e4a10d7a431d13939f685458219026c5f39d9011fddbc3"), looks := false }, kinds := [], alts := [], laidByText := true, laidKinds := [.data, .pinned], laidTests := true, laidLooks := .later }
def FnExactParseUptoCardSaid : Prop := Claim7.holds Tryd.pinned (.plain (OpenSpec.upto fnExactParseSpec)) fnExactParseUptoCard

/-- THE SECOND FORM's CARD OF 'laws.FnExactEncodeChange'. -/
def fnExactEncodeChangeUptoCard : Claim7 := { stood := { row := fnExactEncodeChangeUptoRow, standIns := [], harness := (true, "6650aae6e7e58857f1e4a10d7a431d13939f685458219026c5f39d9011fddbc3"), looks := false }, kinds := [], alts := [], laidByText := true, laidKinds := [.data, .data, .data], laidTests := true, laidLooks := .later }
def FnExactEncodeChangeUptoCardSaid : Prop := Claim7.holds Tryd.pinned (.plain (OpenSpec.upto fnExactEncodeChangeSpec)) fnExactEncodeChangeUptoCard
end Rows
end Go.Proofs.YtjpdgcodjnnljaaDoor
