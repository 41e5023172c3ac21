/-
  DERIVED. GIVEN WITH THE SEED: THE CARDS: each row of YtfeccdhadgpnkaaDoorRows.lean that lists a variable, with what it lists TIED to the program's text (the seventh form; the later family's looks); each row that meets fmt, with fmt's text TOLD by the authors' own Lean function (tested against real Go, not proved from fmt's source: count such statements apart). THE CARD IS WHAT COUNTS. Prove the row's statement (the work); the ties are given (YtfeccdhadgpnkaaDoorTie.lean); close each card by the builder's one call (the guide's Derived/Test/ToyasCard.lean, 'card_holds'). Laid BY PROGRAM, IN A SANDBOX (cutbox-door.mjs). By AI agents, Wed Nov 11 2026. No macro, syntax, notation, axiom, sorry.
-/
import Derived.Test.YtfeccdhadgpnkaaDoorRows
import GoSem.ClaimSeven
namespace Go.Proofs.YtfeccdhadgpnkaaDoor
namespace Rows

/-- THE TIED CARD OF 'laws.FnExactAsk'. -/
def fnExactAskCard : Claim7 := { stood := { row := fnExactAskRow, standIns := [], harness := (true, "64a7b39a226c26413a3c30e9f2b57c5d793d6d984fbb0756e502a13625f0dc12"), looks := false }, kinds := [], alts := [], laidByText := true, laidKinds := [.data, .data, .data], laidTests := true, laidLooks := .later }
def FnExactAskCardSaid : Prop := Claim7.holds Tryd.pinned (.plain (OpenSpec.ofChange fnExactAskSpec)) fnExactAskCard

/-- THE TIED CARD OF 'laws.FnExactAnswer'. -/
def fnExactAnswerCard : Claim7 := { stood := { row := fnExactAnswerRow, standIns := [], harness := (true, "64a7b39a226c26413a3c30e9f2b57c5d793d6d984fbb0756e502a13625f0dc12"), looks := false }, kinds := [], alts := [], laidByText := true, laidKinds := [.data, .data, .data], laidTests := true, laidLooks := .later }
def FnExactAnswerCardSaid : Prop := Claim7.holds Tryd.pinned (.plain (OpenSpec.ofChange fnExactAnswerSpec)) fnExactAnswerCard

/-- THE TIED CARD OF 'laws.FnExactExpire'. -/
def fnExactExpireCard : Claim7 := { stood := { row := fnExactExpireRow, standIns := [], harness := (true, "64a7b39a226c26413a3c30e9f2b57c5d793d6d984fbb0756e502a13625f0dc12"), looks := false }, kinds := [], alts := [], laidByText := true, laidKinds := [.data, .data, .data], laidTests := true, laidLooks := .later }
def FnExactExpireCardSaid : Prop := Claim7.holds Tryd.pinned (.plain (OpenSpec.ofChange fnExactExpireSpec)) fnExactExpireCard

/-- THE TIED CARD OF 'laws.FnExactForget'. -/
def fnExactForgetCard : Claim7 := { stood := { row := fnExactForgetRow, standIns := [], harness := (true, "64a7b39a226c26413a3c30e9f2b57c5d793d6d984fbb0756e502a13625f0dc12"), looks := false }, kinds := [], alts := [], laidByText := true, laidKinds := [.data, .data, .data], laidTests := true, laidLooks := .later }
def FnExactForgetCardSaid : Prop := Claim7.holds Tryd.pinned (.plain (OpenSpec.ofChange fnExactForgetSpec)) fnExactForgetCard

/-- THE SECOND FORM's CARD OF 'laws.FnExactAsk'. -/
def fnExactAskUptoCard : Claim7 := { stood := { row := fnExactAskUptoRow, standIns := [], harness := (true, "64a7b39a226c26413a3c30e9f2b57c5d793d6d984fbb0756e502a13625f0dc12"), looks := false }, kinds := [], alts := [], laidByText := true, laidKinds := [.data, .data, .data], laidTests := true, laidLooks := .later }
def FnExactAskUptoCardSaid : Prop := Claim7.holds Tryd.pinned (.plain (OpenSpec.upto fnExactAskSpec)) fnExactAskUptoCard

/-- THE SECOND FORM's CARD OF 'laws.FnExactAnswer'. -/
def fnExactAnswerUptoCard : Claim7 := { stood := { row := fnExactAnswerUptoRow, standIns := [], harness := (true, "64a7b39a226c26413a3c30e9f2b57c5d793d6d984fbb0756e502a13625f0dc12"), looks := false }, kinds := [], alts := [], laidByText := true, laidKinds := [.data, .data, .data], laidTests := true, laidLooks := .later }
def FnExactAnswerUptoCardSaid : Prop := Claim7.holds Tryd.pinned (.plain (OpenSpec.upto fnExactAnswerSpec)) fnExactAnswerUptoCard

/-- THE SECOND FORM's CARD OF 'laws.FnExactExpire'. -/
def fnExactExpireUptoCard : Claim7 := { stood := { row := fnExactExpireUptoRow, standIns := [], harness := (true, "64a7b39a226c26413a3c30e9f2b57c5d793d6d984fbb0756e502a13625f0dc12"), looks := false }, kinds := [], alts := [], laidByText := true, laidKinds := [.data, .data, .data], laidTests := true, laidLooks := .later }
def FnExactExpireUptoCardSaid : Prop := Claim7.holds Tryd.pinned (.plain (OpenSpec.upto fnExactExpireSpec)) fnExactExpireUptoCard

/-- THE SECOND FORM's CARD OF 'laws.FnExactForget'. -/
def fnExactForgetUptoCard : Claim7 := { stood := { row := fnExactForgetUptoRow, standIns := [], harness := (true, "64a7b39a226c26413a3c30e9f2b57c5d793d6d984fbb0756e502a13625f0dc12"), looks := false }, kinds := [], alts := [], laidByText := true, laidKinds := [.data, .data, .data], laidTests := true, laidLooks := .later }
def FnExactForgetUptoCardSaid : Prop := Claim7.holds Tryd.pinned (.plain (OpenSpec.upto fnExactForgetSpec)) fnExactForgetUptoCard
end Rows
end Go.Proofs.YtfeccdhadgpnkaaDoor
