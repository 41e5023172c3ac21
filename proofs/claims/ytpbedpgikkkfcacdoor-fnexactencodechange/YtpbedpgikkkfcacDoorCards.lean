/-
  DERIVED. GIVEN WITH THE SEED: THE CARDS: each row of YtpbedpgikkkfcacDoorRows.lean that lists a variable, with what it lists TIED to the program's text (the seventh form; the later family's looks); each row that meets fmt, with fmt's text TOLD by the authors' own Lean function (tested against real Go, not proved from fmt's source: count such statements apart). THE CARD IS WHAT COUNTS. Prove the row's statement (the work); the ties are given (YtpbedpgikkkfcacDoorTie.lean); close each card by the builder's one call (the guide's Derived/Test/ToyasCard.lean, 'card_holds'). Laid BY PROGRAM, IN A SANDBOX (cutbox-door.mjs). By AI agents, Wed Nov 11 2026. No macro, syntax, notation, axiom, sorry.
-/
import Derived.Test.YtpbedpgikkkfcacDoorRows
import GoSem.ClaimSeven
namespace Go.Proofs.YtpbedpgikkkfcacDoor
namespace Rows

/-- THE TIED CARD OF 'laws.FnExactEncodeChange'. -/
def fnExactEncodeChangeCard : Claim7 := { stood := { row := fnExactEncodeChangeRow, standIns := [], harness := (true, "5b9e4cb1161dc6f501ae3d951a9d9a965ce1a2c421a245aabcde8dc01c99bbff"), looks := true }, kinds := [], alts := [], laidByText := true, laidKinds := [.data, .data, .data], laidTests := true, laidLooks := .later }
def FnExactEncodeChangeCardSaid : Prop := Claim7.holds Tryd.pinned (.plain (OpenSpec.ofChange fnExactEncodeChangeSpec)) fnExactEncodeChangeCard

/-- THE TIED CARD OF 'laws.FnExactDecodeChange'. -/
def fnExactDecodeChangeCard : Claim7 := { stood := { row := fnExactDecodeChangeRow, standIns := [], harness := (true, "5b9e4cb1161dc6f501ae3d951a9d9a965ce1a2c421a245aabcde8dc01c99bbff"), looks := true }, kinds := [], alts := [], laidByText := true, laidKinds := [.data, .data, .data, .data, .sentinel, .sentinel, .pinned], laidTests := true, laidLooks := .later }
def FnExactDecodeChangeCardSaid : Prop := Claim7.holds Tryd.pinned (.plain (OpenSpec.ofChange fnExactDecodeChangeSpec)) fnExactDecodeChangeCard

/-- THE TIED CARD OF 'laws.FnExactSnapshot'. -/
def fnExactSnapshotCard : Claim7 := { stood := { row := fnExactSnapshotRow, standIns := [], harness := (true, "5b9e4cb1161dc6f501ae3d951a9d9a965ce1a2c421a245aabcde8dc01c99bbff"), looks := true }, kinds := [], alts := [], laidByText := true, laidKinds := [.data, .data, .data], laidTests := true, laidLooks := .later }
def FnExactSnapshotCardSaid : Prop := Claim7.holds Tryd.pinned (.plain (OpenSpec.ofChange fnExactSnapshotSpec)) fnExactSnapshotCard

/-- THE TIED CARD OF 'laws.FnExactAsk'. -/
def fnExactAskCard : Claim7 := { stood := { row := fnExactAskRow, standIns := [], harness := (true, "5b9e4cb1161dc6f501ae3d951a9d9a965ce1a2c421a245aabcde8dc01c99bbff"), looks := true }, kinds := [], alts := [], laidByText := true, laidKinds := [.data, .data, .data], laidTests := true, laidLooks := .later }
def FnExactAskCardSaid : Prop := Claim7.holds Tryd.pinned (.plain (OpenSpec.ofChange fnExactAskSpec)) fnExactAskCard

/-- THE TIED CARD OF 'laws.FnExactAnswer'. -/
def fnExactAnswerCard : Claim7 := { stood := { row := fnExactAnswerRow, standIns := [], harness := (true, "5b9e4cb1161dc6f501ae3d951a9d9a965ce1a2c421a245aabcde8dc01c99bbff"), looks := true }, kinds := [], alts := [], laidByText := true, laidKinds := [.data, .data, .data], laidTests := true, laidLooks := .later }
def FnExactAnswerCardSaid : Prop := Claim7.holds Tryd.pinned (.plain (OpenSpec.ofChange fnExactAnswerSpec)) fnExactAnswerCard

/-- THE TIED CARD OF 'laws.FnExactExpire'. -/
def fnExactExpireCard : Claim7 := { stood := { row := fnExactExpireRow, standIns := [], harness := (true, "5b9e4cb1161dc6f501ae3d951a9d9a965ce1a2c421a245aabcde8dc01c99bbff"), looks := true }, kinds := [], alts := [], laidByText := true, laidKinds := [.data, .data, .data], laidTests := true, laidLooks := .later }
def FnExactExpireCardSaid : Prop := Claim7.holds Tryd.pinned (.plain (OpenSpec.ofChange fnExactExpireSpec)) fnExactExpireCard

/-- THE TIED CARD OF 'laws.FnExactForget'. -/
def fnExactForgetCard : Claim7 := { stood := { row := fnExactForgetRow, standIns := [], harness := (true, "5b9e4cb1161dc6f501ae3d951a9d9a965ce1a2c421a245aabcde8dc01c99bbff"), looks := true }, kinds := [], alts := [], laidByText := true, laidKinds := [.data, .data, .data], laidTests := true, laidLooks := .later }
def FnExactForgetCardSaid : Prop := Claim7.holds Tryd.pinned (.plain (OpenSpec.ofChange fnExactForgetSpec)) fnExactForgetCard

/-- THE SECOND FORM's CARD OF 'laws.FnExactEncodeChange'. -/
def fnExactEncodeChangeUptoCard : Claim7 := { stood := { row := fnExactEncodeChangeUptoRow, standIns := [], harness := (true, "5b9e4cb1161dc6f501ae3d951a9d9a965ce1a2c421a245aabcde8dc01c99bbff"), looks := true }, kinds := [], alts := [], laidByText := true, laidKinds := [.data, .data, .data], laidTests := true, laidLooks := .later }
def FnExactEncodeChangeUptoCardSaid : Prop := Claim7.holds Tryd.pinned (.plain (OpenSpec.upto fnExactEncodeChangeSpec)) fnExactEncodeChangeUptoCard

/-- THE SECOND FORM's CARD OF 'laws.FnExactDecodeChange'. -/
def fnExactDecodeChangeUptoCard : Claim7 := { stood := { row := fnExactDecodeChangeUptoRow, standIns := [], harness := (true, "5b9e4cb1161dc6f501ae3d951a9d9a965ce1a2c421a245aabcde8dc01c99bbff"), looks := true }, kinds := [], alts := [], laidByText := true, laidKinds := [.data, .data, .data, .data, .sentinel, .sentinel, .pinned], laidTests := true, laidLooks := .later }
def FnExactDecodeChangeUptoCardSaid : Prop := Claim7.holds Tryd.pinned (.plain (OpenSpec.upto fnExactDecodeChangeSpec)) fnExactDecodeChangeUptoCard

/-- THE SECOND FORM's CARD OF 'laws.FnExactSnapshot'. -/
def fnExactSnapshotUptoCard : Claim7 := { stood := { row := fnExactSnapshotUptoRow, standIns := [], harness := (true, "5b9e4cb1161dc6f501ae3d951a9d9a965ce1a2c421a245aabcde8dc01c99bbff"), looks := true }, kinds := [], alts := [], laidByText := true, laidKinds := [.data, .data, .data], laidTests := true, laidLooks := .later }
def FnExactSnapshotUptoCardSaid : Prop := Claim7.holds Tryd.pinned (.plain (OpenSpec.upto fnExactSnapshotSpec)) fnExactSnapshotUptoCard

/-- THE SECOND FORM's CARD OF 'laws.FnExactAsk'. -/
def fnExactAskUptoCard : Claim7 := { stood := { row := fnExactAskUptoRow, standIns := [], harness := (true, "5b9e4cb1161dc6f501ae3d951a9d9a965ce1a2c421a245aabcde8dc01c99bbff"), looks := true }, kinds := [], alts := [], laidByText := true, laidKinds := [.data, .data, .data], laidTests := true, laidLooks := .later }
def FnExactAskUptoCardSaid : Prop := Claim7.holds Tryd.pinned (.plain (OpenSpec.upto fnExactAskSpec)) fnExactAskUptoCard

/-- THE SECOND FORM's CARD OF 'laws.FnExactAnswer'. -/
def fnExactAnswerUptoCard : Claim7 := { stood := { row := fnExactAnswerUptoRow, standIns := [], harness := (true, "5b9e4cb1161dc6f501ae3d951a9d9a965ce1a2c421a245aabcde8dc01c99bbff"), looks := true }, kinds := [], alts := [], laidByText := true, laidKinds := [.data, .data, .data], laidTests := true, laidLooks := .later }
def FnExactAnswerUptoCardSaid : Prop := Claim7.holds Tryd.pinned (.plain (OpenSpec.upto fnExactAnswerSpec)) fnExactAnswerUptoCard

/-- THE SECOND FORM's CARD OF 'laws.FnExactExpire'. -/
def fnExactExpireUptoCard : Claim7 := { stood := { row := fnExactExpireUptoRow, standIns := [], harness := (true, "5b9e4cb1161dc6f501ae3d951a9d9a965ce1a2c421a245aabcde8dc01c99bbff"), looks := true }, kinds := [], alts := [], laidByText := true, laidKinds := [.data, .data, .data], laidTests := true, laidLooks := .later }
def FnExactExpireUptoCardSaid : Prop := Claim7.holds Tryd.pinned (.plain (OpenSpec.upto fnExactExpireSpec)) fnExactExpireUptoCard

/-- THE SECOND FORM's CARD OF 'laws.FnExactForget'. -/
def fnExactForgetUptoCard : Claim7 := { stood := { row := fnExactForgetUptoRow, standIns := [], harness := (true, "5b9e4cb1161dc6f501ae3d951a9d9a965ce1a2c421a245aabcde8dc01c99bbff"), looks := true }, kinds := [], alts := [], laidByText := true, laidKinds := [.data, .data, .data], laidTests := true, laidLooks := .later }
def FnExactForgetUptoCardSaid : Prop := Claim7.holds Tryd.pinned (.plain (OpenSpec.upto fnExactForgetSpec)) fnExactForgetUptoCard
end Rows
end Go.Proofs.YtpbedpgikkkfcacDoor
