import Derived.Test.YtcphfhfockjljaaDoorParseCutwithMsgTo2withMarkText
namespace Go.Proofs.YtcphfhfockjljaaDoor.Msg
open Go.ChangeShapes Go.WideShapes Go.ChangeAt Go.RowKit
set_option linter.unusedVariables false
set_option linter.unusedSimpArgs false

/-- the lists that a field, a segment, a message hold are short -/
def FieldFits (x : Field) : Prop := x.length ≤ 1048576 ∧ ∀ i (h : i < x.length), x[i].length ≤ 1048576
def FieldsFit (x : List Field) : Prop := x.length ≤ 1048576 ∧ ∀ i (h : i < x.length), FieldFits x[i]
def MsgFits (x : List Seg) : Prop := x.length ≤ 1048576 ∧ ∀ i (h : i < x.length), FieldsFit x[i].fields

theorem fields_of_filling {w w1 : World} {t : TypeId} {xs : List Field} {cap : Nat} (hl : xs.length ≤ 9223372036854775807) (h : Filling RepsAt w t xs xs.length w1) :
    FieldsAt w.heap.size w1 (.slice (some ⟨w.heap.size, 0, none⟩) xs.length cap) xs := by
  obtain ⟨⟨f, hrow, hel⟩, hb⟩ := h
  exact ⟨hl, .inr ⟨_, 0, cap, rfl, ⟨Nat.le_refl _, hrow.lt⟩, fun i hi => ⟨f i, by have := hrow.cell hi; simpa using this, At.mono mono_rep (hel i hi hi) (by omega)⟩⟩⟩

theorem info_Field : (Tryd.prog.info? 47).map (fun i => (i.zero, i.size, i.bytes)) = some (some (.agg #[.slice none 0 0]), 1, 24) := by kernel_rfl

end Go.Proofs.YtcphfhfockjljaaDoor.Msg
