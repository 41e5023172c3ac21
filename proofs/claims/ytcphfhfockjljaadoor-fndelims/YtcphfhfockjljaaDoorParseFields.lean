import Derived.Test.YtcphfhfockjljaaDoorParseReps
import Derived.Test.YtcphfhfockjljaaDoorMsgTo3
import Derived.Deep.RegionHeld3
namespace Go.Proofs.YtcphfhfockjljaaDoor.Msg
open Go.ChangeShapes Go.WideShapes Go.ChangeAt Go.RowKit
set_option linter.unusedVariables false
set_option linter.unusedSimpArgs false

/-- the fields of what stands behind a name -/
def fieldsL (c0 c1 c2 : UInt8) : List UInt8 → List (List (List (List UInt8)))
  | [] => []
  | _ :: l => trimE List.isEmpty ((cutL c0 l).map (repsL c1 c2))
def fieldT (f : List (List (List UInt8))) : Field := f.map repT

theorem extract_tail (s : ByteArray) : s.extract 1 s.size = txt s.data.toList.tail := by
  rw [txt_extract]
  have : s.data.toList.take s.size = s.data.toList := by rw [List.take_of_length_le (by simp)]
  rw [this]
  congr 1
  simp

end Go.Proofs.YtcphfhfockjljaaDoor.Msg
