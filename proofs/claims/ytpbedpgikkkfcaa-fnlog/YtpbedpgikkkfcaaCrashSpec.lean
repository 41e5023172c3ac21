import Derived.Test.YtpbedpgikkkfcaaCrashFns2
import Derived.Deep.CutBlock
import Derived.Deep.DeepCutAuto
namespace Go.Proofs.Ytpbedpgikkkfcaa.Msg
open Go.ChangeShapes Go.WideShapes Go.ChangeAt Go.RowKit
set_option linter.unusedVariables false
set_option linter.unusedSimpArgs false

theorem bj {w W c : World} (h2 : Below W.heap.size W c) (h1 : Below w.heap.size w W) : Below w.heap.size w c := h1.trans (h2.mono h1.size)
/-- what a crash leaves -/
def crash (S N : ByteArray) (ps : List Int) : ByteArray := if okD S N then ⟨(crashT S.data.toList N.data.toList ps (N.size - S.size)).toArray⟩ else ⟨#[]⟩
theorem okD_le {S N : ByteArray} (h : okD S N = true) : S.size ≤ N.size := by
  unfold okD at h
  simp only [Bool.and_eq_true, decide_eq_true_eq] at h
  exact h.1
theorem byteD (N : ByteArray) (i : Nat) (h : i < N.size) : N.data.toList.getD i 0 = N[i] := by
  rw [List.getD_eq_getElem?_getD, List.getElem?_eq_getElem (by simpa using h)]
  rfl

end Go.Proofs.Ytpbedpgikkkfcaa.Msg
