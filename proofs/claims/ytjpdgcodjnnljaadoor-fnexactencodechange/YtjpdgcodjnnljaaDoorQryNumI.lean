import Derived.Test.YtjpdgcodjnnljaaDoorQryRead
import Derived.Test.YtjpdgcodjnnljaaDoorShelf
import Derived.WalkSmall
import Derived.Lib.AtoiErrMem
import Derived.Lib.AppendIntMem
namespace Go.Proofs.YtjpdgcodjnnljaaDoor.Msg
open Go.ChangeShapes Go.WideShapes Go.ChangeAt Go.RowKit
set_option linter.unusedVariables false
set_option linter.unusedSimpArgs false

theorem lt_of_cell {w : World} {b o : Nat} {v : Value} (h : w.cell? ⟨b, o, none⟩ = some v) : b < w.heap.size := by
  rcases Nat.lt_or_ge b w.heap.size with h' | h'
  · exact h'
  · simp [World.cell?, Array.getElem?_eq_none h'] at h
theorem tabG : Tryd.prog.globalNamed "internal/strconv.uint64pow10" = some 0 := by kernel_rfl
theorem tab_kept {w w' : World} (h : Below w.heap.size w w') (hv : Lib.TabIs Tryd.prog w "internal/strconv.uint64pow10" .u64 Lib.pow10Tab) : Lib.TabIs Tryd.prog w' "internal/strconv.uint64pow10" .u64 Lib.pow10Tab := by
  have hc : w.cell? ⟨0, 0, none⟩ = some (.int .u64 1) := by simpa [Lib.pow10Tab] using World.var?_cell tabG hv 0
  exact var?_below h tabG (lt_of_cell hc) hv
theorem itoaT (v : Int) (s : ByteArray) : ((⟨(Lib.itoa v).toArray⟩ : ByteArray).toList == s.toList) = (Lib.itoa v == s.data.toList) := by
  rw [ByteArray.toList_eq, ByteArray.toList_eq]

end Go.Proofs.YtjpdgcodjnnljaaDoor.Msg
