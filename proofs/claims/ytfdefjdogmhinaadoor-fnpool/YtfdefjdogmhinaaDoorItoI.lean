import Derived.Test.YtfdefjdogmhinaaDoorServePurewithDeskLine
import Derived.Test.YtfdefjdogmhinaaDoorShelf
import Derived.WalkSmall
import Derived.Lib.AppendIntMem
import Derived.Lib.LaidTab
namespace Go.Proofs.YtfdefjdogmhinaaDoor.Msg
open Go.ChangeShapes Go.WideShapes Go.ChangeAt Go.RowKit
set_option linter.unusedVariables false

/-- the table that strconv.Itoa reads -/
def TabP (w : World) : Prop := Lib.TabIs Tryd.prog w "internal/strconv.uint64pow10" .u64 Lib.pow10Tab
theorem tabPG : Tryd.prog.globalNamed "internal/strconv.uint64pow10" = some 0 := by kernel_rfl
theorem TabP.kept {w w' : World} (hv : TabP w) (h : Below w.heap.size w w') : TabP w' := by
  have hc : w.cell? ⟨0, 0, none⟩ = some (.int .u64 1) := by simpa [Lib.pow10Tab] using World.var?_cell tabPG hv 0
  exact var?_below h tabPG (World.block_lt_of_cell? w _ hc) hv
theorem itoP {w : World} (hT : TabP w) : Ito w.heap.size w := fun W hW u hu => by
  refine (Tryd.strconv_Itoa (u : Int) (by omega) (by omega) W (hT.kept hW)).mono fun e w' ⟨h, k, os, h2⟩ => ⟨?_, by subst h2; exact Lib.below_grow _ _ (Nat.le_refl _) _ _⟩
  rw [h]
  unfold Lib.itoa decT
  rw [if_neg (by omega)]
  rfl
end Go.Proofs.YtfdefjdogmhinaaDoor.Msg
