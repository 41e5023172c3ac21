import Derived.Test.YtfdefjdogmhinaaDoorMarkDatawithFlatKit
import Derived.Test.YtfdefjdogmhinaaDoorMsgTowithMarkStr
import Derived.Deep.RegionHeld3
import Derived.Test.YtfdefjdogmhinaaDoorMsgEqwithMsgEq2
namespace Go.Proofs.YtfdefjdogmhinaaDoor.Msg
open Go.ChangeShapes Go.WideShapes Go.ChangeAt Go.RowKit
set_option linter.unusedVariables false
set_option linter.unusedSimpArgs false

/-- a run of cells that may be written -/
def Cells (w : World) (b off m : Nat) (g : Nat → Value) : Prop := ∀ i, i < m → w.cell? ⟨b, off + i, none⟩ = some (g i) ∧ w.frozen? ⟨b, off + i, none⟩ = false
theorem Cells.get {w : World} {b off m : Nat} {g : Nat → Value} (h : Cells w b off m g) (p q : Nat) (hi : p + q < m) : w.cell? ⟨b, off + p + q, none⟩ = some (g (p + q)) ∧ w.frozen? ⟨b, off + p + q, none⟩ = false := by
  rw [Nat.add_assoc]
  exact h _ hi
theorem Cells.set {w : World} {b off m : Nat} {g : Nat → Value} (h : Cells w b off m g) {p q : Nat} (hi : p + q < m) (v : Value) : Cells (w.setCell ⟨b, off + p + q, none⟩ v) b off m (fun x => if x = p + q then v else g x) := by
  intro i him
  obtain ⟨h1, h2⟩ := h i him
  refine ⟨?_, by rw [World.frozen?_setCell]; exact h2⟩
  by_cases e : i = p + q
  · subst e
    simp only [if_true]
    rw [← Nat.add_assoc] at h1 ⊢
    rw [World.cell?_setCell_same _ _ _ h1]
  · simp only [if_neg e]
    rw [World.cell?_setCell_other _ _ _ _ (by intro h; injection h with _ h2 _; omega), h1]
theorem Cells.set0 {w : World} {b off m : Nat} {g : Nat → Value} (h : Cells w b off m g) {p : Nat} (hi : p < m) (v : Value) : Cells (w.setCell ⟨b, off + p, none⟩ v) b off m (fun x => if x = p then v else g x) :=
  h.set (p := p) (q := 0) hi v
theorem Cells.below {w w' : World} {b off m : Nat} {g : Nat → Value} (h : Cells w b off m g) (hb : Below w.heap.size w w') (hlt : b < w.heap.size) : Cells w' b off m g := fun i hi =>
  ⟨by rw [hb.cell (p := ⟨b, off + i, none⟩) hlt]; exact (h i hi).1, by rw [hb.frozen (p := ⟨b, off + i, none⟩) hlt]; exact (h i hi).2⟩
theorem Cells.congr {w : World} {b off m : Nat} {g f : Nat → Value} (h : Cells w b off m g) (hg : ∀ i, i < m → g i = f i) : Cells w b off m f := fun i hi => ⟨by rw [← hg i hi]; exact (h i hi).1, (h i hi).2⟩
theorem bool_same {a b : Bool} (h : a = b) : Value.bool a = .bool b := by rw [h]
theorem int_same {a b : Int} (h : a = b) : Value.int .i64 a = .int .i64 b := by rw [h]

def mvWant (k i : Nat) : Value :=
  if i % 4 = 0 then .int .i64 ((k + i : Nat) : Int) else if i % 4 = 1 then .string (markT (k + i)) else if i % 4 = 2 then .string (markT (k + i)) else .string (markT (k + i))
theorem mvWant_0 (k j : Nat) : mvWant k (j * 4 + 0) = .int .i64 ((k + (j * 4 + 0) : Nat) : Int) := by
  unfold mvWant
  rw [if_pos (by omega)]
theorem mvWant_1 (k j : Nat) : mvWant k (j * 4 + 1) = .string (markT (k + (j * 4 + 1))) := by
  unfold mvWant
  rw [if_neg (by omega), if_pos (by omega)]
theorem mvWant_2 (k j : Nat) : mvWant k (j * 4 + 2) = .string (markT (k + (j * 4 + 2))) := by
  unfold mvWant
  rw [if_neg (by omega), if_neg (by omega), if_pos (by omega)]
theorem mvWant_3 (k j : Nat) : mvWant k (j * 4 + 3) = .string (markT (k + (j * 4 + 3))) := by
  unfold mvWant
  rw [if_neg (by omega), if_neg (by omega), if_neg (by omega)]
end Go.Proofs.YtfdefjdogmhinaaDoor.Msg

namespace Go.Proofs.YtfdefjdogmhinaaDoor.Msg
open Go.ChangeShapes Go.WideShapes Go.ChangeAt Go.RowKit
set_option linter.unusedVariables false
set_option linter.unusedSimpArgs false


def mvConn (k i : Nat) : Value :=
  if i % 7 = 0 then .bool (decide (((k + i : Nat) : Int) % 3 = 0)) else if i % 7 = 1 then .string (markT (k + i)) else if i % 7 = 2 then .int .i64 ((k + i : Nat) : Int) else if i % 7 = 3 then .string (markT (k + i)) else if i % 7 = 4 then .string (markT (k + i)) else if i % 7 = 5 then .string (markT (k + i)) else .int .i64 ((k + i : Nat) : Int)
theorem mvConn_0 (k j : Nat) : mvConn k (j * 7 + 0) = .bool (decide (((k + (j * 7 + 0) : Nat) : Int) % 3 = 0)) := by
  unfold mvConn
  rw [if_pos (by omega)]
theorem mvConn_1 (k j : Nat) : mvConn k (j * 7 + 1) = .string (markT (k + (j * 7 + 1))) := by
  unfold mvConn
  rw [if_neg (by omega), if_pos (by omega)]
theorem mvConn_2 (k j : Nat) : mvConn k (j * 7 + 2) = .int .i64 ((k + (j * 7 + 2) : Nat) : Int) := by
  unfold mvConn
  rw [if_neg (by omega), if_neg (by omega), if_pos (by omega)]
theorem mvConn_3 (k j : Nat) : mvConn k (j * 7 + 3) = .string (markT (k + (j * 7 + 3))) := by
  unfold mvConn
  rw [if_neg (by omega), if_neg (by omega), if_neg (by omega), if_pos (by omega)]
theorem mvConn_4 (k j : Nat) : mvConn k (j * 7 + 4) = .string (markT (k + (j * 7 + 4))) := by
  unfold mvConn
  rw [if_neg (by omega), if_neg (by omega), if_neg (by omega), if_neg (by omega), if_pos (by omega)]
theorem mvConn_5 (k j : Nat) : mvConn k (j * 7 + 5) = .string (markT (k + (j * 7 + 5))) := by
  unfold mvConn
  rw [if_neg (by omega), if_neg (by omega), if_neg (by omega), if_neg (by omega), if_neg (by omega), if_pos (by omega)]
theorem mvConn_6 (k j : Nat) : mvConn k (j * 7 + 6) = .int .i64 ((k + (j * 7 + 6) : Nat) : Int) := by
  unfold mvConn
  rw [if_neg (by omega), if_neg (by omega), if_neg (by omega), if_neg (by omega), if_neg (by omega), if_neg (by omega)]
end Go.Proofs.YtfdefjdogmhinaaDoor.Msg
