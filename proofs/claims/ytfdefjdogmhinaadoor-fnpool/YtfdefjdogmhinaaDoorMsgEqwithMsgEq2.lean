import Derived.Test.YtfdefjdogmhinaaDoorMsgDatawithMarkText
import Derived.Deep.QuietTactic
import Derived.BigQuiet
import Derived.Deep.RegionHeld3
namespace Go.Proofs.YtfdefjdogmhinaaDoor.Msg
open Go.ChangeShapes Go.WideShapes Go.ChangeAt Go.RowKit

theorem below_drewN {B : Nat} {a w : World} (h : Below B a w) (n : Nat) : Below B a (w.drewN n) := by
  induction n with
  | zero => exact h
  | succ n ih => exact ih.drew

end Go.Proofs.YtfdefjdogmhinaaDoor.Msg

namespace Go.Proofs.YtfdefjdogmhinaaDoor.Msg
open Go.ChangeShapes Go.WideShapes Go.ChangeAt Go.RowKit

theorem bjoin {w W c : World} (h2 : Below W.heap.size W c) (h1 : Below w.heap.size w W) : Below w.heap.size w c := h1.trans (h2.mono h1.size)

theorem hold2 {w w' : World} {b o b2 o2 : Nat} {v u : Value} (h : Below w.heap.size w w') (h1 : b < w.heap.size) (h2 : b2 < w.heap.size) (g1 : w.cell? ⟨b, o, none⟩ = some v) (g2 : w.cell? ⟨b2, o2, none⟩ = some u) :
    w'.cell? ⟨b, o, none⟩ = some v ∧ w'.cell? ⟨b2, o2, none⟩ = some u ∧ Below w.heap.size w w' :=
  ⟨by rw [h.cell (p := ⟨b, o, none⟩) h1]; exact g1, by rw [h.cell (p := ⟨b2, o2, none⟩) h2]; exact g2, h⟩

end Go.Proofs.YtfdefjdogmhinaaDoor.Msg
