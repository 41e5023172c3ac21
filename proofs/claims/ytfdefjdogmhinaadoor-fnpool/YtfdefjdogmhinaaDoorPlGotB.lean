import Derived.Test.YtfdefjdogmhinaaDoorPlGot
namespace Go.Proofs.YtfdefjdogmhinaaDoor.Msg
open Go.ChangeShapes Go.WideShapes Go.ChangeAt Go.RowKit
set_option linter.unusedVariables false
set_option linter.unusedSimpArgs false
/-! the two regions of the law's code at Answer -/
def cT : Code → Code
  | .cond _ a _ => a
  | c => c
def cE : Code → Code
  | .cond _ _ b => b
  | c => c
def CB5 (f : Code) : Code := cT (cSR (cE (C95 f)))
def R40 (f : Code) : Code := cSL (cSR (cSR (CB5 f)))
def R41 (f : Code) : Code := cSL (cSR (cSR (cSR (CB5 f))))
theorem Box.new1 (w : World) (o : Obj) (t : TypeId) (cs : Array Value) : Box ((w.alloc o).alloc (.cells cs t)) (w.heap.size + 1) t cs := by
  have := Box.new (w.alloc o) t cs
  rw [Deep.nblk_alloc] at this
  exact this
end Go.Proofs.YtfdefjdogmhinaaDoor.Msg
