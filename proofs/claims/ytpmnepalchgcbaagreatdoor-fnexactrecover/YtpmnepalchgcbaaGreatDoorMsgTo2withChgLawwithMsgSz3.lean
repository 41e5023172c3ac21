import Derived.Test.YtpmnepalchgcbaaGreatDoorMsgEqwithMsgEq2withMsgTo
import Derived.Test.YtpmnepalchgcbaaGreatDoorRowsImplwithQryNumwithChgPure
import Derived.Test.YtpmnepalchgcbaaGreatDoorMsgDatawithMsgSzwithMsgSz2
namespace Go.Proofs.YtpmnepalchgcbaaGreatDoor.Msg
open Go.ChangeShapes Go.WideShapes Go.ChangeAt Go.RowKit
set_option linter.unusedVariables false
set_option linter.unusedSimpArgs false

theorem bcells {W w1 : World} (hb : Below W.heap.size W w1) : (∀ b o, b < W.heap.size → w1.cell? ⟨b, o, none⟩ = W.cell? ⟨b, o, none⟩) ∧ (∀ b o, b < W.heap.size → w1.frozen? ⟨b, o, none⟩ = W.frozen? ⟨b, o, none⟩) :=
  ⟨fun b o h => hb.cell (p := ⟨b, o, none⟩) h, fun b o h => hb.frozen (p := ⟨b, o, none⟩) h⟩

theorem Same.setCell {lo : Nat} {w w' : World} (h : Same lo w w') {b o : Nat} (hb : b < lo) (v : Value) : Same lo w (w'.setCell ⟨b, o, none⟩ v) :=
  ⟨by rw [Deep.nblk_setCell]; exact h.1, fun k h1 h2 => by rw [Deep.blk_setCell_other _ _ _ _ (by simp; omega)]; exact h.2 k h1 h2⟩
theorem Same.drew {lo : Nat} {w w' : World} (h : Same lo w w') : Same lo w w'.drew := h

/-- the state of a loop that fills a row of new elements, one cell each -/
def Filling {α : Type} (A : Nat → World → Value → α → Prop) (w : World) (t : TypeId) (xs : List α) (k : Nat) (w1 : World) : Prop :=
  (∃ f, w1.rowIs w.heap.size t xs.length f ∧ ∀ j (h : j < xs.length), j < k → A (w.heap.size + 1) w1 (f j) xs[j]) ∧ Below w.heap.size w w1

theorem filling_step {α : Type} {A : Nat → World → Value → α → Prop} (hsame : ∀ lo w w' v x, A lo w v x → Same lo w w' → A lo w' v x) (hmono : ∀ lo lo' w v x, A lo w v x → lo' ≤ lo → A lo' w v x)
    {w wr w2 : World} {t : TypeId} {xs : List α} {k : Nat} (h : Filling A w t xs k wr) (hb2 : Below wr.heap.size wr w2) (hk : k < xs.length) {u : Value} (hu : A wr.heap.size w2 u xs[k]) :
    Filling A w t xs (k + 1) (w2.setCell ⟨w.heap.size, k, none⟩ u) := by
  obtain ⟨⟨f, hrow, hel⟩, hb⟩ := h
  have hlt := hrow.lt
  have hrow2 := hrow.of_block (hb2.block _ hlt)
  refine ⟨⟨_, hrow2.set k u, fun j hj hjk => ?_⟩, (hb.trans (hb2.mono hb.size)).setCell (by simp) _⟩
  by_cases e : j = k
  · subst e
    rw [if_pos rfl]
    exact hsame _ _ _ _ _ (hmono _ (w.heap.size + 1) _ _ _ hu (by omega)) ((Same.refl _ _).setCell (by omega) _)
  · rw [if_neg e]
    have h1 := hel j hj (by omega)
    exact hsame _ _ _ _ _ (hsame _ _ _ _ _ h1 (Same.of_below hb2)) ((Same.refl _ _).setCell (by omega) _)

theorem reps_of_filling {w w1 : World} {t : TypeId} {xs : List Rep} {cap : Nat} (hl : xs.length ≤ 9223372036854775807) (h : Filling StrsAt w t xs xs.length w1) :
    RepsAt w.heap.size w1 (.slice (some ⟨w.heap.size, 0, none⟩) xs.length cap) xs := by
  obtain ⟨⟨f, hrow, hel⟩, hb⟩ := h
  exact ⟨hl, .inr ⟨_, 0, cap, rfl, ⟨Nat.le_refl _, hrow.lt⟩, fun i hi => ⟨f i, by have := hrow.cell hi; simpa using this, At.mono mono_str (hel i hi hi) (by omega)⟩⟩⟩

end Go.Proofs.YtpmnepalchgcbaaGreatDoor.Msg

namespace Go.Proofs.YtpmnepalchgcbaaGreatDoor.Msg
open Go.ChangeShapes Go.WideShapes Go.ChangeAt Go.RowKit
set_option linter.unusedVariables false
set_option linter.unusedSimpArgs false

/-! the laws' own functions over changes -/
def chgSz (c : Chg) : Nat := c.tag.size + c.query.size + repSz c.rows

def chgEqW (v u : Value) (rows : List ByteArray) (w : World) : Prop := (∃ lo, StrsAt lo w v rows) ∧ ∃ lo, StrsAt lo w u rows
end Go.Proofs.YtpmnepalchgcbaaGreatDoor.Msg

namespace Go.Proofs.YtpmnepalchgcbaaGreatDoor.Msg
open Go.ChangeShapes Go.WideShapes Go.ChangeAt Go.RowKit

end Go.Proofs.YtpmnepalchgcbaaGreatDoor.Msg
