import Derived.Test.YtpbedpgikkkfcabCrashPure
import Derived.BigQuiet
import Derived.Deep.RegionHeld3
namespace Go.Proofs.Ytpbedpgikkkfcab.Msg
open Go.ChangeShapes Go.WideShapes Go.ChangeAt Go.RowKit
set_option linter.unusedVariables false
set_option linter.unusedSimpArgs false

/-! a list of numbers, read -/
def IntR (_ : Nat) (w : World) (b off : Nat) (x : Int) : Prop := w.cell? ⟨b, off, none⟩ = some (.int .i64 x)
def IntsAt : Nat → World → Value → List Int → Prop := At 1 IntR
theorem kept_int : Kept IntR := fun lo w w' b off x h h1 h2 hb => by unfold IntR at *; rw [hb.cell h1 h2]; exact h
theorem ints_form {lo : Nat} {w : World} {v : Value} {xs : List Int} (h : IntsAt lo w v xs) : ∃ a cap, v = .slice a xs.length cap ∧ ∀ i (hi : i < xs.length), ∃ b off, a = some ⟨b, off, none⟩ ∧ b < w.heap.size ∧ w.cell? ⟨b, off + i, none⟩ = some (.int .i64 xs[i]) := by
  obtain ⟨hl, h⟩ := h
  rcases h with ⟨a, cap, rfl, rfl⟩ | ⟨b, off, cap, rfl, hlt, h⟩
  · exact ⟨a, cap, rfl, fun i hi => absurd hi (by simp)⟩
  · exact ⟨_, cap, rfl, fun i hi => ⟨b, off, rfl, hlt.2, by have := h i hi; unfold IntR at this; simpa using this⟩⟩

def okD (S N : ByteArray) : Bool := decide (S.size ≤ N.size) && ((N.extract 0 S.size).toList == S.toList)

end Go.Proofs.Ytpbedpgikkkfcab.Msg
