import Derived.Test.YtebdfmijlnkcbaaGreatDoorMsgTo4
namespace Go.Proofs.YtebdfmijlnkcbaaGreatDoor.Msg
open Go.ChangeShapes Go.WideShapes Go.ChangeAt Go.RowKit
set_option linter.unusedVariables false

theorem sum_ge {α : Type} (f : α → Nat) (xs : List α) (i : Nat) (h : i < xs.length) : f xs[i] ≤ sumOf f xs := by
  have h1 := sum_take f xs i h
  have h2 := sum_le f xs (i + 1)
  omega
theorem len_le {α : Type} (f : α → Nat) (xs : List α) : xs.length ≤ lenSum f xs := by unfold lenSum; omega
theorem el_le {α : Type} (f : α → Nat) (xs : List α) (i : Nat) (h : i < xs.length) : f xs[i] ≤ lenSum f xs := by have := sum_ge f xs i h; unfold lenSum; omega
theorem fits_of_sz {xs : List Seg} (h : msgSz xs ≤ 1048576) : MsgFits xs := by
  refine ⟨Nat.le_trans (len_le segSz xs) h, fun i hi => ?_⟩
  have h1 := el_le segSz xs i hi
  have h2 : lenSum fieldSz xs[i].fields ≤ segSz xs[i] := by unfold segSz; omega
  have h3 : lenSum fieldSz xs[i].fields ≤ 1048576 := by unfold msgSz at h; omega
  refine ⟨Nat.le_trans (len_le fieldSz _) h3, fun j hj => ?_⟩
  have h4 : fieldSz xs[i].fields[j] ≤ 1048576 := Nat.le_trans (el_le fieldSz xs[i].fields j hj) h3
  refine ⟨Nat.le_trans (len_le repSz xs[i].fields[j]) h4, fun k hk => ?_⟩
  have h5 : repSz xs[i].fields[j][k] ≤ 1048576 := Nat.le_trans (el_le repSz xs[i].fields[j] k hk) h4
  exact Nat.le_trans (len_le strSz xs[i].fields[j][k]) h5
end Go.Proofs.YtebdfmijlnkcbaaGreatDoor.Msg
