import Derived.Test.YtebdfmijlnkcbaaDoorMarkSeg
import Derived.Deep.RegionHeld3
namespace Go.Proofs.YtebdfmijlnkcbaaDoor.Msg
open Go.ChangeShapes Go.WideShapes Go.ChangeAt Go.RowKit
set_option linter.unusedVariables false
set_option linter.unusedSimpArgs false

theorem hold1 {w w' : World} {b o : Nat} {v : Value} (h : Below w.heap.size w w') (h1 : b < w.heap.size) (g1 : w.cell? ⟨b, o, none⟩ = some v) : w'.cell? ⟨b, o, none⟩ = some v ∧ Below w.heap.size w w' :=
  ⟨by rw [h.cell (p := ⟨b, o, none⟩) h1]; exact g1, h⟩

/-- the places of a marked list -/
theorem mkL_form {α : Type} {n : Nat} {R : Nat → World → Nat → Nat → α → Prop} {mk : Nat → α → α} {c : α → Nat} {d : α} {k lo : Nat} {w : World} {v : Value} {xs : List α} (h : At n R lo w v (mkL mk c d k xs)) :
    ∃ a cap, v = .slice a xs.length cap ∧ ∀ j (h : j < xs.length), ∃ b off, a = some ⟨b, off, none⟩ ∧ b < w.heap.size ∧ R lo w b (off + j * n) (mk (k + sumOf c (xs.take j)) xs[j]) := by
  obtain ⟨a, cap, rfl, hc⟩ := h.form
  refine ⟨a, cap, by rw [mkL_len], fun j hj => ?_⟩
  obtain ⟨b, off, e, _, hb, hr⟩ := hc j (by rw [mkL_len]; exact hj)
  rw [mkL_get mk c d k xs j hj] at hr
  exact ⟨b, off, e, hb, hr⟩

set_option maxHeartbeats 1000000 in
theorem heldStrs_any (xs : List ByteArray) (v : Value) (k : Nat) (w : World) (hk : 1 ≤ k) (hkb : k + cRep xs ≤ 4611686018427387904) {lo : Nat} (hv : StrsAt lo w v (mkRep k xs)) :
    Calls Tryd.prog 17 #[v, .int .i64 (k : Int)] w fun e w' => e = .returned (.int .i64 ((k + cRep xs : Nat) : Int)) ∧ Below w.heap.size w w' := by
  have hl : xs.length ≤ 9223372036854775807 := by have := hv.1; unfold mkRep at this; rw [mkL_len] at this; exact this
  have HCL := hide (cRep_len xs)
  rw [HCL.out] at hkb ⊢
  obtain ⟨a, cap, rfl, hc⟩ := mkL_form hv
  have HC : Hid (∀ j (h : j < xs.length), ∃ b off, a = some ⟨b, off, none⟩ ∧ b < w.heap.size ∧ w.cell? ⟨b, off + j, none⟩ = some (.string (markT (k + j)))) := fun j hj => by
    obtain ⟨b, off, e, hb, hr⟩ := hc j hj
    rw [one_take xs j (by omega)] at hr
    exact ⟨b, off, e, hb, by have h9 := hr.1; rw [Nat.mul_one] at h9; exact h9⟩
  clear hc hv
  go_enter Tryd.func17, Tryd.ntmps17
  go_wp2
  go_loopw [1, 5] (fun r i w1 => ∃ j : Nat, j ≤ xs.length ∧ i = .int .i64 j ∧ r = .int .i64 ((k : Int) + (j : Int)) ∧ Below w.heap.size w w1) (fun _ i _ => xs.length - (intOf i).toNat)
  case atStart => exact ⟨0, Nat.zero_le _, rfl, by simp, Below.refl _ _⟩
  case round =>
    obtain ⟨j, hj, rfl, rfl, hb⟩ := hrel
    by_cases hj2 : j < xs.length
    · obtain ⟨b, off, rfl, hbl, hcell⟩ := HC.out j hj2
      have h1 : wr.cell? ⟨b, off + j, none⟩ = some (.string (markT (k + j))) := by rw [hb.cell (p := ⟨b, off + j, none⟩) hbl]; exact hcell
      have hi : (j : Int) < (xs.length : Int) := by omega
      have hi0 : (0 : Int) ≤ (j : Int) := by omega
      have hd := hb.drew
      have ecast : ((k : Int) + (j : Int)) = ((k + j : Nat) : Int) := by omega
      have HEC := hide ecast
      clear ecast
      go_wp2
      go_region_held3 (fun w' => w'.cell? ⟨b, off + j, none⟩ = some (.string (markT (k + j))) ∧ Below w.heap.size w w')
        (first | exact hold1 hd hbl hcell | exact hold1 hb9 hbl hcell)
        ((go_at_call 27; rw [HEC.out]; refine (markText_any (k + j) _ (by omega) (by omega)).mono ?_; rintro e w2 ⟨rfl, hb2⟩; have hb9 : Below w.heap.size w w2 := bjoin hb2 (by assumption)))
      go_wp2
      go_roundw
      case rel => exact ⟨j + 1, by omega, by go_num, by go_num, hb9⟩
      case measure => simp [intOf]; omega
    · obtain rfl : j = xs.length := by omega
      go_wp2
      go_ret
      exact ⟨ret_int (by omega), hb⟩

end Go.Proofs.YtebdfmijlnkcbaaDoor.Msg
