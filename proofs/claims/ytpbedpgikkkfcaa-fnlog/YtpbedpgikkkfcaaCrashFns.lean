import Derived.Test.YtpbedpgikkkfcaaCrashPure
import Derived.BigQuiet
import Derived.Deep.RegionHeld3
namespace Go.Proofs.Ytpbedpgikkkfcaa.Msg
open Go.ChangeShapes Go.WideShapes Go.ChangeAt Go.RowKit
set_option linter.unusedVariables false
set_option linter.unusedSimpArgs false

/-! a list of numbers, read -/
def IntR (_ : Nat) (w : World) (b off : Nat) (x : Int) : Prop := w.cell? ⟨b, off, none⟩ = some (.int .i64 x)
def IntsAt : Nat → World → Value → List Int → Prop := At 1 IntR
theorem kept_int : Kept IntR := fun lo w w' b off x h h1 h2 hb => by unfold IntR at *; rw [hb.cell h1 h2]; exact h
theorem ints_form {lo : Nat} {w : World} {v : Value} {xs : List Int} (h : IntsAt lo w v xs) : ∃ a cap, v = .slice a xs.length cap ∧ ∀ i (hi : i < xs.length), ∃ b off, a = some ⟨b, off, none⟩ ∧ b < w.heap.size ∧ w.cell? ⟨b, off + i, none⟩ = some (.int .i64 xs[i]) := by
  obtain ⟨hl, h⟩ := h
  rcases h with ⟨a, cap, rfl, rfl⟩ | ⟨b, off, cap, rfl, hlt, h⟩
  · exact ⟨a, cap, rfl, fun i hi => absurd hi (by simp)⟩
  · exact ⟨_, cap, rfl, fun i hi => ⟨b, off, rfl, hlt.2, by have := h i hi; unfold IntR at this; simpa using this⟩⟩

def okD (S N : ByteArray) : Bool := decide (S.size ≤ N.size) && ((N.extract 0 S.size).toList == S.toList)

set_option maxHeartbeats 1000000 in
theorem sectorEnd_any (b : Nat) (w : World) (hb : b ≤ 1048576) :
    Calls Try.prog 35 #[.int .i64 (b : Int)] w fun e w' => e = .returned (.int .i64 ((b - b % 32 + 32 : Nat) : Int)) ∧ w' = w := by
  have h1 : (b : Int).tmod 32 = ((b % 32 : Nat) : Int) := by rw [Int.tmod_eq_emod_of_nonneg (by omega)]; omega
  go_enter Try.func35, Try.ntmps35
  go_wp2_with fail
  go_ret
  exact ⟨ret_int (by omega), rfl⟩

set_option maxHeartbeats 1000000 in
theorem at_any (xs : List Int) (v : Value) (j : Nat) (w : World) {lo : Nat} (hv : IntsAt lo w v xs) (hj : j ≤ 1048576) :
    Calls Try.prog 36 #[v, .int .i64 (j : Int)] w fun e w' => e = .returned (.int .i64 (xs.getD j 0)) ∧ w' = w := by
  have hl := hv.1
  obtain ⟨a, cap, rfl, hc⟩ := ints_form hv
  by_cases hlt : j < xs.length
  · obtain ⟨b, off, rfl, hbl, hcell⟩ := hc j hlt
    have HG : Hid (xs.getD j 0 = xs[j]) := by rw [List.getD_eq_getElem?_getD, List.getElem?_eq_getElem hlt]; exact rfl
    have hji : (j : Int) < (xs.length : Int) := by omega
    have hj0 : ¬ (j : Int) < 0 := by omega
    have hge : ¬ (xs.length : Int) ≤ (j : Int) := by omega
    clear hc hv
    go_enter Try.func36, Try.ntmps36
    go_wp2_with fail
    go_ret
    exact ⟨rfl, rfl⟩
  · have HG : Hid (xs.getD j 0 = 0) := by rw [List.getD_eq_getElem?_getD, List.getElem?_eq_none (by omega)]; exact rfl
    have hj0 : ¬ (j : Int) < 0 := by omega
    have hge : (xs.length : Int) ≤ (j : Int) := by omega
    clear hc hv
    go_enter Try.func36, Try.ntmps36
    go_wp2_with fail
    go_ret
    exact ⟨rfl, rfl⟩

end Go.Proofs.Ytpbedpgikkkfcaa.Msg
