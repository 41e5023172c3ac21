import Derived.Test.YtjpdgcodjnnljaaCrashPure
import Derived.BigQuiet
import Derived.Deep.RegionHeld3
namespace Go.Proofs.Ytjpdgcodjnnljaa.Msg
open Go.ChangeShapes Go.WideShapes Go.ChangeAt Go.RowKit
set_option linter.unusedVariables false
set_option linter.unusedSimpArgs false

/-! a list of numbers, read -/
def IntR (_ : Nat) (w : World) (b off : Nat) (x : Int) : Prop := w.cell? ⟨b, off, none⟩ = some (.int .i64 x)
def IntsAt : Nat → World → Value → List Int → Prop := At 1 IntR
theorem kept_int : Kept IntR := fun lo w w' b off x h h1 h2 hb => by unfold IntR at *; rw [hb.cell h1 h2]; exact h
theorem ints_form {lo : Nat} {w : World} {v : Value} {xs : List Int} (h : IntsAt lo w v xs) : ∃ a cap, v = .slice a xs.length cap ∧ ∀ i (hi : i < xs.length), ∃ b off, a = some ⟨b, off, none⟩ ∧ b < w.heap.size ∧ w.cell? ⟨b, off + i, none⟩ = some (.int .i64 xs[i]) := by
  obtain ⟨hl, h⟩ := h
  rcases h with ⟨a, cap, rfl, rfl⟩ | ⟨b, off, cap, rfl, hlt, h⟩
  · exact ⟨a, cap, rfl, fun i hi => absurd hi (by simp)⟩
  · exact ⟨_, cap, rfl, fun i hi => ⟨b, off, rfl, hlt.2, by have := h i hi; unfold IntR at this; simpa using this⟩⟩

def okD (S N : ByteArray) : Bool := decide (S.size ≤ N.size) && ((N.extract 0 S.size).toList == S.toList)

set_option maxHeartbeats 1000000 in
theorem sectorEnd_any (b : Nat) (w : World) (hb : b ≤ 1048576) :
    Calls Try.prog 57 #[.int .i64 (b : Int)] w fun e w' => e = .returned (.int .i64 ((b - b % 32 + 32 : Nat) : Int)) ∧ w' = w := by
  have h1 : (b : Int).tmod 32 = ((b % 32 : Nat) : Int) := by rw [Int.tmod_eq_emod_of_nonneg (by omega)]; omega
  go_enter Try.func57, Try.ntmps57
  go_wp2_with fail
  go_ret
  exact ⟨ret_int (by omega), rfl⟩

set_option maxHeartbeats 1000000 in
theorem at_any (xs : List Int) (v : Value) (j : Nat) (w : World) {lo : Nat} (hv : IntsAt lo w v xs) (hj : j ≤ 1048576) :
    Calls Try.prog 58 #[v, .int .i64 (j : Int)] w fun e w' => e = .returned (.int .i64 (xs.getD j 0)) ∧ w' = w := by
  have hl := hv.1
  obtain ⟨a, cap, rfl, hc⟩ := ints_form hv
  by_cases hlt : j < xs.length
  · obtain ⟨b, off, rfl, hbl, hcell⟩ := hc j hlt
    have HG : Hid (xs.getD j 0 = xs[j]) := by rw [List.getD_eq_getElem?_getD, List.getElem?_eq_getElem hlt]; exact rfl
    have hji : (j : Int) < (xs.length : Int) := by omega
    have hj0 : ¬ (j : Int) < 0 := by omega
    have hge : ¬ (xs.length : Int) ≤ (j : Int) := by omega
    clear hc hv
    go_enter Try.func58, Try.ntmps58
    go_wp2_with fail
    go_ret
    exact ⟨rfl, rfl⟩
  · have HG : Hid (xs.getD j 0 = 0) := by rw [List.getD_eq_getElem?_getD, List.getElem?_eq_none (by omega)]; exact rfl
    have hj0 : ¬ (j : Int) < 0 := by omega
    have hge : (xs.length : Int) ≤ (j : Int) := by omega
    clear hc hv
    go_enter Try.func58, Try.ntmps58
    go_wp2_with fail
    go_ret
    exact ⟨rfl, rfl⟩

set_option maxHeartbeats 1000000 in
theorem kept_any (f i : Nat) (xs : List Int) (v : Value) (w : World) {lo : Nat} (hv : IntsAt lo w v xs) (hf : f ≤ i) (hi : i ≤ 1048576) :
    Calls Try.prog 90 #[.int .i64 (f : Int), v, .int .i64 (i : Int)] w fun e w' => e = .returned (.bool (keptB f xs i)) ∧ w' = w := by
  have hl := hv.1
  obtain ⟨a, cap, rfl, hc⟩ := ints_form hv
  obtain ⟨q, hq⟩ : ∃ q, i / 32 = q := ⟨_, rfl⟩
  obtain ⟨r, hr⟩ : ∃ r, f / 32 = r := ⟨_, rfl⟩
  have e1 : (i : Int) / 32 = (q : Int) := by omega
  have e2 : (f : Int) / 32 = (r : Int) := by omega
  have d1 : (i : Int).tdiv 32 = (q : Int) := by rw [Int.tdiv_eq_ediv_of_nonneg (by omega)]; exact e1
  have d2 : (f : Int).tdiv 32 = (r : Int) := by rw [Int.tdiv_eq_ediv_of_nonneg (by omega)]; exact e2
  have hd : f / 32 ≤ i / 32 := Nat.div_le_div_right hf
  obtain ⟨j, hj⟩ : ∃ j, i / 32 - f / 32 = j := ⟨_, rfl⟩
  have hjj : (q : Int) - (r : Int) = (j : Int) := by omega
  have hj6 : j ≤ 1048576 := by omega
  by_cases hlt : j < xs.length
  · obtain ⟨b, off, rfl, hbl, hcell⟩ := hc j hlt
    have HG : Hid (keptB f xs i = decide (((i - max (i / 32 * 32) f : Nat) : Int) < xs[j])) := by
      unfold keptB
      rw [hj, List.getD_eq_getElem?_getD, List.getElem?_eq_getElem hlt]
      exact rfl
    have hji : (j : Int) < (xs.length : Int) := by omega
    have hge : ¬ (xs.length : Int) ≤ (j : Int) := by omega
    obtain ⟨m, hmq⟩ : ∃ m, i / 32 * 32 = m := ⟨_, rfl⟩
    have hm : (q : Int) * 32 = (m : Int) := by omega
    have hmi : m ≤ i := by omega
    rw [hmq] at HG
    clear hc hv hj hmq hq hr hd
    by_cases hbf : (m : Int) < (f : Int)
    · have HM : Hid (((i - max m f : Nat) : Int) = (i : Int) - (f : Int)) := by show _ = _; omega
      go_enter Try.func90, Try.ntmps90
      go_wp2_with fail
      go_ret
      exact ⟨ret_bool (by rw [HG.out, HM.out]), rfl⟩
    · have HM : Hid (((i - max m f : Nat) : Int) = (i : Int) - (m : Int)) := by show _ = _; omega
      go_enter Try.func90, Try.ntmps90
      go_wp2_with fail
      go_ret
      exact ⟨ret_bool (by rw [HG.out, HM.out]), rfl⟩
  · have HG : Hid (keptB f xs i = false) := by
      unfold keptB
      rw [hj, List.getD_eq_getElem?_getD, List.getElem?_eq_none (by omega)]
      exact decide_eq_false (by simp)
    have hge : (xs.length : Int) ≤ (j : Int) := by omega
    clear hc hv hj hq hr hd
    go_enter Try.func90, Try.ntmps90
    go_wp2_with fail
    go_ret
    exact ⟨ret_bool HG.out.symm, rfl⟩
end Go.Proofs.Ytjpdgcodjnnljaa.Msg
