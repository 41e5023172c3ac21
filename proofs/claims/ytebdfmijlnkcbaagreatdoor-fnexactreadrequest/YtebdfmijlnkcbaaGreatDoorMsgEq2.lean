import Derived.Test.YtebdfmijlnkcbaaGreatDoorMsgEq
import Derived.Deep.RegionHeld3
namespace Go.Proofs.YtebdfmijlnkcbaaGreatDoor.Msg
open Go.ChangeShapes Go.WideShapes Go.ChangeAt Go.RowKit

theorem bjoin {w W c : World} (h2 : Below W.heap.size W c) (h1 : Below w.heap.size w W) : Below w.heap.size w c := h1.trans (h2.mono h1.size)

theorem hold2 {w w' : World} {b o b2 o2 : Nat} {v u : Value} (h : Below w.heap.size w w') (h1 : b < w.heap.size) (h2 : b2 < w.heap.size) (g1 : w.cell? ⟨b, o, none⟩ = some v) (g2 : w.cell? ⟨b2, o2, none⟩ = some u) :
    w'.cell? ⟨b, o, none⟩ = some v ∧ w'.cell? ⟨b2, o2, none⟩ = some u ∧ Below w.heap.size w w' :=
  ⟨by rw [h.cell (p := ⟨b, o, none⟩) h1]; exact g1, by rw [h.cell (p := ⟨b2, o2, none⟩) h2]; exact g2, h⟩

set_option maxHeartbeats 400000 in
theorem eqRep_any (x : Rep) (v u : Value) (w : World) {lo lo2 : Nat} (hv : StrsAt lo w v x) (hu : StrsAt lo2 w u x) :
    Calls Tryz.prog 61 #[.agg #[v], .agg #[u]] w fun e w' => e = .returned (.bool true) ∧ Below w.heap.size w w' := by
  have hb := ((Below.refl w.heap.size w).alloc (Nat.le_refl _) (Obj.cells #[v] 67)).alloc (by simp) (Obj.cells #[u] 67)
  have hv' := At.kept kept_str hv hb
  have hu' := At.kept kept_str hu hb
  go_enter Tryz.func61, Tryz.ntmps61
  go_wp2_with fail
  refine (eqStrs_any x v u _ hv' hu').mono ?_
  rintro e w' ⟨rfl, hb'⟩
  go_wp2_with fail
  go_ret
  exact ⟨rfl, hb.trans (hb'.mono (by simp; omega))⟩

set_option maxHeartbeats 800000 in
theorem eqReps_any (xs : List Rep) (v u : Value) (w : World) {lo lo2 : Nat} (hv : RepsAt lo w v xs) (hu : RepsAt lo2 w u xs) :
    Calls Tryz.prog 55 #[v, u] w fun e w' => e = .returned (.bool true) ∧ Below w.heap.size w w' := by
  obtain ⟨hl, hv⟩ := hv
  obtain ⟨_, hu⟩ := hu
  by_cases hx : xs = []
  · subst hx
    obtain ⟨a0, c0, rfl⟩ : ∃ a c, v = .slice a 0 c := by
      rcases hv with ⟨_, _, rfl, _⟩ | ⟨b, off, cap, rfl, _⟩
      · exact ⟨_, _, rfl⟩
      · exact ⟨_, _, rfl⟩
    obtain ⟨a1, c1, rfl⟩ : ∃ a c, u = .slice a 0 c := by
      rcases hu with ⟨_, _, rfl, _⟩ | ⟨b, off, cap, rfl, _⟩
      · exact ⟨_, _, rfl⟩
      · exact ⟨_, _, rfl⟩
    clear hv hu
    go_enter Tryz.func55, Tryz.ntmps55
    go_wp2
    go_loop [5] (fun i => i = .int .i64 0) (fun _ => 0)
    case atStart => rfl
    case round =>
      subst hrel
      go_wp2
      go_ret
      exact ⟨rfl, Below.refl _ _⟩
  · rcases hv with ⟨_, _, _, e⟩ | ⟨b, off, cap, rfl, ⟨_, hlt⟩, hc⟩
    · exact absurd e hx
    rcases hu with ⟨_, _, _, e⟩ | ⟨b2, off2, cap2, rfl, ⟨_, hlt2⟩, hc2⟩
    · exact absurd e hx
    clear hx
    go_enter Tryz.func55, Tryz.ntmps55
    go_wp2
    go_loopw [5] (fun i w1 => ∃ k : Nat, k ≤ xs.length ∧ i = .int .i64 k ∧ Below w.heap.size w w1) (fun i _ => xs.length - (intOf i).toNat)
    case atStart => exact ⟨0, Nat.zero_le _, rfl, Below.refl _ _⟩
    case round =>
      obtain ⟨k, hk, rfl, hb⟩ := hrel
      by_cases hk2 : k < xs.length
      · obtain ⟨ve, hcell, hel⟩ := hc k hk2
        obtain ⟨ue, hcell2, hel2⟩ := hc2 k hk2
        have h1 : wr.cell? ⟨b, off + k, none⟩ = some ve := by rw [hb.cell (p := ⟨b, off + k, none⟩) hlt]; simpa using hcell
        have h2 : wr.cell? ⟨b2, off2 + k, none⟩ = some ue := by rw [hb.cell (p := ⟨b2, off2 + k, none⟩) hlt2]; simpa using hcell2
        have g1 : w.cell? ⟨b, off + k, none⟩ = some ve := by simpa using hcell
        have g2 : w.cell? ⟨b2, off2 + k, none⟩ = some ue := by simpa using hcell2
        have hi : (k : Int) < (xs.length : Int) := by omega
        have hi0 : (0 : Int) ≤ (k : Int) := by omega
        have hd := hb.drew
        clear hc hc2 hcell hcell2
        go_wp2
        go_region_held3 (fun w' => w'.cell? ⟨b, off + k, none⟩ = some ve ∧ w'.cell? ⟨b2, off2 + k, none⟩ = some ue ∧ Below w.heap.size w w')
          (first | exact hold2 hd hlt hlt2 g1 g2 | exact hold2 hb9 hlt hlt2 g1 g2)
          ((go_at_call 61; refine (eqRep_any xs[k] ve ue _ (by exact At.kept kept_str hel (by assumption)) (by exact At.kept kept_str hel2 (by assumption))).mono ?_; rintro e w2 ⟨rfl, hb2⟩; have hb9 : Below w.heap.size w w2 := bjoin hb2 (by assumption)))
        go_wp2
        go_roundw
        case rel => exact ⟨k + 1, by omega, by go_num, hb9⟩
        case measure => simp [intOf]; omega
      · go_wp2
        go_ret
        exact ⟨rfl, hb⟩
end Go.Proofs.YtebdfmijlnkcbaaGreatDoor.Msg
