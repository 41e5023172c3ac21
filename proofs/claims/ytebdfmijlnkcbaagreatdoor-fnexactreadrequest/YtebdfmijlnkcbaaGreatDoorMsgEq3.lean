import Derived.Test.YtebdfmijlnkcbaaGreatDoorMsgEq2
namespace Go.Proofs.YtebdfmijlnkcbaaGreatDoor.Msg
open Go.ChangeShapes Go.WideShapes Go.ChangeAt Go.RowKit

set_option maxHeartbeats 400000 in
theorem eqField_any (x : Field) (v u : Value) (w : World) {lo lo2 : Nat} (hv : RepsAt lo w v x) (hu : RepsAt lo2 w u x) :
    Calls Tryz.prog 50 #[.agg #[v], .agg #[u]] w fun e w' => e = .returned (.bool true) ∧ Below w.heap.size w w' := by
  have hb := ((Below.refl w.heap.size w).alloc (Nat.le_refl _) (Obj.cells #[v] 64)).alloc (by simp) (Obj.cells #[u] 64)
  have hv' := At.kept kept_rep hv hb
  have hu' := At.kept kept_rep hu hb
  go_enter Tryz.func50, Tryz.ntmps50
  go_wp2_with fail
  refine (eqReps_any x v u _ hv' hu').mono ?_
  rintro e w' ⟨rfl, hb'⟩
  go_wp2_with fail
  go_ret
  exact ⟨rfl, hb.trans (hb'.mono (by simp; omega))⟩

set_option maxHeartbeats 800000 in
theorem eqFields_any (xs : List Field) (v u : Value) (w : World) {lo lo2 : Nat} (hv : FieldsAt lo w v xs) (hu : FieldsAt lo2 w u xs) :
    Calls Tryz.prog 42 #[v, u] w fun e w' => e = .returned (.bool true) ∧ Below w.heap.size w w' := by
  obtain ⟨hl, hv⟩ := hv
  obtain ⟨_, hu⟩ := hu
  by_cases hx : xs = []
  · subst hx
    obtain ⟨a0, c0, rfl⟩ : ∃ a c, v = .slice a 0 c := by
      rcases hv with ⟨_, _, rfl, _⟩ | ⟨b, off, cap, rfl, _⟩
      · exact ⟨_, _, rfl⟩
      · exact ⟨_, _, rfl⟩
    obtain ⟨a1, c1, rfl⟩ : ∃ a c, u = .slice a 0 c := by
      rcases hu with ⟨_, _, rfl, _⟩ | ⟨b, off, cap, rfl, _⟩
      · exact ⟨_, _, rfl⟩
      · exact ⟨_, _, rfl⟩
    clear hv hu
    go_enter Tryz.func42, Tryz.ntmps42
    go_wp2
    go_loop [5] (fun i => i = .int .i64 0) (fun _ => 0)
    case atStart => rfl
    case round =>
      subst hrel
      go_wp2
      go_ret
      exact ⟨rfl, Below.refl _ _⟩
  · rcases hv with ⟨_, _, _, e⟩ | ⟨b, off, cap, rfl, ⟨_, hlt⟩, hc⟩
    · exact absurd e hx
    rcases hu with ⟨_, _, _, e⟩ | ⟨b2, off2, cap2, rfl, ⟨_, hlt2⟩, hc2⟩
    · exact absurd e hx
    clear hx
    go_enter Tryz.func42, Tryz.ntmps42
    go_wp2
    go_loopw [5] (fun i w1 => ∃ k : Nat, k ≤ xs.length ∧ i = .int .i64 k ∧ Below w.heap.size w w1) (fun i _ => xs.length - (intOf i).toNat)
    case atStart => exact ⟨0, Nat.zero_le _, rfl, Below.refl _ _⟩
    case round =>
      obtain ⟨k, hk, rfl, hb⟩ := hrel
      by_cases hk2 : k < xs.length
      · obtain ⟨ve, hcell, hel⟩ := hc k hk2
        obtain ⟨ue, hcell2, hel2⟩ := hc2 k hk2
        have h1 : wr.cell? ⟨b, off + k, none⟩ = some ve := by rw [hb.cell (p := ⟨b, off + k, none⟩) hlt]; simpa using hcell
        have h2 : wr.cell? ⟨b2, off2 + k, none⟩ = some ue := by rw [hb.cell (p := ⟨b2, off2 + k, none⟩) hlt2]; simpa using hcell2
        have g1 : w.cell? ⟨b, off + k, none⟩ = some ve := by simpa using hcell
        have g2 : w.cell? ⟨b2, off2 + k, none⟩ = some ue := by simpa using hcell2
        have hi : (k : Int) < (xs.length : Int) := by omega
        have hi0 : (0 : Int) ≤ (k : Int) := by omega
        have hd := hb.drew
        clear hc hc2 hcell hcell2
        go_wp2
        go_region_held3 (fun w' => w'.cell? ⟨b, off + k, none⟩ = some ve ∧ w'.cell? ⟨b2, off2 + k, none⟩ = some ue ∧ Below w.heap.size w w')
          (first | exact hold2 hd hlt hlt2 g1 g2 | exact hold2 hb9 hlt hlt2 g1 g2)
          ((go_at_call 50; refine (eqField_any xs[k] ve ue _ (by exact At.kept kept_rep hel (by assumption)) (by exact At.kept kept_rep hel2 (by assumption))).mono ?_; rintro e w2 ⟨rfl, hb2⟩; have hb9 : Below w.heap.size w w2 := bjoin hb2 (by assumption)))
        go_wp2
        go_roundw
        case rel => exact ⟨k + 1, by omega, by go_num, hb9⟩
        case measure => simp [intOf]; omega
      · go_wp2
        go_ret
        exact ⟨rfl, hb⟩
set_option maxHeartbeats 400000 in
theorem eqSeg_any (x : Seg) (v u : Value) (w : World) {lo lo2 : Nat} (hv : FieldsAt lo w v x.fields) (hu : FieldsAt lo2 w u x.fields) :
    Calls Tryz.prog 32 #[.agg #[.string x.name, v], .agg #[.string x.name, u]] w fun e w' => e = .returned (.bool true) ∧ Below w.heap.size w w' := by
  have hb := ((Below.refl w.heap.size w).alloc (Nat.le_refl _) (Obj.cells #[.string x.name, v] 61)).alloc (by simp) (Obj.cells #[.string x.name, u] 61)
  have hv' := At.kept kept_field hv hb
  have hu' := At.kept kept_field hu hb
  go_enter Tryz.func32, Tryz.ntmps32
  go_wp2_with fail
  refine (eqFields_any x.fields v u _ hv' hu').mono ?_
  rintro e w' ⟨rfl, hb'⟩
  go_wp2_with fail
  go_ret
  exact ⟨rfl, hb.trans (hb'.mono (by simp; omega))⟩

theorem hold4 {w w' : World} {b o b2 o2 : Nat} {v u n m : Value} (h : Below w.heap.size w w') (h1 : b < w.heap.size) (h2 : b2 < w.heap.size) (g1 : w.cell? ⟨b, o, none⟩ = some n) (g2 : w.cell? ⟨b, o + 1, none⟩ = some v)
    (g3 : w.cell? ⟨b2, o2, none⟩ = some m) (g4 : w.cell? ⟨b2, o2 + 1, none⟩ = some u) :
    w'.cell? ⟨b, o, none⟩ = some n ∧ w'.cell? ⟨b, o + 1, none⟩ = some v ∧ w'.cell? ⟨b2, o2, none⟩ = some m ∧ w'.cell? ⟨b2, o2 + 1, none⟩ = some u ∧ Below w.heap.size w w' :=
  ⟨by rw [h.cell (p := ⟨b, o, none⟩) h1]; exact g1, by rw [h.cell (p := ⟨b, o + 1, none⟩) h1]; exact g2, by rw [h.cell (p := ⟨b2, o2, none⟩) h2]; exact g3, by rw [h.cell (p := ⟨b2, o2 + 1, none⟩) h2]; exact g4, h⟩

set_option maxHeartbeats 800000 in
theorem eqSegs_any (xs : List Seg) (v u : Value) (w : World) {lo lo2 : Nat} (hv : SegsAt lo w v xs) (hu : SegsAt lo2 w u xs) :
    Calls Tryz.prog 20 #[v, u] w fun e w' => e = .returned (.bool true) ∧ Below w.heap.size w w' := by
  obtain ⟨hl, hv⟩ := hv
  obtain ⟨_, hu⟩ := hu
  by_cases hx : xs = []
  · subst hx
    obtain ⟨a0, c0, rfl⟩ : ∃ a c, v = .slice a 0 c := by
      rcases hv with ⟨_, _, rfl, _⟩ | ⟨b, off, cap, rfl, _⟩
      · exact ⟨_, _, rfl⟩
      · exact ⟨_, _, rfl⟩
    obtain ⟨a1, c1, rfl⟩ : ∃ a c, u = .slice a 0 c := by
      rcases hu with ⟨_, _, rfl, _⟩ | ⟨b, off, cap, rfl, _⟩
      · exact ⟨_, _, rfl⟩
      · exact ⟨_, _, rfl⟩
    clear hv hu
    go_enter Tryz.func20, Tryz.ntmps20
    go_wp2
    go_loop [5] (fun i => i = .int .i64 0) (fun _ => 0)
    case atStart => rfl
    case round =>
      subst hrel
      go_wp2
      go_ret
      exact ⟨rfl, Below.refl _ _⟩
  · rcases hv with ⟨_, _, _, e⟩ | ⟨b, off, cap, rfl, ⟨_, hlt⟩, hc⟩
    · exact absurd e hx
    rcases hu with ⟨_, _, _, e⟩ | ⟨b2, off2, cap2, rfl, ⟨_, hlt2⟩, hc2⟩
    · exact absurd e hx
    clear hx
    go_enter Tryz.func20, Tryz.ntmps20
    go_wp2
    go_loopw [5] (fun i w1 => ∃ k : Nat, k ≤ xs.length ∧ i = .int .i64 k ∧ Below w.heap.size w w1) (fun i _ => xs.length - (intOf i).toNat)
    case atStart => exact ⟨0, Nat.zero_le _, rfl, Below.refl _ _⟩
    case round =>
      obtain ⟨k, hk, rfl, hb⟩ := hrel
      by_cases hk2 : k < xs.length
      · obtain ⟨g1, _, ve, g2, hel⟩ := hc k hk2
        obtain ⟨g3, _, ue, g4, hel2⟩ := hc2 k hk2
        have h1 : wr.cell? ⟨b, off + k * 2, none⟩ = some (.string xs[k].name) := by rw [hb.cell (p := ⟨b, off + k * 2, none⟩) hlt]; exact g1
        have h2 : wr.cell? ⟨b, off + k * 2 + 1, none⟩ = some ve := by rw [hb.cell (p := ⟨b, off + k * 2 + 1, none⟩) hlt]; exact g2
        have h3 : wr.cell? ⟨b2, off2 + k * 2, none⟩ = some (.string xs[k].name) := by rw [hb.cell (p := ⟨b2, off2 + k * 2, none⟩) hlt2]; exact g3
        have h4 : wr.cell? ⟨b2, off2 + k * 2 + 1, none⟩ = some ue := by rw [hb.cell (p := ⟨b2, off2 + k * 2 + 1, none⟩) hlt2]; exact g4
        have hi : (k : Int) < (xs.length : Int) := by omega
        have hi0 : (0 : Int) ≤ (k : Int) := by omega
        have hd := hb.drew
        clear hc hc2
        go_wp2
        go_region_held3 (fun w' => w'.cell? ⟨b, off + k * 2, none⟩ = some (.string xs[k].name) ∧ w'.cell? ⟨b, off + k * 2 + 1, none⟩ = some ve ∧ w'.cell? ⟨b2, off2 + k * 2, none⟩ = some (.string xs[k].name) ∧ w'.cell? ⟨b2, off2 + k * 2 + 1, none⟩ = some ue ∧ Below w.heap.size w w')
          (first | exact hold4 hd hlt hlt2 g1 g2 g3 g4 | exact hold4 hb9 hlt hlt2 g1 g2 g3 g4)
          ((go_at_call 32; refine (eqSeg_any xs[k] ve ue _ (by exact At.kept kept_field hel (by assumption)) (by exact At.kept kept_field hel2 (by assumption))).mono ?_; rintro e w2 ⟨rfl, hb2⟩; have hb9 : Below w.heap.size w w2 := bjoin hb2 (by assumption)))
        go_wp2
        go_roundw
        case rel => exact ⟨k + 1, by omega, by go_num, hb9⟩
        case measure => simp [intOf]; omega
      · go_wp2
        go_ret
        exact ⟨rfl, hb⟩
set_option maxHeartbeats 400000 in
theorem eqMsg_any (x : List Seg) (v u : Value) (w : World) {lo lo2 : Nat} (hv : SegsAt lo w v x) (hu : SegsAt lo2 w u x) :
    Calls Tryz.prog 9 #[.agg #[v], .agg #[u]] w fun e w' => e = .returned (.bool true) ∧ Below w.heap.size w w' := by
  have hb := ((Below.refl w.heap.size w).alloc (Nat.le_refl _) (Obj.cells #[v] 32)).alloc (by simp) (Obj.cells #[u] 32)
  have hv' := At.kept kept_seg hv hb
  have hu' := At.kept kept_seg hu hb
  go_enter Tryz.func9, Tryz.ntmps9
  go_wp2_with fail
  refine (eqSegs_any x v u _ hv' hu').mono ?_
  rintro e w' ⟨rfl, hb'⟩
  go_wp2_with fail
  go_ret
  exact ⟨rfl, hb.trans (hb'.mono (by simp; omega))⟩

end Go.Proofs.YtebdfmijlnkcbaaGreatDoor.Msg
