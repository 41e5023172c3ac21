import Derived.Test.YtfcmhnfdbobnlaaGreatDoorMsgDatawithMsgSzwithMsgSz2
import Derived.Test.YtfcmhnfdbobnlaaGreatDoorMsgTo4withRplLaw
import Derived.Test.YtfcmhnfdbobnlaaGreatDoorMsgEqwithMsgEq2withMsgTo
namespace Go.Proofs.YtfcmhnfdbobnlaaGreatDoor.Msg
open Go.ChangeShapes Go.WideShapes Go.ChangeAt Go.RowKit

set_option maxHeartbeats 400000 in
theorem szField_any (x : Field) (v : Value) (left : Int) (w : World) (h0 : 0 ≤ left) (h1 : left ≤ 1048576) {lo : Nat} (hv : RepsAt lo w v x) :
    Calls Tryz.prog 66 #[.agg #[v], .int .i64 left] w fun e w' => e = .returned (.int .i64 (rest left (fieldSz x))) ∧ Below w.heap.size w w' := by
  have hb := (Below.refl w.heap.size w).alloc (Nat.le_refl _) (Obj.cells #[v] 105)
  have hv' : RepsAt lo (w.alloc (Obj.cells #[v] 105)) v x := At.kept kept_rep hv hb
  have hle := rest_le (n := fieldSz x) h0
  have hge := rest_ge left (fieldSz x)
  go_enter Tryz.func66, Tryz.ntmps66
  go_wp2_with fail
  refine (szReps_any x v left _ h0 h1 hv').mono ?_
  rintro e w' ⟨rfl, hb'⟩
  have hb2 : Below w.heap.size w w' := hb.trans (hb'.mono (by simp))
  by_cases hn : rest left (fieldSz x) < 0
  · go_wp2_with fail
    go_ret
    exact ⟨ret_int (by omega), hb2⟩
  · go_wp2_with fail
    go_ret
    exact ⟨rfl, hb2⟩

set_option maxHeartbeats 400000 in
theorem szFields_any (xs : List Field) (v : Value) (left : Int) (w : World) (h0 : 0 ≤ left) (h1 : left ≤ 1048576) {lo : Nat} (hv : FieldsAt lo w v xs) :
    Calls Tryz.prog 45 #[v, .int .i64 left] w fun e w' => e = .returned (.int .i64 (rest left (lenSum fieldSz xs))) ∧ Below w.heap.size w w' := by
  obtain ⟨hl, hv⟩ := hv
  have HR : Hid (lenSum fieldSz xs = xs.length + sumOf fieldSz xs) := rfl
  rcases hv with ⟨a0, c0, rfl, rfl⟩ | ⟨b, off, cap, rfl, ⟨_, hlt⟩, hc⟩
  · go_enter Tryz.func45, Tryz.ntmps45
    go_wp2
    go_loop [1, 5] (fun r i => r = .int .i64 left ∧ i = .int .i64 0) (fun _ _ => 0)
    case atStart => exact ⟨rfl, rfl⟩
    case round =>
      obtain ⟨rfl, rfl⟩ := hrel
      go_wp2
      go_ret
      exact ⟨ret_int (by rw [rest_yes] <;> simp [lenSum, sumOf]; omega), Below.refl _ _⟩
  · by_cases hfit : (xs.length : Int) ≤ left
    · have hneg : ¬ left - (xs.length : Int) < 0 := by omega
      go_enter Tryz.func45, Tryz.ntmps45
      go_wp2
      go_loopw [1, 5] (fun r i w1 => ∃ k : Nat, k ≤ xs.length ∧ i = .int .i64 k ∧ r = .int .i64 (left - xs.length - (sumOf fieldSz (xs.take k) : Nat)) ∧ ((xs.length + sumOf fieldSz (xs.take k) : Nat) : Int) ≤ left ∧ Below w.heap.size w w1) (fun _ i _ => xs.length - (intOf i).toNat)
      case atStart => exact ⟨0, Nat.zero_le _, rfl, by simp [sumOf], by simpa [sumOf] using hfit, Below.refl _ _⟩
      case round =>
        obtain ⟨k, hk, rfl, rfl, hs, hb⟩ := hrel
        by_cases hlt2 : k < xs.length
        · obtain ⟨ve, hcell, hel⟩ := hc k hlt2
          have hc1 : wr.cell? ⟨b, off + k, none⟩ = some ve := by rw [bcell hb _ _ hlt]; simpa using hcell
          have hel' : RepsAt lo wr ve xs[k] := At.kept kept_rep hel hb
          have HS : Hid (sumOf fieldSz (xs.take (k + 1)) = sumOf fieldSz (xs.take k) + fieldSz xs[k]) := sum_take fieldSz xs k hlt2
          have HL : Hid (sumOf fieldSz (xs.take (k + 1)) ≤ sumOf fieldSz xs) := sum_le fieldSz xs (k + 1)
          clear hcell hc
          go_wp2_with fail
          refine (szField_any xs[k] ve _ _ (by omega) (by omega) hel').mono ?_
          rintro e w2 ⟨rfl, hb2⟩
          have hb3 : Below w.heap.size w w2 := hb.trans (hb2.mono hb.size)
          by_cases hn : ((fieldSz xs[k] : Nat) : Int) ≤ left - (xs.length : Int) - ((sumOf fieldSz (xs.take k) : Nat) : Int)
          · rw [rest_yes hn]
            go_wp2_with fail
            go_roundw
            case rel => exact ⟨k + 1, by omega, by go_num, by rw [HS.out]; go_num, by have a := HS.out; omega, hb3⟩
            case measure => simp [intOf]; omega
          · rw [rest_no hn]
            go_wp2_with fail
            go_ret
            exact ⟨ret_int (by have a := HS.out; have b := HL.out; rw [rest_no]; rw [HR.out]; omega), hb3⟩
        · have HA : Hid (sumOf fieldSz (xs.take k) = sumOf fieldSz xs) := sum_all fieldSz xs k (by omega)
          go_wp2
          go_ret
          exact ⟨ret_int (by have a := HA.out; rw [rest_yes] <;> rw [HR.out] <;> omega), hb⟩
    · have hneg : left - (xs.length : Int) < 0 := by omega
      go_enter Tryz.func45, Tryz.ntmps45
      go_wp2
      go_ret
      exact ⟨ret_int (by rw [rest_no]; rw [HR.out]; omega), Below.refl _ _⟩

set_option maxHeartbeats 400000 in
theorem szSeg_any (x : Seg) (v : Value) (left : Int) (w : World) (h0 : 0 ≤ left) (h1 : left ≤ 1048576) (hs : x.name.size ≤ 9223372036854775807) {lo : Nat} (hv : FieldsAt lo w v x.fields) :
    Calls Tryz.prog 27 #[.agg #[.string x.name, v], .int .i64 left] w fun e w' => e = .returned (.int .i64 (rest left (segSz x))) ∧ Below w.heap.size w w' := by
  have hb := (Below.refl w.heap.size w).alloc (Nat.le_refl _) (Obj.cells #[.string x.name, v] 57)
  have hv' : FieldsAt lo (w.alloc (Obj.cells #[.string x.name, v] 57)) v x.fields := At.kept kept_field hv hb
  have HR : Hid (segSz x = x.name.size + lenSum fieldSz x.fields) := rfl
  by_cases hf : left - (x.name.size : Int) < 0
  · go_enter Tryz.func27, Tryz.ntmps27
    go_wp2_with fail
    go_ret
    exact ⟨ret_int (by rw [rest_no]; rw [HR.out]; omega), hb⟩
  · go_enter Tryz.func27, Tryz.ntmps27
    go_wp2_with fail
    refine (szFields_any x.fields v _ _ (by omega) (by omega) hv').mono ?_
    rintro e w' ⟨rfl, hb'⟩
    have hb2 : Below w.heap.size w w' := hb.trans (hb'.mono (by simp))
    by_cases hn : ((lenSum fieldSz x.fields : Nat) : Int) ≤ left - (x.name.size : Int)
    · rw [rest_yes hn]
      have hn' : ¬ left - (x.name.size : Int) - ((lenSum fieldSz x.fields : Nat) : Int) < 0 := by omega
      go_wp2_with fail
      go_ret
      exact ⟨ret_int (by rw [rest_yes] <;> rw [HR.out] <;> omega), hb2⟩
    · rw [rest_no hn]
      go_wp2_with fail
      go_ret
      exact ⟨ret_int (by rw [rest_no]; rw [HR.out]; omega), hb2⟩

set_option maxHeartbeats 400000 in
theorem szSegs_any (xs : List Seg) (v : Value) (left : Int) (w : World) (h0 : 0 ≤ left) (h1 : left ≤ 1048576) {lo : Nat} (hv : SegsAt lo w v xs) :
    Calls Tryz.prog 13 #[v, .int .i64 left] w fun e w' => e = .returned (.int .i64 (rest left (msgSz xs))) ∧ Below w.heap.size w w' := by
  obtain ⟨hl, hv⟩ := hv
  have HR : Hid (msgSz xs = xs.length + sumOf segSz xs) := rfl
  rcases hv with ⟨a0, c0, rfl, rfl⟩ | ⟨b, off, cap, rfl, ⟨_, hlt⟩, hc⟩
  · go_enter Tryz.func13, Tryz.ntmps13
    go_wp2
    go_loop [1, 5] (fun r i => r = .int .i64 left ∧ i = .int .i64 0) (fun _ _ => 0)
    case atStart => exact ⟨rfl, rfl⟩
    case round =>
      obtain ⟨rfl, rfl⟩ := hrel
      go_wp2
      go_ret
      exact ⟨ret_int (by rw [rest_yes] <;> simp [msgSz, lenSum, sumOf]; omega), Below.refl _ _⟩
  · by_cases hfit : (xs.length : Int) ≤ left
    · have hneg : ¬ left - (xs.length : Int) < 0 := by omega
      go_enter Tryz.func13, Tryz.ntmps13
      go_wp2
      go_loopw [1, 5] (fun r i w1 => ∃ k : Nat, k ≤ xs.length ∧ i = .int .i64 k ∧ r = .int .i64 (left - xs.length - (sumOf segSz (xs.take k) : Nat)) ∧ ((xs.length + sumOf segSz (xs.take k) : Nat) : Int) ≤ left ∧ Below w.heap.size w w1) (fun _ i _ => xs.length - (intOf i).toNat)
      case atStart => exact ⟨0, Nat.zero_le _, rfl, by simp [sumOf], by simpa [sumOf] using hfit, Below.refl _ _⟩
      case round =>
        obtain ⟨k, hk, rfl, rfl, hs, hb⟩ := hrel
        by_cases hlt2 : k < xs.length
        · obtain ⟨hcell0, hns, ve, hcell, hel⟩ := hc k hlt2
          have hc0 : wr.cell? ⟨b, off + k * 2, none⟩ = some (.string xs[k].name) := by rw [bcell hb _ _ hlt]; exact hcell0
          have hc1 : wr.cell? ⟨b, off + k * 2 + 1, none⟩ = some ve := by rw [bcell hb _ _ hlt]; exact hcell
          have hel' : FieldsAt lo wr ve xs[k].fields := At.kept kept_field hel hb
          have HS : Hid (sumOf segSz (xs.take (k + 1)) = sumOf segSz (xs.take k) + segSz xs[k]) := sum_take segSz xs k hlt2
          have HL : Hid (sumOf segSz (xs.take (k + 1)) ≤ sumOf segSz xs) := sum_le segSz xs (k + 1)
          clear hcell hcell0 hc
          go_wp2_with fail
          refine (szSeg_any xs[k] ve _ _ (by omega) (by omega) hns hel').mono ?_
          rintro e w2 ⟨rfl, hb2⟩
          have hb3 : Below w.heap.size w w2 := hb.trans (hb2.mono hb.size)
          by_cases hn : ((segSz xs[k] : Nat) : Int) ≤ left - (xs.length : Int) - ((sumOf segSz (xs.take k) : Nat) : Int)
          · rw [rest_yes hn]
            go_wp2_with fail
            go_roundw
            case rel => exact ⟨k + 1, by omega, by go_num, by rw [HS.out]; go_num, by have a := HS.out; omega, hb3⟩
            case measure => simp [intOf]; omega
          · rw [rest_no hn]
            go_wp2_with fail
            go_ret
            exact ⟨ret_int (by have a := HS.out; have b := HL.out; rw [rest_no]; rw [HR.out]; omega), hb3⟩
        · have HA : Hid (sumOf segSz (xs.take k) = sumOf segSz xs) := sum_all segSz xs k (by omega)
          go_wp2
          go_ret
          exact ⟨ret_int (by have a := HA.out; rw [rest_yes] <;> rw [HR.out] <;> omega), hb⟩
    · have hneg : left - (xs.length : Int) < 0 := by omega
      go_enter Tryz.func13, Tryz.ntmps13
      go_wp2
      go_ret
      exact ⟨ret_int (by rw [rest_no]; rw [HR.out]; omega), Below.refl _ _⟩
set_option maxHeartbeats 400000 in
theorem szMsg_any (x : List Seg) (v : Value) (left : Int) (w : World) (h0 : 0 ≤ left) (h1 : left ≤ 1048576) {lo : Nat} (hv : SegsAt lo w v x) :
    Calls Tryz.prog 4 #[.agg #[v], .int .i64 left] w fun e w' => e = .returned (.int .i64 (rest left (msgSz x))) ∧ Below w.heap.size w w' := by
  have hb := (Below.refl w.heap.size w).alloc (Nat.le_refl _) (Obj.cells #[v] 24)
  have hv' : SegsAt lo (w.alloc (Obj.cells #[v] 24)) v x := At.kept kept_seg hv hb
  have hle := rest_le (n := msgSz x) h0
  have hge := rest_ge left (msgSz x)
  go_enter Tryz.func4, Tryz.ntmps4
  go_wp2_with fail
  refine (szSegs_any x v left _ h0 h1 hv').mono ?_
  rintro e w' ⟨rfl, hb'⟩
  have hb2 : Below w.heap.size w w' := hb.trans (hb'.mono (by simp))
  by_cases hn : rest left (msgSz x) < 0
  · go_wp2_with fail
    go_ret
    exact ⟨ret_int (by omega), hb2⟩
  · go_wp2_with fail
    go_ret
    exact ⟨rfl, hb2⟩

end Go.Proofs.YtfcmhnfdbobnlaaGreatDoor.Msg

namespace Go.Proofs.YtfcmhnfdbobnlaaGreatDoor.Msg
open Go.ChangeShapes Go.WideShapes Go.ChangeAt Go.RowKit
set_option linter.unusedVariables false

theorem sum_ge {α : Type} (f : α → Nat) (xs : List α) (i : Nat) (h : i < xs.length) : f xs[i] ≤ sumOf f xs := by
  have h1 := sum_take f xs i h
  have h2 := sum_le f xs (i + 1)
  omega
theorem len_le {α : Type} (f : α → Nat) (xs : List α) : xs.length ≤ lenSum f xs := by unfold lenSum; omega
theorem el_le {α : Type} (f : α → Nat) (xs : List α) (i : Nat) (h : i < xs.length) : f xs[i] ≤ lenSum f xs := by have := sum_ge f xs i h; unfold lenSum; omega
theorem fits_of_sz {xs : List Seg} (h : msgSz xs ≤ 1048576) : MsgFits xs := by
  refine ⟨Nat.le_trans (len_le segSz xs) h, fun i hi => ?_⟩
  have h1 := el_le segSz xs i hi
  have h2 : lenSum fieldSz xs[i].fields ≤ segSz xs[i] := by unfold segSz; omega
  have h3 : lenSum fieldSz xs[i].fields ≤ 1048576 := by unfold msgSz at h; omega
  refine ⟨Nat.le_trans (len_le fieldSz _) h3, fun j hj => ?_⟩
  have h4 : fieldSz xs[i].fields[j] ≤ 1048576 := Nat.le_trans (el_le fieldSz xs[i].fields j hj) h3
  refine ⟨Nat.le_trans (len_le repSz xs[i].fields[j]) h4, fun k hk => ?_⟩
  have h5 : repSz xs[i].fields[j][k] ≤ 1048576 := Nat.le_trans (el_le repSz xs[i].fields[j] k hk) h4
  exact Nat.le_trans (len_le strSz xs[i].fields[j][k]) h5
end Go.Proofs.YtfcmhnfdbobnlaaGreatDoor.Msg

namespace Go.Proofs.YtfcmhnfdbobnlaaGreatDoor.Msg
open Go.ChangeShapes Go.WideShapes Go.ChangeAt Go.RowKit

set_option maxHeartbeats 400000 in
theorem eqField_any (x : Field) (v u : Value) (w : World) {lo lo2 : Nat} (hv : RepsAt lo w v x) (hu : RepsAt lo2 w u x) :
    Calls Tryz.prog 80 #[.agg #[v], .agg #[u]] w fun e w' => e = .returned (.bool true) ∧ Below w.heap.size w w' := by
  have hb := ((Below.refl w.heap.size w).alloc (Nat.le_refl _) (Obj.cells #[v] 60)).alloc (by simp) (Obj.cells #[u] 60)
  have hv' := At.kept kept_rep hv hb
  have hu' := At.kept kept_rep hu hb
  go_enter Tryz.func80, Tryz.ntmps80
  go_wp2_with fail
  refine (eqReps_any x v u _ hv' hu').mono ?_
  rintro e w' ⟨rfl, hb'⟩
  go_wp2_with fail
  go_ret
  exact ⟨rfl, hb.trans (hb'.mono (by simp; omega))⟩

set_option maxHeartbeats 800000 in
theorem eqFields_any (xs : List Field) (v u : Value) (w : World) {lo lo2 : Nat} (hv : FieldsAt lo w v xs) (hu : FieldsAt lo2 w u xs) :
    Calls Tryz.prog 64 #[v, u] w fun e w' => e = .returned (.bool true) ∧ Below w.heap.size w w' := by
  obtain ⟨hl, hv⟩ := hv
  obtain ⟨_, hu⟩ := hu
  by_cases hx : xs = []
  · subst hx
    obtain ⟨a0, c0, rfl⟩ : ∃ a c, v = .slice a 0 c := by
      rcases hv with ⟨_, _, rfl, _⟩ | ⟨b, off, cap, rfl, _⟩
      · exact ⟨_, _, rfl⟩
      · exact ⟨_, _, rfl⟩
    obtain ⟨a1, c1, rfl⟩ : ∃ a c, u = .slice a 0 c := by
      rcases hu with ⟨_, _, rfl, _⟩ | ⟨b, off, cap, rfl, _⟩
      · exact ⟨_, _, rfl⟩
      · exact ⟨_, _, rfl⟩
    clear hv hu
    go_enter Tryz.func64, Tryz.ntmps64
    go_wp2
    go_loop [5] (fun i => i = .int .i64 0) (fun _ => 0)
    case atStart => rfl
    case round =>
      subst hrel
      go_wp2
      go_ret
      exact ⟨rfl, Below.refl _ _⟩
  · rcases hv with ⟨_, _, _, e⟩ | ⟨b, off, cap, rfl, ⟨_, hlt⟩, hc⟩
    · exact absurd e hx
    rcases hu with ⟨_, _, _, e⟩ | ⟨b2, off2, cap2, rfl, ⟨_, hlt2⟩, hc2⟩
    · exact absurd e hx
    clear hx
    go_enter Tryz.func64, Tryz.ntmps64
    go_wp2
    go_loopw [5] (fun i w1 => ∃ k : Nat, k ≤ xs.length ∧ i = .int .i64 k ∧ Below w.heap.size w w1) (fun i _ => xs.length - (intOf i).toNat)
    case atStart => exact ⟨0, Nat.zero_le _, rfl, Below.refl _ _⟩
    case round =>
      obtain ⟨k, hk, rfl, hb⟩ := hrel
      by_cases hk2 : k < xs.length
      · obtain ⟨ve, hcell, hel⟩ := hc k hk2
        obtain ⟨ue, hcell2, hel2⟩ := hc2 k hk2
        have h1 : wr.cell? ⟨b, off + k, none⟩ = some ve := by rw [hb.cell (p := ⟨b, off + k, none⟩) hlt]; simpa using hcell
        have h2 : wr.cell? ⟨b2, off2 + k, none⟩ = some ue := by rw [hb.cell (p := ⟨b2, off2 + k, none⟩) hlt2]; simpa using hcell2
        have g1 : w.cell? ⟨b, off + k, none⟩ = some ve := by simpa using hcell
        have g2 : w.cell? ⟨b2, off2 + k, none⟩ = some ue := by simpa using hcell2
        have hi : (k : Int) < (xs.length : Int) := by omega
        have hi0 : (0 : Int) ≤ (k : Int) := by omega
        have hd := hb.drew
        clear hc hc2 hcell hcell2
        go_wp2
        go_region_held3 (fun w' => w'.cell? ⟨b, off + k, none⟩ = some ve ∧ w'.cell? ⟨b2, off2 + k, none⟩ = some ue ∧ Below w.heap.size w w')
          (first | exact hold2 hd hlt hlt2 g1 g2 | exact hold2 hb9 hlt hlt2 g1 g2)
          ((go_at_call 80; refine (eqField_any xs[k] ve ue _ (by exact At.kept kept_rep hel (by assumption)) (by exact At.kept kept_rep hel2 (by assumption))).mono ?_; rintro e w2 ⟨rfl, hb2⟩; have hb9 : Below w.heap.size w w2 := bjoin hb2 (by assumption)))
        go_wp2
        go_roundw
        case rel => exact ⟨k + 1, by omega, by go_num, hb9⟩
        case measure => simp [intOf]; omega
      · go_wp2
        go_ret
        exact ⟨rfl, hb⟩
set_option maxHeartbeats 400000 in
theorem eqSeg_any (x : Seg) (v u : Value) (w : World) {lo lo2 : Nat} (hv : FieldsAt lo w v x.fields) (hu : FieldsAt lo2 w u x.fields) :
    Calls Tryz.prog 42 #[.agg #[.string x.name, v], .agg #[.string x.name, u]] w fun e w' => e = .returned (.bool true) ∧ Below w.heap.size w w' := by
  have hb := ((Below.refl w.heap.size w).alloc (Nat.le_refl _) (Obj.cells #[.string x.name, v] 45)).alloc (by simp) (Obj.cells #[.string x.name, u] 45)
  have hv' := At.kept kept_field hv hb
  have hu' := At.kept kept_field hu hb
  go_enter Tryz.func42, Tryz.ntmps42
  go_wp2_with fail
  refine (eqFields_any x.fields v u _ hv' hu').mono ?_
  rintro e w' ⟨rfl, hb'⟩
  go_wp2_with fail
  go_ret
  exact ⟨rfl, hb.trans (hb'.mono (by simp; omega))⟩

theorem hold4 {w w' : World} {b o b2 o2 : Nat} {v u n m : Value} (h : Below w.heap.size w w') (h1 : b < w.heap.size) (h2 : b2 < w.heap.size) (g1 : w.cell? ⟨b, o, none⟩ = some n) (g2 : w.cell? ⟨b, o + 1, none⟩ = some v)
    (g3 : w.cell? ⟨b2, o2, none⟩ = some m) (g4 : w.cell? ⟨b2, o2 + 1, none⟩ = some u) :
    w'.cell? ⟨b, o, none⟩ = some n ∧ w'.cell? ⟨b, o + 1, none⟩ = some v ∧ w'.cell? ⟨b2, o2, none⟩ = some m ∧ w'.cell? ⟨b2, o2 + 1, none⟩ = some u ∧ Below w.heap.size w w' :=
  ⟨by rw [h.cell (p := ⟨b, o, none⟩) h1]; exact g1, by rw [h.cell (p := ⟨b, o + 1, none⟩) h1]; exact g2, by rw [h.cell (p := ⟨b2, o2, none⟩) h2]; exact g3, by rw [h.cell (p := ⟨b2, o2 + 1, none⟩) h2]; exact g4, h⟩

set_option maxHeartbeats 800000 in
theorem eqSegs_any (xs : List Seg) (v u : Value) (w : World) {lo lo2 : Nat} (hv : SegsAt lo w v xs) (hu : SegsAt lo2 w u xs) :
    Calls Tryz.prog 23 #[v, u] w fun e w' => e = .returned (.bool true) ∧ Below w.heap.size w w' := by
  obtain ⟨hl, hv⟩ := hv
  obtain ⟨_, hu⟩ := hu
  by_cases hx : xs = []
  · subst hx
    obtain ⟨a0, c0, rfl⟩ : ∃ a c, v = .slice a 0 c := by
      rcases hv with ⟨_, _, rfl, _⟩ | ⟨b, off, cap, rfl, _⟩
      · exact ⟨_, _, rfl⟩
      · exact ⟨_, _, rfl⟩
    obtain ⟨a1, c1, rfl⟩ : ∃ a c, u = .slice a 0 c := by
      rcases hu with ⟨_, _, rfl, _⟩ | ⟨b, off, cap, rfl, _⟩
      · exact ⟨_, _, rfl⟩
      · exact ⟨_, _, rfl⟩
    clear hv hu
    go_enter Tryz.func23, Tryz.ntmps23
    go_wp2
    go_loop [5] (fun i => i = .int .i64 0) (fun _ => 0)
    case atStart => rfl
    case round =>
      subst hrel
      go_wp2
      go_ret
      exact ⟨rfl, Below.refl _ _⟩
  · rcases hv with ⟨_, _, _, e⟩ | ⟨b, off, cap, rfl, ⟨_, hlt⟩, hc⟩
    · exact absurd e hx
    rcases hu with ⟨_, _, _, e⟩ | ⟨b2, off2, cap2, rfl, ⟨_, hlt2⟩, hc2⟩
    · exact absurd e hx
    clear hx
    go_enter Tryz.func23, Tryz.ntmps23
    go_wp2
    go_loopw [5] (fun i w1 => ∃ k : Nat, k ≤ xs.length ∧ i = .int .i64 k ∧ Below w.heap.size w w1) (fun i _ => xs.length - (intOf i).toNat)
    case atStart => exact ⟨0, Nat.zero_le _, rfl, Below.refl _ _⟩
    case round =>
      obtain ⟨k, hk, rfl, hb⟩ := hrel
      by_cases hk2 : k < xs.length
      · obtain ⟨g1, _, ve, g2, hel⟩ := hc k hk2
        obtain ⟨g3, _, ue, g4, hel2⟩ := hc2 k hk2
        have h1 : wr.cell? ⟨b, off + k * 2, none⟩ = some (.string xs[k].name) := by rw [hb.cell (p := ⟨b, off + k * 2, none⟩) hlt]; exact g1
        have h2 : wr.cell? ⟨b, off + k * 2 + 1, none⟩ = some ve := by rw [hb.cell (p := ⟨b, off + k * 2 + 1, none⟩) hlt]; exact g2
        have h3 : wr.cell? ⟨b2, off2 + k * 2, none⟩ = some (.string xs[k].name) := by rw [hb.cell (p := ⟨b2, off2 + k * 2, none⟩) hlt2]; exact g3
        have h4 : wr.cell? ⟨b2, off2 + k * 2 + 1, none⟩ = some ue := by rw [hb.cell (p := ⟨b2, off2 + k * 2 + 1, none⟩) hlt2]; exact g4
        have hi : (k : Int) < (xs.length : Int) := by omega
        have hi0 : (0 : Int) ≤ (k : Int) := by omega
        have hd := hb.drew
        clear hc hc2
        go_wp2
        go_region_held3 (fun w' => w'.cell? ⟨b, off + k * 2, none⟩ = some (.string xs[k].name) ∧ w'.cell? ⟨b, off + k * 2 + 1, none⟩ = some ve ∧ w'.cell? ⟨b2, off2 + k * 2, none⟩ = some (.string xs[k].name) ∧ w'.cell? ⟨b2, off2 + k * 2 + 1, none⟩ = some ue ∧ Below w.heap.size w w')
          (first | exact hold4 hd hlt hlt2 g1 g2 g3 g4 | exact hold4 hb9 hlt hlt2 g1 g2 g3 g4)
          ((go_at_call 42; refine (eqSeg_any xs[k] ve ue _ (by exact At.kept kept_field hel (by assumption)) (by exact At.kept kept_field hel2 (by assumption))).mono ?_; rintro e w2 ⟨rfl, hb2⟩; have hb9 : Below w.heap.size w w2 := bjoin hb2 (by assumption)))
        go_wp2
        go_roundw
        case rel => exact ⟨k + 1, by omega, by go_num, hb9⟩
        case measure => simp [intOf]; omega
      · go_wp2
        go_ret
        exact ⟨rfl, hb⟩
set_option maxHeartbeats 400000 in
theorem eqMsg_any (x : List Seg) (v u : Value) (w : World) {lo lo2 : Nat} (hv : SegsAt lo w v x) (hu : SegsAt lo2 w u x) :
    Calls Tryz.prog 9 #[.agg #[v], .agg #[u]] w fun e w' => e = .returned (.bool true) ∧ Below w.heap.size w w' := by
  have hb := ((Below.refl w.heap.size w).alloc (Nat.le_refl _) (Obj.cells #[v] 33)).alloc (by simp) (Obj.cells #[u] 33)
  have hv' := At.kept kept_seg hv hb
  have hu' := At.kept kept_seg hu hb
  go_enter Tryz.func9, Tryz.ntmps9
  go_wp2_with fail
  refine (eqSegs_any x v u _ hv' hu').mono ?_
  rintro e w' ⟨rfl, hb'⟩
  go_wp2_with fail
  go_ret
  exact ⟨rfl, hb.trans (hb'.mono (by simp; omega))⟩

end Go.Proofs.YtfcmhnfdbobnlaaGreatDoor.Msg
