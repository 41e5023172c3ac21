import Derived.Test.YtebdfmijlnkcbaaGreatDoorMsgSz2
namespace Go.Proofs.YtebdfmijlnkcbaaGreatDoor.Msg
open Go.ChangeShapes Go.WideShapes Go.ChangeAt Go.RowKit

set_option maxHeartbeats 400000 in
theorem szField_any (x : Field) (v : Value) (left : Int) (w : World) (h0 : 0 ≤ left) (h1 : left ≤ 1048576) {lo : Nat} (hv : RepsAt lo w v x) :
    Calls Tryz.prog 43 #[.agg #[v], .int .i64 left] w fun e w' => e = .returned (.int .i64 (rest left (fieldSz x))) ∧ Below w.heap.size w w' := by
  have hb := (Below.refl w.heap.size w).alloc (Nat.le_refl _) (Obj.cells #[v] 113)
  have hv' : RepsAt lo (w.alloc (Obj.cells #[v] 113)) v x := At.kept kept_rep hv hb
  have hle := rest_le (n := fieldSz x) h0
  have hge := rest_ge left (fieldSz x)
  go_enter Tryz.func43, Tryz.ntmps43
  go_wp2_with fail
  refine (szReps_any x v left _ h0 h1 hv').mono ?_
  rintro e w' ⟨rfl, hb'⟩
  have hb2 : Below w.heap.size w w' := hb.trans (hb'.mono (by simp))
  by_cases hn : rest left (fieldSz x) < 0
  · go_wp2_with fail
    go_ret
    exact ⟨ret_int (by omega), hb2⟩
  · go_wp2_with fail
    go_ret
    exact ⟨rfl, hb2⟩

set_option maxHeartbeats 400000 in
theorem szFields_any (xs : List Field) (v : Value) (left : Int) (w : World) (h0 : 0 ≤ left) (h1 : left ≤ 1048576) {lo : Nat} (hv : FieldsAt lo w v xs) :
    Calls Tryz.prog 33 #[v, .int .i64 left] w fun e w' => e = .returned (.int .i64 (rest left (lenSum fieldSz xs))) ∧ Below w.heap.size w w' := by
  obtain ⟨hl, hv⟩ := hv
  have HR : Hid (lenSum fieldSz xs = xs.length + sumOf fieldSz xs) := rfl
  rcases hv with ⟨a0, c0, rfl, rfl⟩ | ⟨b, off, cap, rfl, ⟨_, hlt⟩, hc⟩
  · go_enter Tryz.func33, Tryz.ntmps33
    go_wp2
    go_loop [1, 5] (fun r i => r = .int .i64 left ∧ i = .int .i64 0) (fun _ _ => 0)
    case atStart => exact ⟨rfl, rfl⟩
    case round =>
      obtain ⟨rfl, rfl⟩ := hrel
      go_wp2
      go_ret
      exact ⟨ret_int (by rw [rest_yes] <;> simp [lenSum, sumOf]; omega), Below.refl _ _⟩
  · by_cases hfit : (xs.length : Int) ≤ left
    · have hneg : ¬ left - (xs.length : Int) < 0 := by omega
      go_enter Tryz.func33, Tryz.ntmps33
      go_wp2
      go_loopw [1, 5] (fun r i w1 => ∃ k : Nat, k ≤ xs.length ∧ i = .int .i64 k ∧ r = .int .i64 (left - xs.length - (sumOf fieldSz (xs.take k) : Nat)) ∧ ((xs.length + sumOf fieldSz (xs.take k) : Nat) : Int) ≤ left ∧ Below w.heap.size w w1) (fun _ i _ => xs.length - (intOf i).toNat)
      case atStart => exact ⟨0, Nat.zero_le _, rfl, by simp [sumOf], by simpa [sumOf] using hfit, Below.refl _ _⟩
      case round =>
        obtain ⟨k, hk, rfl, rfl, hs, hb⟩ := hrel
        by_cases hlt2 : k < xs.length
        · obtain ⟨ve, hcell, hel⟩ := hc k hlt2
          have hc1 : wr.cell? ⟨b, off + k, none⟩ = some ve := by rw [bcell hb _ _ hlt]; simpa using hcell
          have hel' : RepsAt lo wr ve xs[k] := At.kept kept_rep hel hb
          have HS : Hid (sumOf fieldSz (xs.take (k + 1)) = sumOf fieldSz (xs.take k) + fieldSz xs[k]) := sum_take fieldSz xs k hlt2
          have HL : Hid (sumOf fieldSz (xs.take (k + 1)) ≤ sumOf fieldSz xs) := sum_le fieldSz xs (k + 1)
          clear hcell hc
          go_wp2_with fail
          refine (szField_any xs[k] ve _ _ (by omega) (by omega) hel').mono ?_
          rintro e w2 ⟨rfl, hb2⟩
          have hb3 : Below w.heap.size w w2 := hb.trans (hb2.mono hb.size)
          by_cases hn : ((fieldSz xs[k] : Nat) : Int) ≤ left - (xs.length : Int) - ((sumOf fieldSz (xs.take k) : Nat) : Int)
          · rw [rest_yes hn]
            go_wp2_with fail
            go_roundw
            case rel => exact ⟨k + 1, by omega, by go_num, by rw [HS.out]; go_num, by have a := HS.out; omega, hb3⟩
            case measure => simp [intOf]; omega
          · rw [rest_no hn]
            go_wp2_with fail
            go_ret
            exact ⟨ret_int (by have a := HS.out; have b := HL.out; rw [rest_no]; rw [HR.out]; omega), hb3⟩
        · have HA : Hid (sumOf fieldSz (xs.take k) = sumOf fieldSz xs) := sum_all fieldSz xs k (by omega)
          go_wp2
          go_ret
          exact ⟨ret_int (by have a := HA.out; rw [rest_yes] <;> rw [HR.out] <;> omega), hb⟩
    · have hneg : left - (xs.length : Int) < 0 := by omega
      go_enter Tryz.func33, Tryz.ntmps33
      go_wp2
      go_ret
      exact ⟨ret_int (by rw [rest_no]; rw [HR.out]; omega), Below.refl _ _⟩

set_option maxHeartbeats 400000 in
theorem szSeg_any (x : Seg) (v : Value) (left : Int) (w : World) (h0 : 0 ≤ left) (h1 : left ≤ 1048576) (hs : x.name.size ≤ 9223372036854775807) {lo : Nat} (hv : FieldsAt lo w v x.fields) :
    Calls Tryz.prog 21 #[.agg #[.string x.name, v], .int .i64 left] w fun e w' => e = .returned (.int .i64 (rest left (segSz x))) ∧ Below w.heap.size w w' := by
  have hb := (Below.refl w.heap.size w).alloc (Nat.le_refl _) (Obj.cells #[.string x.name, v] 58)
  have hv' : FieldsAt lo (w.alloc (Obj.cells #[.string x.name, v] 58)) v x.fields := At.kept kept_field hv hb
  have HR : Hid (segSz x = x.name.size + lenSum fieldSz x.fields) := rfl
  by_cases hf : left - (x.name.size : Int) < 0
  · go_enter Tryz.func21, Tryz.ntmps21
    go_wp2_with fail
    go_ret
    exact ⟨ret_int (by rw [rest_no]; rw [HR.out]; omega), hb⟩
  · go_enter Tryz.func21, Tryz.ntmps21
    go_wp2_with fail
    refine (szFields_any x.fields v _ _ (by omega) (by omega) hv').mono ?_
    rintro e w' ⟨rfl, hb'⟩
    have hb2 : Below w.heap.size w w' := hb.trans (hb'.mono (by simp))
    by_cases hn : ((lenSum fieldSz x.fields : Nat) : Int) ≤ left - (x.name.size : Int)
    · rw [rest_yes hn]
      have hn' : ¬ left - (x.name.size : Int) - ((lenSum fieldSz x.fields : Nat) : Int) < 0 := by omega
      go_wp2_with fail
      go_ret
      exact ⟨ret_int (by rw [rest_yes] <;> rw [HR.out] <;> omega), hb2⟩
    · rw [rest_no hn]
      go_wp2_with fail
      go_ret
      exact ⟨ret_int (by rw [rest_no]; rw [HR.out]; omega), hb2⟩

set_option maxHeartbeats 400000 in
theorem szSegs_any (xs : List Seg) (v : Value) (left : Int) (w : World) (h0 : 0 ≤ left) (h1 : left ≤ 1048576) {lo : Nat} (hv : SegsAt lo w v xs) :
    Calls Tryz.prog 10 #[v, .int .i64 left] w fun e w' => e = .returned (.int .i64 (rest left (msgSz xs))) ∧ Below w.heap.size w w' := by
  obtain ⟨hl, hv⟩ := hv
  have HR : Hid (msgSz xs = xs.length + sumOf segSz xs) := rfl
  rcases hv with ⟨a0, c0, rfl, rfl⟩ | ⟨b, off, cap, rfl, ⟨_, hlt⟩, hc⟩
  · go_enter Tryz.func10, Tryz.ntmps10
    go_wp2
    go_loop [1, 5] (fun r i => r = .int .i64 left ∧ i = .int .i64 0) (fun _ _ => 0)
    case atStart => exact ⟨rfl, rfl⟩
    case round =>
      obtain ⟨rfl, rfl⟩ := hrel
      go_wp2
      go_ret
      exact ⟨ret_int (by rw [rest_yes] <;> simp [msgSz, lenSum, sumOf]; omega), Below.refl _ _⟩
  · by_cases hfit : (xs.length : Int) ≤ left
    · have hneg : ¬ left - (xs.length : Int) < 0 := by omega
      go_enter Tryz.func10, Tryz.ntmps10
      go_wp2
      go_loopw [1, 5] (fun r i w1 => ∃ k : Nat, k ≤ xs.length ∧ i = .int .i64 k ∧ r = .int .i64 (left - xs.length - (sumOf segSz (xs.take k) : Nat)) ∧ ((xs.length + sumOf segSz (xs.take k) : Nat) : Int) ≤ left ∧ Below w.heap.size w w1) (fun _ i _ => xs.length - (intOf i).toNat)
      case atStart => exact ⟨0, Nat.zero_le _, rfl, by simp [sumOf], by simpa [sumOf] using hfit, Below.refl _ _⟩
      case round =>
        obtain ⟨k, hk, rfl, rfl, hs, hb⟩ := hrel
        by_cases hlt2 : k < xs.length
        · obtain ⟨hcell0, hns, ve, hcell, hel⟩ := hc k hlt2
          have hc0 : wr.cell? ⟨b, off + k * 2, none⟩ = some (.string xs[k].name) := by rw [bcell hb _ _ hlt]; exact hcell0
          have hc1 : wr.cell? ⟨b, off + k * 2 + 1, none⟩ = some ve := by rw [bcell hb _ _ hlt]; exact hcell
          have hel' : FieldsAt lo wr ve xs[k].fields := At.kept kept_field hel hb
          have HS : Hid (sumOf segSz (xs.take (k + 1)) = sumOf segSz (xs.take k) + segSz xs[k]) := sum_take segSz xs k hlt2
          have HL : Hid (sumOf segSz (xs.take (k + 1)) ≤ sumOf segSz xs) := sum_le segSz xs (k + 1)
          clear hcell hcell0 hc
          go_wp2_with fail
          refine (szSeg_any xs[k] ve _ _ (by omega) (by omega) hns hel').mono ?_
          rintro e w2 ⟨rfl, hb2⟩
          have hb3 : Below w.heap.size w w2 := hb.trans (hb2.mono hb.size)
          by_cases hn : ((segSz xs[k] : Nat) : Int) ≤ left - (xs.length : Int) - ((sumOf segSz (xs.take k) : Nat) : Int)
          · rw [rest_yes hn]
            go_wp2_with fail
            go_roundw
            case rel => exact ⟨k + 1, by omega, by go_num, by rw [HS.out]; go_num, by have a := HS.out; omega, hb3⟩
            case measure => simp [intOf]; omega
          · rw [rest_no hn]
            go_wp2_with fail
            go_ret
            exact ⟨ret_int (by have a := HS.out; have b := HL.out; rw [rest_no]; rw [HR.out]; omega), hb3⟩
        · have HA : Hid (sumOf segSz (xs.take k) = sumOf segSz xs) := sum_all segSz xs k (by omega)
          go_wp2
          go_ret
          exact ⟨ret_int (by have a := HA.out; rw [rest_yes] <;> rw [HR.out] <;> omega), hb⟩
    · have hneg : left - (xs.length : Int) < 0 := by omega
      go_enter Tryz.func10, Tryz.ntmps10
      go_wp2
      go_ret
      exact ⟨ret_int (by rw [rest_no]; rw [HR.out]; omega), Below.refl _ _⟩
set_option maxHeartbeats 400000 in
theorem szMsg_any (x : List Seg) (v : Value) (left : Int) (w : World) (h0 : 0 ≤ left) (h1 : left ≤ 1048576) {lo : Nat} (hv : SegsAt lo w v x) :
    Calls Tryz.prog 4 #[.agg #[v], .int .i64 left] w fun e w' => e = .returned (.int .i64 (rest left (msgSz x))) ∧ Below w.heap.size w w' := by
  have hb := (Below.refl w.heap.size w).alloc (Nat.le_refl _) (Obj.cells #[v] 24)
  have hv' : SegsAt lo (w.alloc (Obj.cells #[v] 24)) v x := At.kept kept_seg hv hb
  have hle := rest_le (n := msgSz x) h0
  have hge := rest_ge left (msgSz x)
  go_enter Tryz.func4, Tryz.ntmps4
  go_wp2_with fail
  refine (szSegs_any x v left _ h0 h1 hv').mono ?_
  rintro e w' ⟨rfl, hb'⟩
  have hb2 : Below w.heap.size w w' := hb.trans (hb'.mono (by simp))
  by_cases hn : rest left (msgSz x) < 0
  · go_wp2_with fail
    go_ret
    exact ⟨ret_int (by omega), hb2⟩
  · go_wp2_with fail
    go_ret
    exact ⟨rfl, hb2⟩

end Go.Proofs.YtebdfmijlnkcbaaGreatDoor.Msg
