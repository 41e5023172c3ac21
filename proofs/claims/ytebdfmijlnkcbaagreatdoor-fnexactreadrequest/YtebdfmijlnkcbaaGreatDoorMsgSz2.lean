import Derived.Test.YtebdfmijlnkcbaaGreatDoorMsgSz
namespace Go.Proofs.YtebdfmijlnkcbaaGreatDoor.Msg
open Go.ChangeShapes Go.WideShapes Go.ChangeAt Go.RowKit

theorem bcell {W w1 : World} (hb : Below W.heap.size W w1) : (∀ b o, b < W.heap.size → w1.cell? ⟨b, o, none⟩ = W.cell? ⟨b, o, none⟩) :=
  fun b o h => hb.cell (p := ⟨b, o, none⟩) h

set_option maxHeartbeats 400000 in
theorem szRep_any (x : Rep) (v : Value) (left : Int) (w : World) (h0 : 0 ≤ left) (h1 : left ≤ 1048576) {lo : Nat} (hv : StrsAt lo w v x) :
    Calls Tryz.prog 56 #[.agg #[v], .int .i64 left] w fun e w' => e = .returned (.int .i64 (rest left (repSz x))) ∧ Below w.heap.size w w' := by
  have hb := (Below.refl w.heap.size w).alloc (Nat.le_refl _) (Obj.cells #[v] 126)
  have hv' : StrsAt lo (w.alloc (Obj.cells #[v] 126)) v x := At.kept kept_str hv hb
  have hle := rest_le (n := repSz x) h0
  have hge := rest_ge left (repSz x)
  go_enter Tryz.func56, Tryz.ntmps56
  go_wp2_with fail
  refine (szStrs_any x v left _ h0 h1 hv').mono ?_
  rintro e w' ⟨rfl, rfl⟩
  by_cases hn : rest left (repSz x) < 0
  · go_wp2_with fail
    go_ret
    exact ⟨ret_int (by omega), hb⟩
  · go_wp2_with fail
    go_ret
    exact ⟨rfl, hb⟩

set_option maxHeartbeats 400000 in
theorem szReps_any (xs : List Rep) (v : Value) (left : Int) (w : World) (h0 : 0 ≤ left) (h1 : left ≤ 1048576) {lo : Nat} (hv : RepsAt lo w v xs) :
    Calls Tryz.prog 51 #[v, .int .i64 left] w fun e w' => e = .returned (.int .i64 (rest left (fieldSz xs))) ∧ Below w.heap.size w w' := by
  obtain ⟨hl, hv⟩ := hv
  have HR : Hid (fieldSz xs = xs.length + sumOf repSz xs) := rfl
  rcases hv with ⟨a0, c0, rfl, rfl⟩ | ⟨b, off, cap, rfl, ⟨_, hlt⟩, hc⟩
  · go_enter Tryz.func51, Tryz.ntmps51
    go_wp2
    go_loop [1, 5] (fun r i => r = .int .i64 left ∧ i = .int .i64 0) (fun _ _ => 0)
    case atStart => exact ⟨rfl, rfl⟩
    case round =>
      obtain ⟨rfl, rfl⟩ := hrel
      go_wp2
      go_ret
      exact ⟨ret_int (by rw [rest_yes] <;> simp [fieldSz, lenSum, sumOf]; omega), Below.refl _ _⟩
  · by_cases hfit : (xs.length : Int) ≤ left
    · have hneg : ¬ left - (xs.length : Int) < 0 := by omega
      go_enter Tryz.func51, Tryz.ntmps51
      go_wp2
      go_loopw [1, 5] (fun r i w1 => ∃ k : Nat, k ≤ xs.length ∧ i = .int .i64 k ∧ r = .int .i64 (left - xs.length - (sumOf repSz (xs.take k) : Nat)) ∧ ((xs.length + sumOf repSz (xs.take k) : Nat) : Int) ≤ left ∧ Below w.heap.size w w1) (fun _ i _ => xs.length - (intOf i).toNat)
      case atStart => exact ⟨0, Nat.zero_le _, rfl, by simp [sumOf], by simpa [sumOf] using hfit, Below.refl _ _⟩
      case round =>
        obtain ⟨k, hk, rfl, rfl, hs, hb⟩ := hrel
        by_cases hlt2 : k < xs.length
        · obtain ⟨ve, hcell, hel⟩ := hc k hlt2
          have hc1 : wr.cell? ⟨b, off + k, none⟩ = some ve := by rw [bcell hb _ _ hlt]; simpa using hcell
          have hel' : StrsAt lo wr ve xs[k] := At.kept kept_str hel hb
          have HS : Hid (sumOf repSz (xs.take (k + 1)) = sumOf repSz (xs.take k) + repSz xs[k]) := sum_take repSz xs k hlt2
          have HL : Hid (sumOf repSz (xs.take (k + 1)) ≤ sumOf repSz xs) := sum_le repSz xs (k + 1)
          clear hcell hc
          go_wp2_with fail
          refine (szRep_any xs[k] ve _ _ (by omega) (by omega) hel').mono ?_
          rintro e w2 ⟨rfl, hb2⟩
          have hb3 : Below w.heap.size w w2 := hb.trans (hb2.mono hb.size)
          by_cases hn : ((repSz xs[k] : Nat) : Int) ≤ left - (xs.length : Int) - ((sumOf repSz (xs.take k) : Nat) : Int)
          · rw [rest_yes hn]
            go_wp2_with fail
            go_roundw
            case rel => exact ⟨k + 1, by omega, by go_num, by rw [HS.out]; go_num, by have a := HS.out; omega, hb3⟩
            case measure => simp [intOf]; omega
          · rw [rest_no hn]
            go_wp2_with fail
            go_ret
            exact ⟨ret_int (by have a := HS.out; have b := HL.out; rw [rest_no]; rw [HR.out]; omega), hb3⟩
        · have HA : Hid (sumOf repSz (xs.take k) = sumOf repSz xs) := sum_all repSz xs k (by omega)
          go_wp2
          go_ret
          exact ⟨ret_int (by have a := HA.out; rw [rest_yes] <;> rw [HR.out] <;> omega), hb⟩
    · have hneg : left - (xs.length : Int) < 0 := by omega
      go_enter Tryz.func51, Tryz.ntmps51
      go_wp2
      go_ret
      exact ⟨ret_int (by rw [rest_no]; rw [HR.out]; omega), Below.refl _ _⟩
end Go.Proofs.YtebdfmijlnkcbaaGreatDoor.Msg
