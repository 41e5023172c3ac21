import Derived.Test.YtebdfmijlnkcbaaGreatDoorMsgData
namespace Go.Proofs.YtebdfmijlnkcbaaGreatDoor.Msg
open Go.ChangeShapes Go.WideShapes Go.ChangeAt Go.RowKit

set_option maxHeartbeats 400000 in
theorem szStrs_any (xs : List ByteArray) (v : Value) (left : Int) (w : World) (h0 : 0 ≤ left) (h1 : left ≤ 1048576) {lo : Nat} (hv : StrsAt lo w v xs) :
    Calls Tryz.prog 62 #[v, .int .i64 left] w fun e w' => e = .returned (.int .i64 (rest left (repSz xs))) ∧ w' = w := by
  obtain ⟨hl, hv⟩ := hv
  have HR : Hid (repSz xs = xs.length + sumOf strSz xs) := rfl
  rcases hv with ⟨a0, c0, rfl, rfl⟩ | ⟨b, off, cap, rfl, ⟨_, hlt⟩, hc⟩
  · go_enter Tryz.func62, Tryz.ntmps62
    go_wp2
    go_loop [1, 5] (fun r i => r = .int .i64 left ∧ i = .int .i64 0) (fun _ _ => 0)
    case atStart => exact ⟨rfl, rfl⟩
    case round =>
      obtain ⟨rfl, rfl⟩ := hrel
      go_wp2
      go_ret
      exact ⟨ret_int (by rw [rest_yes] <;> simp [repSz, lenSum, sumOf]; omega), rfl⟩
  · by_cases hfit : (xs.length : Int) ≤ left
    · have hneg : ¬ left - (xs.length : Int) < 0 := by omega
      go_enter Tryz.func62, Tryz.ntmps62
      go_wp2
      go_loop [1, 5] (fun r i => ∃ k : Nat, k ≤ xs.length ∧ i = .int .i64 k ∧ r = .int .i64 (left - xs.length - (sumOf strSz (xs.take k) : Nat)) ∧ ((xs.length + sumOf strSz (xs.take k) : Nat) : Int) ≤ left) (fun _ i => xs.length - (intOf i).toNat)
      case atStart => exact ⟨0, Nat.zero_le _, rfl, by simp [sumOf], by simpa [sumOf] using hfit⟩
      case round =>
        obtain ⟨k, hk, rfl, rfl, hs⟩ := hrel
        by_cases hlt2 : k < xs.length
        · obtain ⟨hcell, hsz⟩ := hc k hlt2
          have hcell' : w.cell? ⟨b, off + k, none⟩ = some (.string xs[k]) := by simpa using hcell
          have HS : Hid (sumOf strSz (xs.take (k + 1)) = sumOf strSz (xs.take k) + xs[k].size) := sum_take strSz xs k hlt2
          have HL : Hid (sumOf strSz (xs.take (k + 1)) ≤ sumOf strSz xs) := sum_le strSz xs (k + 1)
          clear hcell
          by_cases hn : left - (xs.length : Int) - ((sumOf strSz (xs.take k) : Nat) : Int) - (xs[k].size : Int) < 0
          · go_wp2
            go_ret
            exact ⟨ret_int (by have a := HS.out; have b := HL.out; rw [rest_no]; rw [HR.out]; omega), rfl⟩
          · go_wp2
            go_round
            case rel => exact ⟨k + 1, by omega, by go_num, by rw [HS.out]; go_num, by have a := HS.out; omega⟩
            case measure => simp [intOf]; omega
        · have HA : Hid (sumOf strSz (xs.take k) = sumOf strSz xs) := sum_all strSz xs k (by omega)
          go_wp2
          go_ret
          exact ⟨ret_int (by have a := HA.out; rw [rest_yes] <;> rw [HR.out] <;> omega), rfl⟩
    · have hneg : left - (xs.length : Int) < 0 := by omega
      go_enter Tryz.func62, Tryz.ntmps62
      go_wp2
      go_ret
      exact ⟨ret_int (by rw [rest_no]; rw [HR.out]; omega), rfl⟩
end Go.Proofs.YtebdfmijlnkcbaaGreatDoor.Msg
