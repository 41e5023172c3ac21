import Derived.Test.YtebdfmijlnkcbaaGreatDoorMsgOk
namespace Go.Proofs.YtebdfmijlnkcbaaGreatDoor.Msg
open Go.ChangeShapes Go.WideShapes Go.ChangeAt Go.RowKit
set_option linter.unusedVariables false
set_option linter.unusedSimpArgs false

set_option maxHeartbeats 400000 in
theorem isPlain_any (s : ByteArray) (w : World) (hs : s.size ≤ 9223372036854775807) :
    Calls Tryz.prog 41 #[.string s] w fun e w' => e = .returned (.bool (plainB s)) ∧ w' = w := by
  go_enter Tryz.func41, Tryz.ntmps41
  go_wp2
  go_loop [6] (fun i => ∃ k : Nat, k ≤ s.size ∧ i = .int .i64 k ∧ (s.data.toList.take k).all plainC = true) (fun i => s.size - (intOf i).toNat)
  case atStart => exact ⟨0, Nat.zero_le _, rfl, rfl⟩
  case round =>
    obtain ⟨k, hk, rfl, hall⟩ := hrel
    have HA := hide hall
    clear hall
    have hsz : s.data.toList.length = s.size := by simp
    by_cases hlt : k < s.size
    · have HK : Hid (∀ h, s.data.toList[k]'h = s[k]) := fun h => rfl
      have HP : Hid (plainC s[k] = (decide (32 ≤ s[k].toNat) && decide (s[k].toNat ≤ 126))) := rfl
      by_cases h1 : (s[k].toNat : Int) < 32
      · have HF : Hid (plainC s[k] = false) := by rw [HP.out, decide_eq_false (by omega)]; rfl
        have HZ := hide (all_fail (p := plainC) (xs := s.data.toList) (k := k) (by omega) (by rw [HK.out]; exact HF.out))
        clear hsz
        go_wp2
        go_ret
        exact ⟨ret_bool HZ.out.symm, rfl⟩
      · by_cases h2 : (126 : Int) < (s[k].toNat : Int)
        · have HF : Hid (plainC s[k] = false) := by rw [HP.out, decide_eq_false (p := s[k].toNat ≤ 126) (by omega), Bool.and_false]; trivial
          have HZ := hide (all_fail (p := plainC) (xs := s.data.toList) (k := k) (by omega) (by rw [HK.out]; exact HF.out))
          clear hsz
          go_wp2
          go_ret
          exact ⟨ret_bool HZ.out.symm, rfl⟩
        · have HF : Hid (plainC s[k] = true) := by rw [HP.out, decide_eq_true (by omega), decide_eq_true (by omega)]; rfl
          have HZ := hide (all_step (p := plainC) (xs := s.data.toList) (k := k) (by omega) HA.out (by rw [HK.out]; exact HF.out))
          clear hsz
          go_wp2
          go_round
          case rel => exact ⟨k + 1, by omega, by go_num, HZ.out⟩
          case measure => simp [intOf]; omega
    · have HZ := hide (all_done (by omega) HA.out)
      clear hsz
      go_wp2
      go_ret
      exact ⟨ret_bool HZ.out.symm, rfl⟩

end Go.Proofs.YtebdfmijlnkcbaaGreatDoor.Msg
