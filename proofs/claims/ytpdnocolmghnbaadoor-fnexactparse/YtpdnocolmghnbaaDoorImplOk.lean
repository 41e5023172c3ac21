import Derived.Test.YtpdnocolmghnbaaDoorMsgOk
namespace Go.Proofs.YtpdnocolmghnbaaDoor.Msg
open Go.ChangeShapes Go.WideShapes Go.ChangeAt Go.RowKit
set_option linter.unusedVariables false
set_option linter.unusedSimpArgs false

set_option maxHeartbeats 400000 in
theorem isCapital_any (c : UInt8) (w : World) :
    Calls Tryd.prog 53 #[.int .u8 (c.toNat : Int)] w fun e w' => e = .returned (.bool (capB c)) ∧ w' = w := by
  have HC : Hid (capB c = (decide (65 ≤ c.toNat) && decide (c.toNat ≤ 90))) := rfl
  by_cases h1 : (65 : Int) ≤ (c.toNat : Int)
  · by_cases h2 : (c.toNat : Int) ≤ 90
    · go_enter Tryd.func53, Tryd.ntmps53
      go_wp2
      go_ret
      exact ⟨ret_bool (by rw [HC.out, decide_eq_true (by omega), decide_eq_true (by omega)]; rfl), rfl⟩
    · go_enter Tryd.func53, Tryd.ntmps53
      go_wp2
      go_ret
      exact ⟨ret_bool (by rw [HC.out, decide_eq_false (p := c.toNat ≤ 90) (by omega), Bool.and_false]), rfl⟩
  · go_enter Tryd.func53, Tryd.ntmps53
    go_wp2
    go_ret
    exact ⟨ret_bool (by rw [HC.out, decide_eq_false (p := 65 ≤ c.toNat) (by omega)]; rfl), rfl⟩

set_option maxHeartbeats 400000 in
theorem isDigit_any (c : UInt8) (w : World) :
    Calls Tryd.prog 54 #[.int .u8 (c.toNat : Int)] w fun e w' => e = .returned (.bool (digB c)) ∧ w' = w := by
  have HC : Hid (digB c = (decide (48 ≤ c.toNat) && decide (c.toNat ≤ 57))) := rfl
  by_cases h1 : (48 : Int) ≤ (c.toNat : Int)
  · by_cases h2 : (c.toNat : Int) ≤ 57
    · go_enter Tryd.func54, Tryd.ntmps54
      go_wp2
      go_ret
      exact ⟨ret_bool (by rw [HC.out, decide_eq_true (by omega), decide_eq_true (by omega)]; rfl), rfl⟩
    · go_enter Tryd.func54, Tryd.ntmps54
      go_wp2
      go_ret
      exact ⟨ret_bool (by rw [HC.out, decide_eq_false (p := c.toNat ≤ 57) (by omega), Bool.and_false]), rfl⟩
  · go_enter Tryd.func54, Tryd.ntmps54
    go_wp2
    go_ret
    exact ⟨ret_bool (by rw [HC.out, decide_eq_false (p := 48 ≤ c.toNat) (by omega)]; rfl), rfl⟩

set_option maxHeartbeats 400000 in
theorem isPlain_any (s : ByteArray) (w : World) (hs : s.size ≤ 9223372036854775807) :
    Calls Tryd.prog 25 #[.string s] w fun e w' => e = .returned (.bool (plainB s)) ∧ w' = w := by
  go_enter Tryd.func25, Tryd.ntmps25
  go_wp2
  go_loop [6] (fun i => ∃ k : Nat, k ≤ s.size ∧ i = .int .i64 k ∧ (s.data.toList.take k).all plainC = true) (fun i => s.size - (intOf i).toNat)
  case atStart => exact ⟨0, Nat.zero_le _, rfl, rfl⟩
  case round =>
    obtain ⟨k, hk, rfl, hall⟩ := hrel
    have HA := hide hall
    clear hall
    have hsz : s.data.toList.length = s.size := by simp
    by_cases hlt : k < s.size
    · have HK : Hid (∀ h, s.data.toList[k]'h = s[k]) := fun h => rfl
      have HP : Hid (plainC s[k] = (decide (32 ≤ s[k].toNat) && decide (s[k].toNat ≤ 126))) := rfl
      by_cases h1 : (s[k].toNat : Int) < 32
      · have HF : Hid (plainC s[k] = false) := by rw [HP.out, decide_eq_false (by omega)]; rfl
        have HZ := hide (all_fail (p := plainC) (xs := s.data.toList) (k := k) (by omega) (by rw [HK.out]; exact HF.out))
        clear hsz
        go_wp2
        go_ret
        exact ⟨ret_bool HZ.out.symm, rfl⟩
      · by_cases h2 : (126 : Int) < (s[k].toNat : Int)
        · have HF : Hid (plainC s[k] = false) := by rw [HP.out, decide_eq_false (p := s[k].toNat ≤ 126) (by omega), Bool.and_false]; trivial
          have HZ := hide (all_fail (p := plainC) (xs := s.data.toList) (k := k) (by omega) (by rw [HK.out]; exact HF.out))
          clear hsz
          go_wp2
          go_ret
          exact ⟨ret_bool HZ.out.symm, rfl⟩
        · have HF : Hid (plainC s[k] = true) := by rw [HP.out, decide_eq_true (by omega), decide_eq_true (by omega)]; rfl
          have HZ := hide (all_step (p := plainC) (xs := s.data.toList) (k := k) (by omega) HA.out (by rw [HK.out]; exact HF.out))
          clear hsz
          go_wp2
          go_round
          case rel => exact ⟨k + 1, by omega, by go_num, HZ.out⟩
          case measure => simp [intOf]; omega
    · have HZ := hide (all_done (by omega) HA.out)
      clear hsz
      go_wp2
      go_ret
      exact ⟨ret_bool HZ.out.symm, rfl⟩

set_option maxHeartbeats 1000000 in
theorem isSegmentName_any (s : ByteArray) (w : World) (hs : s.size ≤ 9223372036854775807) :
    Calls Tryd.prog 41 #[.string s] w fun e w' => e = .returned (.bool (nameB s)) ∧ w' = w := by
  by_cases h3 : s.size = 3
  · have HN := hide (name_yes s h3)
    have hne : ((s.size : Int) != 3) = false := by simp; omega
    have h30 : (0 : Int) < (s.size : Int) := by omega
    have hne2 : (s.size : Int) = 3 := by omega
    cases hc : capB (s[0]'(by omega))
    · have HC := hide hc
      clear hc
      go_enter Tryd.func41, Tryd.ntmps41
      go_wp2_with fail
      refine (isCapital_any (s[0]'(by omega)) _).mono ?_
      rintro e w' ⟨rfl, rfl⟩
      rw [HC.out]
      go_wp2_with fail
      go_ret
      exact ⟨ret_bool (by rw [HN.out, HC.out]; rfl), rfl⟩
    · have HC := hide hc
      clear hc
      go_enter Tryd.func41, Tryd.ntmps41
      go_wp2_with fail
      refine (isCapital_any (s[0]'(by omega)) _).mono ?_
      rintro e w' ⟨rfl, rfl⟩
      rw [HC.out]
      go_wp2_with fail
      go_loop [15] (fun i => ∃ k : Nat, k ≤ 3 ∧ i = .int .i64 k ∧ ∀ j (h : j < s.size), j < k → tailB s[j] = true) (fun i => 3 - (intOf i).toNat)
      case atStart => exact ⟨0, by omega, rfl, fun j _ h2 => absurd h2 (by omega)⟩
      case round =>
        obtain ⟨k, hk, rfl, hall⟩ := hrel
        have HA := hide hall
        clear hall
        by_cases hlt : k < 3
        · have hks : k < s.size := by omega
          have hks' : (k : Int) < (s.size : Int) := by omega
          have HT : Hid (tailB s[k] = (capB s[k] || digB s[k])) := rfl
          have HBad : Hid (tailB s[k] = false → nameB s = false) := fun hf => by
            rw [HN.out]
            rcases (by omega : k = 0 ∨ k = 1 ∨ k = 2) with rfl | rfl | rfl
            · rw [(Bool.or_eq_false_iff.1 hf).1]; rfl
            · change (_ && (tailB s[1] && tailB _)) = false
              rw [hf]; simp
            · change (_ && (tailB _ && tailB s[2])) = false
              rw [hf]; simp
          have HGood : Hid (tailB s[k] = true → ∀ j (h : j < s.size), j < k + 1 → tailB s[j] = true) := fun ht j h h2 => by
            by_cases e : j = k
            · subst e; exact ht
            · exact HA.out j h (by omega)
          cases hcap : capB s[k]
          · have HCap := hide hcap
            clear hcap
            cases hdig : digB s[k]
            · have HDig := hide hdig
              clear hdig
              go_wp2_with fail
              refine (isCapital_any s[k] _).mono ?_
              rintro e w' ⟨rfl, rfl⟩
              rw [HCap.out]
              go_wp2_with fail
              refine (isDigit_any s[k] _).mono ?_
              rintro e w' ⟨rfl, rfl⟩
              rw [HDig.out]
              go_wp2_with fail
              go_ret
              exact ⟨ret_bool (HBad.out (by rw [HT.out, HCap.out, HDig.out]; rfl)).symm, rfl⟩
            · have HDig := hide hdig
              clear hdig
              go_wp2_with fail
              refine (isCapital_any s[k] _).mono ?_
              rintro e w' ⟨rfl, rfl⟩
              rw [HCap.out]
              go_wp2_with fail
              refine (isDigit_any s[k] _).mono ?_
              rintro e w' ⟨rfl, rfl⟩
              rw [HDig.out]
              go_wp2_with fail
              go_round
              case rel => exact ⟨k + 1, by omega, by go_num, HGood.out (by rw [HT.out, HCap.out, HDig.out]; rfl)⟩
              case measure => simp [intOf]; omega
          · have HCap := hide hcap
            clear hcap
            go_wp2_with fail
            refine (isCapital_any s[k] _).mono ?_
            rintro e w' ⟨rfl, rfl⟩
            rw [HCap.out]
            go_wp2_with fail
            go_round
            case rel => exact ⟨k + 1, by omega, by go_num, HGood.out (by rw [HT.out, HCap.out]; rfl)⟩
            case measure => simp [intOf]; omega
        · obtain rfl : k = 3 := by omega
          have HFin : Hid (nameB s = true) := by
            rw [HN.out, HC.out]
            change (true && (tailB _ && tailB _)) = true
            rw [HA.out 1 (by omega) (by omega), HA.out 2 (by omega) (by omega)]
            rfl
          go_wp2_with fail
          go_ret
          exact ⟨ret_bool HFin.out.symm, rfl⟩
  · have HN := hide (name_no s h3)
    have hne : ((s.size : Int) != 3) = true := by simp; omega
    have hne2 : ¬ (s.size : Int) = 3 := by omega
    go_enter Tryd.func41, Tryd.ntmps41
    go_wp2_with fail
    go_ret
    exact ⟨ret_bool HN.out.symm, rfl⟩
end Go.Proofs.YtpdnocolmghnbaaDoor.Msg
