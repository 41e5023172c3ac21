import Derived.Test.YtfcmhnfdbobnlaaGreatDoorMsgEqwithMsgEq2withMsgTo
namespace Go.Proofs.YtfcmhnfdbobnlaaGreatDoor.Msg
open Go.ChangeShapes Go.WideShapes Go.ChangeAt Go.RowKit
set_option linter.unusedVariables false
set_option linter.unusedSimpArgs false

theorem all_step {α : Type} {p : α → Bool} {xs : List α} {k : Nat} (h : k < xs.length) (h1 : (xs.take k).all p = true) (h2 : p xs[k] = true) : (xs.take (k + 1)).all p = true := by
  rw [List.take_succ_eq_append_getElem h, List.all_append, h1]
  simp [h2]
theorem all_fail {α : Type} {p : α → Bool} {xs : List α} {k : Nat} (h : k < xs.length) (h2 : p xs[k] = false) : xs.all p = false := by
  rw [List.all_eq_false]
  exact ⟨xs[k], List.getElem_mem h, by simp [h2]⟩
theorem all_done {α : Type} {p : α → Bool} {xs : List α} {k : Nat} (h : xs.length ≤ k) (h1 : (xs.take k).all p = true) : xs.all p = true := by
  rwa [List.take_of_length_le h] at h1

def plainC (c : UInt8) : Bool := decide (32 ≤ c.toNat) && decide (c.toNat ≤ 126)
def plainB (s : ByteArray) : Bool := s.data.toList.all plainC
def capB (c : UInt8) : Bool := decide (65 ≤ c.toNat) && decide (c.toNat ≤ 90)
def digB (c : UInt8) : Bool := decide (48 ≤ c.toNat) && decide (c.toNat ≤ 57)
/-- a segment name -/
def nameB (s : ByteArray) : Bool := match s.data.toList with
  | [a, b, c] => capB a && ((capB b || digB b) && (capB c || digB c))
  | _ => false
/-- the last of a list is not empty -/
def endB {α : Type} (f : α → Nat) (xs : List α) : Bool := match xs.getLast? with
  | none => true
  | some x => decide (0 < f x)
def repB (r : Rep) : Bool := decide (r.length ≤ 20) && (endB ByteArray.size r && r.all plainB)
def fieldB (f : Field) : Bool := decide (f.length ≤ 30) && (endB List.length f && f.all repB)
def mshB (s : ByteArray) : Bool := s.toList == [77, 83, 72]
def segB (first : Bool) (s : Seg) : Bool := nameB s.name && ((mshB s.name == first) && (decide (s.fields.length ≤ 30) && (endB List.length s.fields && s.fields.all fieldB)))
def shapeB (m : List Seg) : Bool := decide (1 ≤ m.length) && (decide (m.length ≤ 250) && m.zipIdx.all fun p => segB (p.2 == 0) p.1)

theorem endB_at {α : Type} (f : α → Nat) (xs : List α) (h : 0 < xs.length) : endB f xs = decide (0 < f xs[xs.length - 1]) := by
  unfold endB
  rw [List.getLast?_eq_getElem?, List.getElem?_eq_getElem (by omega)]
theorem endB_nil {α : Type} (f : α → Nat) (xs : List α) (h : xs.length = 0) : endB f xs = true := by
  rw [List.length_eq_zero_iff] at h
  subst h
  rfl

set_option maxHeartbeats 400000 in
theorem capital_any (c : UInt8) (w : World) :
    Calls Tryz.prog 99 #[.int .u8 (c.toNat : Int)] w fun e w' => e = .returned (.bool (capB c)) ∧ w' = w := by
  have HC : Hid (capB c = (decide (65 ≤ c.toNat) && decide (c.toNat ≤ 90))) := rfl
  by_cases h1 : (65 : Int) ≤ (c.toNat : Int)
  · by_cases h2 : (c.toNat : Int) ≤ 90
    · go_enter Tryz.func99, Tryz.ntmps99
      go_wp2
      go_ret
      exact ⟨ret_bool (by rw [HC.out, decide_eq_true (by omega), decide_eq_true (by omega)]; rfl), rfl⟩
    · go_enter Tryz.func99, Tryz.ntmps99
      go_wp2
      go_ret
      exact ⟨ret_bool (by rw [HC.out, decide_eq_false (p := c.toNat ≤ 90) (by omega), Bool.and_false]), rfl⟩
  · go_enter Tryz.func99, Tryz.ntmps99
    go_wp2
    go_ret
    exact ⟨ret_bool (by rw [HC.out, decide_eq_false (p := 65 ≤ c.toNat) (by omega)]; rfl), rfl⟩

set_option maxHeartbeats 400000 in
theorem plain_any (s : ByteArray) (w : World) (hs : s.size ≤ 9223372036854775807) :
    Calls Tryz.prog 67 #[.string s] w fun e w' => e = .returned (.bool (plainB s)) ∧ w' = w := by
  go_enter Tryz.func67, Tryz.ntmps67
  go_wp2
  go_loop [3] (fun i => ∃ k : Nat, k ≤ s.size ∧ i = .int .i64 k ∧ (s.data.toList.take k).all plainC = true) (fun i => s.size - (intOf i).toNat)
  case atStart => exact ⟨0, Nat.zero_le _, rfl, rfl⟩
  case round =>
    obtain ⟨k, hk, rfl, hall⟩ := hrel
    have HA := hide hall
    clear hall
    have hsz : s.data.toList.length = s.size := by simp
    by_cases hlt : k < s.size
    · have HK : Hid (∀ h, s.data.toList[k]'h = s[k]) := fun h => rfl
      have HP : Hid (plainC s[k] = (decide (32 ≤ s[k].toNat) && decide (s[k].toNat ≤ 126))) := rfl
      by_cases h1 : (s[k].toNat : Int) < 32
      · have HF : Hid (plainC s[k] = false) := by rw [HP.out, decide_eq_false (by omega)]; rfl
        have HZ := hide (all_fail (p := plainC) (xs := s.data.toList) (k := k) (by omega) (by rw [HK.out]; exact HF.out))
        clear hsz
        go_wp2
        go_ret
        exact ⟨ret_bool HZ.out.symm, rfl⟩
      · by_cases h2 : (126 : Int) < (s[k].toNat : Int)
        · have HF : Hid (plainC s[k] = false) := by rw [HP.out, decide_eq_false (p := s[k].toNat ≤ 126) (by omega), Bool.and_false]; trivial
          have HZ := hide (all_fail (p := plainC) (xs := s.data.toList) (k := k) (by omega) (by rw [HK.out]; exact HF.out))
          clear hsz
          go_wp2
          go_ret
          exact ⟨ret_bool HZ.out.symm, rfl⟩
        · have HF : Hid (plainC s[k] = true) := by rw [HP.out, decide_eq_true (by omega), decide_eq_true (by omega)]; rfl
          have HZ := hide (all_step (p := plainC) (xs := s.data.toList) (k := k) (by omega) HA.out (by rw [HK.out]; exact HF.out))
          clear hsz
          go_wp2
          go_round
          case rel => exact ⟨k + 1, by omega, by go_num, HZ.out⟩
          case measure => simp [intOf]; omega
    · have HZ := hide (all_done (by omega) HA.out)
      clear hsz
      go_wp2
      go_ret
      exact ⟨ret_bool HZ.out.symm, rfl⟩

theorem name_no (s : ByteArray) (h : s.size ≠ 3) : nameB s = false := by
  unfold nameB
  split
  · rename_i a b c he
    have : s.data.toList.length = 3 := by rw [he]; rfl
    simp at this
    exact absurd this h
  · rfl
theorem name_yes (s : ByteArray) (h : s.size = 3) : nameB s = (capB (s[0]'(by omega)) && ((capB (s[1]'(by omega)) || digB (s[1]'(by omega))) && (capB (s[2]'(by omega)) || digB (s[2]'(by omega))))) := by
  have e : s.data.toList = [s[0]'(by omega), s[1]'(by omega), s[2]'(by omega)] := by
    apply List.ext_getElem
    · simpa using h
    · intro i h1 h2
      have h3 : i < 3 := by simpa using h2
      match i, h3 with
      | 0, _ => rfl
      | 1, _ => rfl
      | 2, _ => rfl
  unfold nameB
  rw [e]

/-- the test of one byte of a name behind the first -/
def tailB (c : UInt8) : Bool := capB c || digB c

set_option maxHeartbeats 800000 in
theorem segName_any (s : ByteArray) (w : World) (hs : s.size ≤ 9223372036854775807) :
    Calls Tryz.prog 82 #[.string s] w fun e w' => e = .returned (.bool (nameB s)) ∧ w' = w := by
  by_cases h3 : s.size = 3
  · have HN := hide (name_yes s h3)
    have hne : ((s.size : Int) == 3) = true := by simp; omega
    have h30 : (0 : Int) < (s.size : Int) := by omega
    cases hc : capB (s[0]'(by omega))
    · have HC := hide hc
      clear hc
      go_enter Tryz.func82, Tryz.ntmps82
      go_wp2_with fail
      refine (capital_any (s[0]'(by omega)) _).mono ?_
      rintro e w' ⟨rfl, rfl⟩
      rw [HC.out]
      go_wp2_with fail
      go_ret
      exact ⟨ret_bool (by rw [HN.out, HC.out]; rfl), rfl⟩
    · have HC := hide hc
      clear hc
      go_enter Tryz.func82, Tryz.ntmps82
      go_wp2_with fail
      refine (capital_any (s[0]'(by omega)) _).mono ?_
      rintro e w' ⟨rfl, rfl⟩
      rw [HC.out]
      go_wp2_with fail
      go_loop [3] (fun i => ∃ k : Nat, 1 ≤ k ∧ k ≤ 3 ∧ i = .int .i64 k ∧ ∀ j (h : j < s.size), 1 ≤ j → j < k → tailB s[j] = true) (fun i => 3 - (intOf i).toNat)
      case atStart => exact ⟨1, by omega, by omega, rfl, fun j _ h1 h2 => absurd h2 (by omega)⟩
      case round =>
        obtain ⟨k, hk1, hk, rfl, hall⟩ := hrel
        have HA := hide hall
        clear hall
        by_cases hlt : k < 3
        · have hks : k < s.size := by omega
          have hks' : (k : Int) < (s.size : Int) := by omega
          have HT : Hid (tailB s[k] = (capB s[k] || (decide (48 ≤ s[k].toNat) && decide (s[k].toNat ≤ 57)))) := rfl
          have HBad : Hid (tailB s[k] = false → nameB s = false) := fun hf => by
            rw [HN.out]
            rcases (by omega : k = 1 ∨ k = 2) with rfl | rfl
            · change (_ && (tailB s[1] && tailB _)) = false
              rw [hf]; simp
            · change (_ && (tailB _ && tailB s[2])) = false
              rw [hf]; simp
          have HGood : Hid (tailB s[k] = true → ∀ j (h : j < s.size), 1 ≤ j → j < k + 1 → tailB s[j] = true) := fun ht j h h1 h2 => by
            by_cases e : j = k
            · subst e; exact ht
            · exact HA.out j h h1 (by omega)
          cases hcap : capB s[k]
          · have HCap := hide hcap
            clear hcap
            by_cases h48 : (s[k].toNat : Int) < 48
            · go_wp2_with fail
              refine (capital_any s[k] _).mono ?_
              rintro e w' ⟨rfl, rfl⟩
              rw [HCap.out]
              go_wp2_with fail
              go_ret
              exact ⟨ret_bool (HBad.out (by rw [HT.out, HCap.out, decide_eq_false (p := 48 ≤ s[k].toNat) (by omega)]; rfl)).symm, rfl⟩
            · by_cases h57 : (57 : Int) < (s[k].toNat : Int)
              · go_wp2_with fail
                refine (capital_any s[k] _).mono ?_
                rintro e w' ⟨rfl, rfl⟩
                rw [HCap.out]
                go_wp2_with fail
                go_ret
                exact ⟨ret_bool (HBad.out (by rw [HT.out, HCap.out, decide_eq_false (p := s[k].toNat ≤ 57) (by omega)]; simp)).symm, rfl⟩
              · go_wp2_with fail
                refine (capital_any s[k] _).mono ?_
                rintro e w' ⟨rfl, rfl⟩
                rw [HCap.out]
                go_wp2_with fail
                go_round
                case rel => exact ⟨k + 1, by omega, by omega, by go_num, HGood.out (by rw [HT.out, HCap.out, decide_eq_true (p := 48 ≤ s[k].toNat) (by omega), decide_eq_true (by omega)]; rfl)⟩
                case measure => simp [intOf]; omega
          · have HCap := hide hcap
            clear hcap
            go_wp2_with fail
            refine (capital_any s[k] _).mono ?_
            rintro e w' ⟨rfl, rfl⟩
            rw [HCap.out]
            go_wp2_with fail
            go_round
            case rel => exact ⟨k + 1, by omega, by omega, by go_num, HGood.out (by rw [HT.out, HCap.out]; rfl)⟩
            case measure => simp [intOf]; omega
        · obtain rfl : k = 3 := by omega
          have HFin : Hid (nameB s = true) := by
            rw [HN.out, HC.out]
            change (true && (tailB _ && tailB _)) = true
            rw [HA.out 1 (by omega) (by omega) (by omega), HA.out 2 (by omega) (by omega) (by omega)]
            rfl
          go_wp2_with fail
          go_ret
          exact ⟨ret_bool HFin.out.symm, rfl⟩
  · have HN := hide (name_no s h3)
    have hne : ((s.size : Int) == 3) = false := by simp; omega
    go_enter Tryz.func82, Tryz.ntmps82
    go_wp2_with fail
    go_ret
    exact ⟨ret_bool HN.out.symm, rfl⟩
end Go.Proofs.YtfcmhnfdbobnlaaGreatDoor.Msg
