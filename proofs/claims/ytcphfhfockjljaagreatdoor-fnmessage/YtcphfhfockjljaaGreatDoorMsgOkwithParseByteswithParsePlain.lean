import Derived.Test.YtcphfhfockjljaaGreatDoorMsgEqwithMsgEq2withMsgTo
import Derived.Test.YtcphfhfockjljaaGreatDoorParseFields
import Derived.Deep.LoopGhost
import Derived.Deep.CutBlock
namespace Go.Proofs.YtcphfhfockjljaaGreatDoor.Msg
open Go.ChangeShapes Go.WideShapes Go.ChangeAt Go.RowKit
set_option linter.unusedVariables false
set_option linter.unusedSimpArgs false

theorem all_step {α : Type} {p : α → Bool} {xs : List α} {k : Nat} (h : k < xs.length) (h1 : (xs.take k).all p = true) (h2 : p xs[k] = true) : (xs.take (k + 1)).all p = true := by
  rw [List.take_succ_eq_append_getElem h, List.all_append, h1]
  simp [h2]
theorem all_fail {α : Type} {p : α → Bool} {xs : List α} {k : Nat} (h : k < xs.length) (h2 : p xs[k] = false) : xs.all p = false := by
  rw [List.all_eq_false]
  exact ⟨xs[k], List.getElem_mem h, by simp [h2]⟩
theorem all_done {α : Type} {p : α → Bool} {xs : List α} {k : Nat} (h : xs.length ≤ k) (h1 : (xs.take k).all p = true) : xs.all p = true := by
  rwa [List.take_of_length_le h] at h1

def plainC (c : UInt8) : Bool := decide (32 ≤ c.toNat) && decide (c.toNat ≤ 126)
def plainB (s : ByteArray) : Bool := s.data.toList.all plainC
def capB (c : UInt8) : Bool := decide (65 ≤ c.toNat) && decide (c.toNat ≤ 90)
def digB (c : UInt8) : Bool := decide (48 ≤ c.toNat) && decide (c.toNat ≤ 57)
/-- a segment name -/
def nameB (s : ByteArray) : Bool := match s.data.toList with
  | [a, b, c] => capB a && ((capB b || digB b) && (capB c || digB c))
  | _ => false
/-- the last of a list is not empty -/
def endB {α : Type} (f : α → Nat) (xs : List α) : Bool := match xs.getLast? with
  | none => true
  | some x => decide (0 < f x)
def repB (r : Rep) : Bool := decide (r.length ≤ 20) && (endB ByteArray.size r && r.all plainB)
def fieldB (f : Field) : Bool := decide (f.length ≤ 30) && (endB List.length f && f.all repB)
def mshB (s : ByteArray) : Bool := s.toList == [77, 83, 72]
def segB (first : Bool) (s : Seg) : Bool := nameB s.name && ((mshB s.name == first) && (decide (s.fields.length ≤ 30) && (endB List.length s.fields && s.fields.all fieldB)))
def shapeB (m : List Seg) : Bool := decide (1 ≤ m.length) && (decide (m.length ≤ 250) && m.zipIdx.all fun p => segB (p.2 == 0) p.1)

theorem endB_at {α : Type} (f : α → Nat) (xs : List α) (h : 0 < xs.length) : endB f xs = decide (0 < f xs[xs.length - 1]) := by
  unfold endB
  rw [List.getLast?_eq_getElem?, List.getElem?_eq_getElem (by omega)]
theorem endB_nil {α : Type} (f : α → Nat) (xs : List α) (h : xs.length = 0) : endB f xs = true := by
  rw [List.length_eq_zero_iff] at h
  subst h
  rfl

set_option maxHeartbeats 400000 in
theorem capital_any (c : UInt8) (w : World) :
    Calls Tryz.prog 53 #[.int .u8 (c.toNat : Int)] w fun e w' => e = .returned (.bool (capB c)) ∧ w' = w := by
  have HC : Hid (capB c = (decide (65 ≤ c.toNat) && decide (c.toNat ≤ 90))) := rfl
  by_cases h1 : (65 : Int) ≤ (c.toNat : Int)
  · by_cases h2 : (c.toNat : Int) ≤ 90
    · go_enter Tryz.func53, Tryz.ntmps53
      go_wp2
      go_ret
      exact ⟨ret_bool (by rw [HC.out, decide_eq_true (by omega), decide_eq_true (by omega)]; rfl), rfl⟩
    · go_enter Tryz.func53, Tryz.ntmps53
      go_wp2
      go_ret
      exact ⟨ret_bool (by rw [HC.out, decide_eq_false (p := c.toNat ≤ 90) (by omega), Bool.and_false]), rfl⟩
  · go_enter Tryz.func53, Tryz.ntmps53
    go_wp2
    go_ret
    exact ⟨ret_bool (by rw [HC.out, decide_eq_false (p := 65 ≤ c.toNat) (by omega)]; rfl), rfl⟩

set_option maxHeartbeats 400000 in
theorem plain_any (s : ByteArray) (w : World) (hs : s.size ≤ 9223372036854775807) :
    Calls Tryz.prog 103 #[.string s] w fun e w' => e = .returned (.bool (plainB s)) ∧ w' = w := by
  go_enter Tryz.func103, Tryz.ntmps103
  go_wp2
  go_loop [3] (fun i => ∃ k : Nat, k ≤ s.size ∧ i = .int .i64 k ∧ (s.data.toList.take k).all plainC = true) (fun i => s.size - (intOf i).toNat)
  case atStart => exact ⟨0, Nat.zero_le _, rfl, rfl⟩
  case round =>
    obtain ⟨k, hk, rfl, hall⟩ := hrel
    have HA := hide hall
    clear hall
    have hsz : s.data.toList.length = s.size := by simp
    by_cases hlt : k < s.size
    · have HK : Hid (∀ h, s.data.toList[k]'h = s[k]) := fun h => rfl
      have HP : Hid (plainC s[k] = (decide (32 ≤ s[k].toNat) && decide (s[k].toNat ≤ 126))) := rfl
      by_cases h1 : (s[k].toNat : Int) < 32
      · have HF : Hid (plainC s[k] = false) := by rw [HP.out, decide_eq_false (by omega)]; rfl
        have HZ := hide (all_fail (p := plainC) (xs := s.data.toList) (k := k) (by omega) (by rw [HK.out]; exact HF.out))
        clear hsz
        go_wp2
        go_ret
        exact ⟨ret_bool HZ.out.symm, rfl⟩
      · by_cases h2 : (126 : Int) < (s[k].toNat : Int)
        · have HF : Hid (plainC s[k] = false) := by rw [HP.out, decide_eq_false (p := s[k].toNat ≤ 126) (by omega), Bool.and_false]; trivial
          have HZ := hide (all_fail (p := plainC) (xs := s.data.toList) (k := k) (by omega) (by rw [HK.out]; exact HF.out))
          clear hsz
          go_wp2
          go_ret
          exact ⟨ret_bool HZ.out.symm, rfl⟩
        · have HF : Hid (plainC s[k] = true) := by rw [HP.out, decide_eq_true (by omega), decide_eq_true (by omega)]; rfl
          have HZ := hide (all_step (p := plainC) (xs := s.data.toList) (k := k) (by omega) HA.out (by rw [HK.out]; exact HF.out))
          clear hsz
          go_wp2
          go_round
          case rel => exact ⟨k + 1, by omega, by go_num, HZ.out⟩
          case measure => simp [intOf]; omega
    · have HZ := hide (all_done (by omega) HA.out)
      clear hsz
      go_wp2
      go_ret
      exact ⟨ret_bool HZ.out.symm, rfl⟩

theorem name_no (s : ByteArray) (h : s.size ≠ 3) : nameB s = false := by
  unfold nameB
  split
  · rename_i a b c he
    have : s.data.toList.length = 3 := by rw [he]; rfl
    simp at this
    exact absurd this h
  · rfl
theorem name_yes (s : ByteArray) (h : s.size = 3) : nameB s = (capB (s[0]'(by omega)) && ((capB (s[1]'(by omega)) || digB (s[1]'(by omega))) && (capB (s[2]'(by omega)) || digB (s[2]'(by omega))))) := by
  have e : s.data.toList = [s[0]'(by omega), s[1]'(by omega), s[2]'(by omega)] := by
    apply List.ext_getElem
    · simpa using h
    · intro i h1 h2
      have h3 : i < 3 := by simpa using h2
      match i, h3 with
      | 0, _ => rfl
      | 1, _ => rfl
      | 2, _ => rfl
  unfold nameB
  rw [e]

/-- the test of one byte of a name behind the first -/
def tailB (c : UInt8) : Bool := capB c || digB c

set_option maxHeartbeats 800000 in
theorem segName_any (s : ByteArray) (w : World) (hs : s.size ≤ 9223372036854775807) :
    Calls Tryz.prog 29 #[.string s] w fun e w' => e = .returned (.bool (nameB s)) ∧ w' = w := by
  by_cases h3 : s.size = 3
  · have HN := hide (name_yes s h3)
    have hne : ((s.size : Int) == 3) = true := by simp; omega
    have h30 : (0 : Int) < (s.size : Int) := by omega
    cases hc : capB (s[0]'(by omega))
    · have HC := hide hc
      clear hc
      go_enter Tryz.func29, Tryz.ntmps29
      go_wp2_with fail
      refine (capital_any (s[0]'(by omega)) _).mono ?_
      rintro e w' ⟨rfl, rfl⟩
      rw [HC.out]
      go_wp2_with fail
      go_ret
      exact ⟨ret_bool (by rw [HN.out, HC.out]; rfl), rfl⟩
    · have HC := hide hc
      clear hc
      go_enter Tryz.func29, Tryz.ntmps29
      go_wp2_with fail
      refine (capital_any (s[0]'(by omega)) _).mono ?_
      rintro e w' ⟨rfl, rfl⟩
      rw [HC.out]
      go_wp2_with fail
      go_loop [3] (fun i => ∃ k : Nat, 1 ≤ k ∧ k ≤ 3 ∧ i = .int .i64 k ∧ ∀ j (h : j < s.size), 1 ≤ j → j < k → tailB s[j] = true) (fun i => 3 - (intOf i).toNat)
      case atStart => exact ⟨1, by omega, by omega, rfl, fun j _ h1 h2 => absurd h2 (by omega)⟩
      case round =>
        obtain ⟨k, hk1, hk, rfl, hall⟩ := hrel
        have HA := hide hall
        clear hall
        by_cases hlt : k < 3
        · have hks : k < s.size := by omega
          have hks' : (k : Int) < (s.size : Int) := by omega
          have HT : Hid (tailB s[k] = (capB s[k] || (decide (48 ≤ s[k].toNat) && decide (s[k].toNat ≤ 57)))) := rfl
          have HBad : Hid (tailB s[k] = false → nameB s = false) := fun hf => by
            rw [HN.out]
            rcases (by omega : k = 1 ∨ k = 2) with rfl | rfl
            · change (_ && (tailB s[1] && tailB _)) = false
              rw [hf]; simp
            · change (_ && (tailB _ && tailB s[2])) = false
              rw [hf]; simp
          have HGood : Hid (tailB s[k] = true → ∀ j (h : j < s.size), 1 ≤ j → j < k + 1 → tailB s[j] = true) := fun ht j h h1 h2 => by
            by_cases e : j = k
            · subst e; exact ht
            · exact HA.out j h h1 (by omega)
          cases hcap : capB s[k]
          · have HCap := hide hcap
            clear hcap
            by_cases h48 : (s[k].toNat : Int) < 48
            · go_wp2_with fail
              refine (capital_any s[k] _).mono ?_
              rintro e w' ⟨rfl, rfl⟩
              rw [HCap.out]
              go_wp2_with fail
              go_ret
              exact ⟨ret_bool (HBad.out (by rw [HT.out, HCap.out, decide_eq_false (p := 48 ≤ s[k].toNat) (by omega)]; rfl)).symm, rfl⟩
            · by_cases h57 : (57 : Int) < (s[k].toNat : Int)
              · go_wp2_with fail
                refine (capital_any s[k] _).mono ?_
                rintro e w' ⟨rfl, rfl⟩
                rw [HCap.out]
                go_wp2_with fail
                go_ret
                exact ⟨ret_bool (HBad.out (by rw [HT.out, HCap.out, decide_eq_false (p := s[k].toNat ≤ 57) (by omega)]; simp)).symm, rfl⟩
              · go_wp2_with fail
                refine (capital_any s[k] _).mono ?_
                rintro e w' ⟨rfl, rfl⟩
                rw [HCap.out]
                go_wp2_with fail
                go_round
                case rel => exact ⟨k + 1, by omega, by omega, by go_num, HGood.out (by rw [HT.out, HCap.out, decide_eq_true (p := 48 ≤ s[k].toNat) (by omega), decide_eq_true (by omega)]; rfl)⟩
                case measure => simp [intOf]; omega
          · have HCap := hide hcap
            clear hcap
            go_wp2_with fail
            refine (capital_any s[k] _).mono ?_
            rintro e w' ⟨rfl, rfl⟩
            rw [HCap.out]
            go_wp2_with fail
            go_round
            case rel => exact ⟨k + 1, by omega, by omega, by go_num, HGood.out (by rw [HT.out, HCap.out]; rfl)⟩
            case measure => simp [intOf]; omega
        · obtain rfl : k = 3 := by omega
          have HFin : Hid (nameB s = true) := by
            rw [HN.out, HC.out]
            change (true && (tailB _ && tailB _)) = true
            rw [HA.out 1 (by omega) (by omega) (by omega), HA.out 2 (by omega) (by omega) (by omega)]
            rfl
          go_wp2_with fail
          go_ret
          exact ⟨ret_bool HFin.out.symm, rfl⟩
  · have HN := hide (name_no s h3)
    have hne : ((s.size : Int) == 3) = false := by simp; omega
    go_enter Tryz.func29, Tryz.ntmps29
    go_wp2_with fail
    go_ret
    exact ⟨ret_bool HN.out.symm, rfl⟩
end Go.Proofs.YtcphfhfockjljaaGreatDoor.Msg

namespace Go.Proofs.YtcphfhfockjljaaGreatDoor.Msg
open Go.ChangeShapes Go.WideShapes Go.ChangeAt Go.RowKit
set_option linter.unusedVariables false
set_option linter.unusedSimpArgs false

def byteC (c : UInt8) : Bool := decide (c.toNat = 13) || plainC c
def bytesB (s : ByteArray) : Bool := s.data.toList.all byteC

set_option maxHeartbeats 400000 in
theorem bytes_any (s : ByteArray) (w : World) (hs : s.size ≤ 9223372036854775807) :
    Calls Tryz.prog 26 #[.string s] w fun e w' => e = .returned (.bool (bytesB s)) ∧ w' = w := by
  go_enter Tryz.func26, Tryz.ntmps26
  go_wp2
  go_loop [3] (fun i => ∃ k : Nat, k ≤ s.size ∧ i = .int .i64 k ∧ (s.data.toList.take k).all byteC = true) (fun i => s.size - (intOf i).toNat)
  case atStart => exact ⟨0, Nat.zero_le _, rfl, rfl⟩
  case round =>
    obtain ⟨k, hk, rfl, hall⟩ := hrel
    have HA := hide hall
    clear hall
    have hsz : s.data.toList.length = s.size := by simp
    by_cases hlt : k < s.size
    · have HK : Hid (∀ h, s.data.toList[k]'h = s[k]) := fun h => rfl
      have HP : Hid (byteC s[k] = (decide (s[k].toNat = 13) || (decide (32 ≤ s[k].toNat) && decide (s[k].toNat ≤ 126)))) := rfl
      by_cases h0 : s[k].toNat = 13
      · have h0' : ((s[k].toNat : Int) != 13) = false := by rw [bne_eq_false_iff_eq]; omega
        have h0'' : (s[k].toNat : Int) = 13 := by omega
        have HF : Hid (byteC s[k] = true) := by rw [HP.out, decide_eq_true h0]; rfl
        have HZ := hide (all_step (p := byteC) (xs := s.data.toList) (k := k) (by omega) HA.out (by rw [HK.out]; exact HF.out))
        clear hsz h0
        go_wp2
        go_round
        case rel => exact ⟨k + 1, by omega, by go_num, HZ.out⟩
        case measure => simp [intOf]; omega
      have h0' : ((s[k].toNat : Int) != 13) = true := by rw [bne_iff_ne]; omega
      have h0'' : ¬ (s[k].toNat : Int) = 13 := by omega
      have HP0 : Hid (byteC s[k] = (decide (32 ≤ s[k].toNat) && decide (s[k].toNat ≤ 126))) := by rw [HP.out, decide_eq_false h0]; rfl
      clear h0
      by_cases h1 : (s[k].toNat : Int) < 32
      · have HF : Hid (byteC s[k] = false) := by rw [HP0.out, decide_eq_false (by omega)]; rfl
        have HZ := hide (all_fail (p := byteC) (xs := s.data.toList) (k := k) (by omega) (by rw [HK.out]; exact HF.out))
        clear hsz
        go_wp2
        go_ret
        exact ⟨ret_bool HZ.out.symm, rfl⟩
      · by_cases h2 : (126 : Int) < (s[k].toNat : Int)
        · have HF : Hid (byteC s[k] = false) := by rw [HP0.out, decide_eq_false (p := s[k].toNat ≤ 126) (by omega), Bool.and_false]; trivial
          have HZ := hide (all_fail (p := byteC) (xs := s.data.toList) (k := k) (by omega) (by rw [HK.out]; exact HF.out))
          clear hsz
          go_wp2
          go_ret
          exact ⟨ret_bool HZ.out.symm, rfl⟩
        · have HF : Hid (byteC s[k] = true) := by rw [HP0.out, decide_eq_true (by omega), decide_eq_true (by omega)]; rfl
          have HZ := hide (all_step (p := byteC) (xs := s.data.toList) (k := k) (by omega) HA.out (by rw [HK.out]; exact HF.out))
          clear hsz
          go_wp2
          go_round
          case rel => exact ⟨k + 1, by omega, by go_num, HZ.out⟩
          case measure => simp [intOf]; omega
    · have HZ := hide (all_done (by omega) HA.out)
      clear hsz
      go_wp2
      go_ret
      exact ⟨ret_bool HZ.out.symm, rfl⟩

/-- too long a list of fields -/
def repLB (r : Rep) : Bool := decide (r.length ≤ 20)
def fldLB (f : Field) : Bool := decide (f.length ≤ 30) && f.all repLB
def longB (fs : List Field) : Bool := decide (30 < fs.length) || !(fs.all fldLB)

set_option maxHeartbeats 1000000 in
theorem tooLong_any (x : List Field) (v : Value) (w : World) {lo : Nat} (hv : FieldsAt lo w v x) :
    Calls Tryz.prog 31 #[v] w fun e w' => e = .returned (.bool (longB x)) ∧ w' = w := by
  have hl := hv.1
  obtain ⟨a, cap, rfl, hc⟩ := hv.form
  have HC := hide hc
  clear hc hv
  by_cases h30 : (30 : Int) < (x.length : Int)
  · have HR : Hid (longB x = true) := by unfold longB; rw [decide_eq_true (by omega)]; rfl
    go_enter Tryz.func31, Tryz.ntmps31
    go_wp2_with fail
    go_ret
    exact ⟨ret_bool HR.out.symm, rfl⟩
  · have HR : Hid (longB x = !(x.all fldLB)) := by unfold longB; rw [decide_eq_false (by omega)]; exact Bool.false_or _
    go_enter Tryz.func31, Tryz.ntmps31
    go_wp2_with fail
    go_loopg [3] x.length (fun n i wr => ∃ k : Nat, k ≤ x.length ∧ n = x.length - k ∧ i = .int .i64 k ∧ (x.take k).all fldLB = true ∧ wr = w)
    case atStart => exact ⟨0, Nat.zero_le _, rfl, rfl, rfl, rfl⟩
    case round =>
      obtain ⟨k, hk, rfl, rfl, hall, rfl⟩ := hrel
      have HA := hide hall
      clear hall
      by_cases hlt : k < x.length
      · obtain ⟨b, off, rfl, _, hbl, ve, hcell, hel⟩ := HC.out k hlt
        have hcell' : wr.cell? ⟨b, off + k, none⟩ = some ve := by simpa using hcell
        have hll := hel.1
        obtain ⟨a2, cap2, rfl, hc2⟩ := hel.form
        have HC2 := hide hc2
        have HP : Hid (fldLB x[k] = (decide (x[k].length ≤ 30) && x[k].all repLB)) := rfl
        clear hcell hc2 hel
        generalize hxk : x[k] = f at *
        have HXK := hide hxk
        clear hxk
        by_cases h31 : (30 : Int) < (f.length : Int)
        · have HF : Hid (x.all fldLB = false) := all_fail hlt (by rw [HXK.out, HP.out, decide_eq_false (by omega)]; rfl)
          have HQ : Hid (longB x = true) := by rw [HR.out, HF.out]; rfl
          go_wp2_with fail
          go_ret
          exact ⟨ret_bool HQ.out.symm, rfl⟩
        · have HP2 : Hid (fldLB f = f.all repLB) := by rw [HP.out, decide_eq_true (by omega)]; exact Bool.true_and _
          go_wp2_with fail
          go_loopg [4] f.length (fun n j wr2 => ∃ q : Nat, q ≤ f.length ∧ n = f.length - q ∧ j = .int .i64 q ∧ (f.take q).all repLB = true ∧ wr2 = wr)
          case atStart => exact ⟨0, Nat.zero_le _, rfl, rfl, rfl, rfl⟩
          case round =>
            obtain ⟨q, hq, rfl, rfl, hall2, rfl⟩ := hrel
            have HA2 := hide hall2
            clear hall2
            by_cases hq2 : q < f.length
            · obtain ⟨b2, off2, rfl, _, hbl2, vr, hcr, helr⟩ := HC2.out q hq2
              have hcr' : wr.cell? ⟨b2, off2 + q, none⟩ = some vr := by simpa using hcr
              have hlr := helr.1
              obtain ⟨a3, cap3, rfl, _⟩ := helr.form
              have HP3 : Hid (repLB f[q] = decide (f[q].length ≤ 20)) := rfl
              clear hcr helr
              generalize hfq : f[q] = r at *
              have HFQ := hide hfq
              clear hfq
              by_cases h20 : (20 : Int) < (r.length : Int)
              · have HF0 : Hid (f.all repLB = false) := all_fail hq2 (by rw [HFQ.out, HP3.out, decide_eq_false (by omega)])
                have HF : Hid (x.all fldLB = false) := all_fail hlt (by rw [HXK.out, HP2.out, HF0.out])
                have HQ : Hid (longB x = true) := by rw [HR.out, HF.out]; rfl
                go_wp2_with fail
                go_ret
                exact ⟨ret_bool HQ.out.symm, rfl⟩
              · have HF0 := hide (all_step (p := repLB) hq2 HA2.out (by rw [HFQ.out, HP3.out, decide_eq_true (by omega)]))
                go_wp2_with fail
                go_roundg (f.length - (q + 1))
                case measure => omega
                case rel => exact ⟨q + 1, by omega, rfl, by go_num, HF0.out, rfl⟩
            · have HF0 := hide (all_done (by omega) HA2.out)
              have HF := hide (all_step (p := fldLB) hlt HA.out (by rw [HXK.out, HP2.out, HF0.out]))
              go_wp2_with fail
              go_roundg (x.length - (k + 1))
              case measure => omega
              case rel => exact ⟨k + 1, by omega, rfl, by go_num, HF.out, rfl⟩
      · have HF := hide (all_done (by omega) HA.out)
        have HQ : Hid (longB x = false) := by rw [HR.out, HF.out]; rfl
        go_wp2_with fail
        go_ret
        exact ⟨ret_bool HQ.out.symm, rfl⟩

def lowB (c : UInt8) : Bool := decide (97 ≤ c.toNat) && decide (c.toNat ≤ 122)
def badB (c : UInt8) : Bool := decide (c.toNat = 13) || (capB c || (lowB c || digB c))
def newAt (l : List UInt8) (i : Nat) : Bool := match l[i]? with
  | none => false
  | some b => !badB b && (l.take i).all fun y => y != b
def delimsB (s : ByteArray) : Bool := (List.range 5).all (newAt s.data.toList)

theorem newAt_eq (l : List UInt8) (i : Nat) (h : i < l.length) : newAt l i = (!badB l[i] && (l.take i).all fun y => y != l[i]) := by
  unfold newAt
  rw [List.getElem?_eq_getElem h]
theorem bad_no {c : UInt8} (h0 : c.toNat ≠ 13) (h1 : capB c = false) (h2 : c.toNat < 48 ∨ (57 < c.toNat ∧ c.toNat < 97) ∨ 122 < c.toNat) : badB c = false := by
  unfold badB lowB digB
  rw [decide_eq_false h0, h1]
  rcases h2 with h | ⟨h, h'⟩ | h
  · rw [decide_eq_false (p := 97 ≤ c.toNat) (by omega), decide_eq_false (p := 48 ≤ c.toNat) (by omega)]; rfl
  · rw [decide_eq_false (p := 97 ≤ c.toNat) (by omega), decide_eq_false (p := c.toNat ≤ 57) (by omega), Bool.and_false]; rfl
  · rw [decide_eq_false (p := c.toNat ≤ 122) (by omega), decide_eq_false (p := c.toNat ≤ 57) (by omega), Bool.and_false, Bool.and_false]; rfl

set_option maxHeartbeats 2000000 in
theorem delims_any (s : ByteArray) (w : World) (hs : s.size = 5) :
    Calls Tryz.prog 27 #[.string s] w fun e w' => e = .returned (.bool (delimsB s)) ∧ w' = w := by
  have HD : Hid (delimsB s = (List.range 5).all (newAt s.data.toList)) := rfl
  go_enter Tryz.func27, Tryz.ntmps27
  go_wp2_with fail
  go_loopg [3] 5 (fun n i wr => ∃ k : Nat, k ≤ 5 ∧ n = 5 - k ∧ i = .int .i64 k ∧ ((List.range 5).take k).all (newAt s.data.toList) = true ∧ wr = w)
  case atStart => exact ⟨0, Nat.zero_le _, rfl, rfl, rfl, rfl⟩
  case round =>
    obtain ⟨k, hk, rfl, rfl, hall, rfl⟩ := hrel
    have HA := hide hall
    clear hall
    by_cases hlt : k < 5
    · have hkr : k < (List.range 5).length := by rw [List.length_range]; exact hlt
      have HRK : Hid ((List.range 5)[k] = k) := by rw [List.getElem_range]; exact rfl
      have hks : k < s.size := by omega
      have HN : Hid (newAt s.data.toList k = (!badB s[k] && (s.data.toList.take k).all fun y => y != s[k])) := newAt_eq _ _ (by simpa using hks)
      have HFA : Hid (newAt s.data.toList k = false → delimsB s = false) := fun h => by rw [HD.out]; exact all_fail hkr (by rw [HRK.out]; exact h)
      have HST : Hid (newAt s.data.toList k = true → ((List.range 5).take (k + 1)).all (newAt s.data.toList) = true) := fun h => all_step hkr HA.out (by rw [HRK.out]; exact h)
      have HBD : Hid (badB s[k] = true → delimsB s = false) := fun h => HFA.out (by rw [HN.out, h]; rfl)
      have HG : Hid (∀ j (h : j < k), s.data.toList[j]'(by simp; omega) = s[j]'(by omega)) := fun j h => rfl
      clear HRK hkr
      have hki : (k : Int) < 5 := by omega
      have hks' : (k : Int) < (s.size : Int) := by omega
      by_cases h0 : s[k].toNat = 13
      · have h0' : ((s[k].toNat : Int) == 13) = true := by rw [beq_iff_eq]; omega
        have HQ : Hid (delimsB s = false) := HBD.out (by unfold badB; rw [decide_eq_true h0]; rfl)
        clear h0
        go_wp2_with fail
        go_ret
        exact ⟨ret_bool HQ.out.symm, rfl⟩
      have h0' : ((s[k].toNat : Int) == 13) = false := by rw [beq_eq_false_iff_ne]; omega
      have H0 := hide h0
      clear h0
      cases hcap : capB s[k]
      · have HCAP := hide hcap
        clear hcap
        have hcl : s[k].toNat < 256 := s[k].toNat_lt
        by_cases hlow : 97 ≤ s[k].toNat ∧ s[k].toNat ≤ 122
        · have HQ : Hid (delimsB s = false) := HBD.out (by unfold badB lowB; rw [decide_eq_true hlow.1, decide_eq_true hlow.2, Bool.true_and, Bool.true_or, Bool.or_true, Bool.or_true])
          have h1 : (97 : Int) ≤ (s[k].toNat : Int) := by omega
          have h2 : (s[k].toNat : Int) ≤ 122 := by omega
          clear hlow
          go_wp2_with fail
          refine (capital_any s[k] _).mono ?_
          rintro e w' ⟨rfl, rfl⟩
          rw [HCAP.out]
          go_wp2_with fail
          go_ret
          exact ⟨ret_bool HQ.out.symm, rfl⟩
        by_cases hdig : 48 ≤ s[k].toNat ∧ s[k].toNat ≤ 57
        · have HQ : Hid (delimsB s = false) := HBD.out (by unfold badB digB; rw [decide_eq_true hdig.1, decide_eq_true hdig.2, Bool.true_and, Bool.or_true, Bool.or_true, Bool.or_true])
          have h1 : ¬ (97 : Int) ≤ (s[k].toNat : Int) := by omega
          have h2 : (48 : Int) ≤ (s[k].toNat : Int) := by omega
          have h3 : (s[k].toNat : Int) ≤ 57 := by omega
          clear hlow hdig
          go_wp2_with fail
          refine (capital_any s[k] _).mono ?_
          rintro e w' ⟨rfl, rfl⟩
          rw [HCAP.out]
          go_wp2_with fail
          go_ret
          exact ⟨ret_bool HQ.out.symm, rfl⟩
        have HB : Hid (badB s[k] = false) := bad_no H0.out HCAP.out (by omega)
        have HNA : Hid (newAt s.data.toList k = (s.data.toList.take k).all fun y => y != s[k]) := by rw [HN.out, HB.out]; rfl
        go_wp2_with fail
        refine (capital_any s[k] _).mono ?_
        rintro e w' ⟨rfl, rfl⟩
        rw [HCAP.out]
        go_wp2_with fail
        all_goals (
          clear hlow hdig
          go_loopg [5] k (fun n j wr => ∃ q : Nat, q ≤ k ∧ n = k - q ∧ j = .int .i64 q ∧ ((s.data.toList.take k).take q).all (fun y => y != s[k]) = true ∧ wr = w')
          case atStart => exact ⟨0, Nat.zero_le _, rfl, rfl, rfl, rfl⟩
          case round =>
            obtain ⟨q, hq, rfl, rfl, hall2, rfl⟩ := hrel
            have HA2 := hide hall2
            clear hall2
            have hlk : (s.data.toList.take k).length = k := by rw [List.length_take]; simp; omega
            by_cases hq2 : q < k
            · have hqi : (q : Int) < (k : Int) := by omega
              have hqs : q < s.size := by omega
              have HE : Hid ((s.data.toList.take k)[q]'(by omega) = s[q]) := by rw [List.getElem_take]; exact HG.out q hq2
              have hqt : q < (s.data.toList.take k).length := by omega
              by_cases he : s[q] = s[k]
              · have he' : ((s[q].toNat : Int) == (s[k].toNat : Int)) = true := by rw [beq_iff_eq, he]
                have HQ : Hid (delimsB s = false) := HFA.out (by rw [HNA.out]; exact all_fail hqt (by rw [HE.out, he]; simp))
                clear he HE hqt hlk
                go_wp2_with fail
                go_ret
                exact ⟨ret_bool HQ.out.symm, rfl⟩
              · have he' : ((s[q].toNat : Int) == (s[k].toNat : Int)) = false := by
                  rw [beq_eq_false_iff_ne]
                  intro h
                  exact he (UInt8.toNat_inj.1 (by omega))
                have HF := hide (all_step (p := fun y => y != s[k]) hqt HA2.out (by rw [HE.out]; simpa using he))
                clear he HE hqt hlk
                go_wp2_with fail
                go_roundg (k - (q + 1))
                case measure => omega
                case rel => exact ⟨q + 1, by omega, rfl, by go_num, HF.out, rfl⟩
            · have HF := hide (all_done (p := fun y => y != s[k]) (by omega) HA2.out)
              have HZ := hide (HST.out (by rw [HNA.out]; exact HF.out))
              clear hlk
              go_wp2_with fail
              go_roundg (5 - (k + 1))
              case measure => omega
              case rel => exact ⟨k + 1, by omega, rfl, by go_num, HZ.out, rfl⟩)
      · have HQ : Hid (delimsB s = false) := HBD.out (by unfold badB; rw [hcap, Bool.true_or, Bool.or_true])
        have HCAP := hide hcap
        clear hcap
        go_wp2_with fail
        refine (capital_any s[k] _).mono ?_
        rintro e w' ⟨rfl, rfl⟩
        rw [HCAP.out]
        go_wp2_with fail
        go_ret
        exact ⟨ret_bool HQ.out.symm, rfl⟩
    · have HQ : Hid (delimsB s = true) := by rw [HD.out]; exact all_done (by rw [List.length_range]; omega) HA.out
      go_wp2_with fail
      go_ret
      exact ⟨ret_bool HQ.out.symm, rfl⟩
end Go.Proofs.YtcphfhfockjljaaGreatDoor.Msg

namespace Go.Proofs.YtcphfhfockjljaaGreatDoor.Msg
open Go.ChangeShapes Go.WideShapes Go.ChangeAt Go.RowKit
set_option linter.unusedVariables false
set_option linter.unusedSimpArgs false

/-- what an escape's letter stands for -/
def escL (c0 c1 c2 c3 c4 : UInt8) (p : List UInt8) : Option (List UInt8) :=
  if p = [70] then some [c0] else if p = [83] then some [c1] else if p = [84] then some [c4] else if p = [82] then some [c2] else if p = [69] then some [c3] else none
def partL (e : List UInt8 → Option (List UInt8)) (i : Nat) (p : List UInt8) : Option (List UInt8) := if i % 2 = 0 then some p else e p
def unescGo (e : List UInt8 → Option (List UInt8)) : Nat → List (List UInt8) → Option (List UInt8)
  | _, [] => some []
  | i, p :: ps => match partL e i p with
    | none => none
    | some t => (unescGo e (i + 1) ps).map (t ++ ·)
/-- a component out of its escaped text; nothing if an escape is not one -/
def plainL (c0 c1 c2 c3 c4 : UInt8) (l : List UInt8) : Option (List UInt8) :=
  if (cutL c3 l).length % 2 = 0 then none else unescGo (escL c0 c1 c2 c3 c4) 0 (cutL c3 l)

theorem txt_append (a b : List UInt8) : txt a ++ txt b = txt (a ++ b) := by
  apply ByteArray.ext
  simp [txt, ByteArray.data_append]
theorem txt_toList (a : List UInt8) : (txt a).toList = a := by
  rw [ByteArray.toList_eq]
  exact txt_data a
theorem txt_one (s : ByteArray) (i : Nat) (h : i < s.size) : s.extract i (i + 1) = txt [s[i]] := by
  rw [txt_extract]
  congr 1
  have hl : i < s.data.toList.length := by simpa using h
  rw [List.take_succ_eq_append_getElem hl, List.drop_append_of_le_length (by rw [List.length_take]; omega), List.drop_eq_nil_of_le (by rw [List.length_take]; omega)]
  rfl
theorem unesc_step {e : List UInt8 → Option (List UInt8)} {ps : List (List UInt8)} {k : Nat} (hk : k < ps.length) {acc t : List UInt8} (h : unescGo e 0 ps = (unescGo e k (ps.drop k)).map (acc ++ ·)) (ht : partL e k ps[k] = some t) :
    unescGo e 0 ps = (unescGo e (k + 1) (ps.drop (k + 1))).map ((acc ++ t) ++ ·) := by
  rw [h, List.drop_eq_getElem_cons hk]
  have e1 : unescGo e k (ps[k] :: ps.drop (k + 1)) = (unescGo e (k + 1) (ps.drop (k + 1))).map (t ++ ·) := by
    conv => lhs; unfold unescGo
    rw [ht]
  rw [e1]
  simp [Option.map_map, Function.comp_def, List.append_assoc]
theorem unesc_fail {e : List UInt8 → Option (List UInt8)} {ps : List (List UInt8)} {k : Nat} (hk : k < ps.length) {acc : List UInt8} (h : unescGo e 0 ps = (unescGo e k (ps.drop k)).map (acc ++ ·)) (ht : partL e k ps[k] = none) : unescGo e 0 ps = none := by
  rw [h, List.drop_eq_getElem_cons hk]
  unfold unescGo
  rw [ht]
  rfl
theorem unesc_done {e : List UInt8 → Option (List UInt8)} {ps : List (List UInt8)} {k : Nat} (hk : ps.length ≤ k) {acc : List UInt8} (h : unescGo e 0 ps = (unescGo e k (ps.drop k)).map (acc ++ ·)) : unescGo e 0 ps = some acc := by
  rw [h, List.drop_eq_nil_of_le hk]
  simp [unescGo]

theorem ret_none {x : Option (List UInt8)} (h : x = none) : Ending.returned (.tuple #[.string ⟨#[]⟩, .bool false]) = .returned (.tuple #[.string (txt (x.getD [])), .bool x.isSome]) := by subst h; rfl
theorem ret_some {x : Option (List UInt8)} {acc : List UInt8} (h : x = some acc) : Ending.returned (.tuple #[.string (txt acc), .bool true]) = .returned (.tuple #[.string (txt (x.getD [])), .bool x.isSome]) := by subst h; rfl

set_option maxRecDepth 100000 in
set_option maxHeartbeats 2000000 in
theorem plainly_any (s d : ByteArray) (w : World) (hs : s.size ≤ 1048576) (hd : d.size = 5) :
    Calls Tryz.prog 55 #[.string s, .string d] w fun e w' => e = .returned (.tuple #[.string (txt ((plainL d[0] d[1] d[2] d[3] d[4] s.data.toList).getD [])), .bool (plainL d[0] d[1] d[2] d[3] d[4] s.data.toList).isSome]) ∧ Below w.heap.size w w' := by
  have hd' : (3 : Int) < (d.size : Int) := by omega
  have hsl : s.data.toList.length = s.size := by simp
  have HL : Hid ((cutL d[3] s.data.toList).length ≤ 1048577) := by have := cutL_len d[3] s.data.toList; show _ ≤ _; omega
  have HZ : Hid (∀ p ∈ cutL d[3] s.data.toList, p.length ≤ 1048576) := fun p hp => by have := cutL_sz d[3] s.data.toList p hp; omega
  have HP : Hid (plainL d[0] d[1] d[2] d[3] d[4] s.data.toList = if (cutL d[3] s.data.toList).length % 2 = 0 then none else unescGo (escL d[0] d[1] d[2] d[3] d[4]) 0 (cutL d[3] s.data.toList)) := rfl
  have hpos := cutL_pos d[3] s.data.toList
  clear hsl
  go_enter Tryz.func55, Tryz.ntmps55
  go_wp2_with fail
  refine (cut_any s d[3] _ hs).mono ?_
  rintro e W1 ⟨u, rfl, hu, hb1⟩
  generalize cutL d[3] s.data.toList = ps at *
  obtain ⟨g, cap, rfl, hg, hgl, hcap, hcm, hcell⟩ := pieces_form hu hpos
  have HC := hide hcell
  have hlen := HL.out
  clear hu hcell
  by_cases hev : ps.length % 2 = 0
  · have hev' : ((ps.length : Int) % 2 == 0) = true := by rw [beq_iff_eq]; omega
    have HN : Hid (Ending.returned (.tuple #[.string ⟨#[]⟩, .bool false]) = .returned (.tuple #[.string (txt ((plainL d[0] d[1] d[2] d[3] d[4] s.data.toList).getD [])), .bool (plainL d[0] d[1] d[2] d[3] d[4] s.data.toList).isSome])) := ret_none <| by rw [HP.out, if_pos hev]
    clear hev
    go_wp2_with fail
    go_ret2
    exact ⟨HN.out, hb1⟩
  have hev' : ((ps.length : Int) % 2 == 0) = false := by rw [beq_eq_false_iff_ne]; omega
  have HP' : Hid (plainL d[0] d[1] d[2] d[3] d[4] s.data.toList = unescGo (escL d[0] d[1] d[2] d[3] d[4]) 0 ps) := by rw [HP.out, if_neg hev]; trivial
  have HRN : Hid (unescGo (escL d[0] d[1] d[2] d[3] d[4]) 0 ps = none → plainL d[0] d[1] d[2] d[3] d[4] s.data.toList = none) := fun h => by rw [HP'.out, h]
  clear hev
  go_wp2_with fail
  go_loop [7, 8] (fun o i => ∃ (k : Nat) (acc : List UInt8), k ≤ ps.length ∧ i = .int .i64 k ∧ o = .string (txt acc) ∧ acc.length ≤ k * 1048577 ∧ unescGo (escL d[0] d[1] d[2] d[3] d[4]) 0 ps = (unescGo (escL d[0] d[1] d[2] d[3] d[4]) k (ps.drop k)).map (acc ++ ·)) (fun _ i => ps.length - (intOf i).toNat)
  case atStart => exact ⟨0, [], Nat.zero_le _, rfl, rfl, Nat.zero_le _, by simp⟩
  case round =>
    obtain ⟨k, acc, hk, rfl, rfl, hal, hE⟩ := hrel
    have HE := hide hE
    clear hE
    have hts : (txt acc).size = acc.length := txt_size acc
    by_cases hlt : k < ps.length
    · have hpc : W1.cell? ⟨g, k, none⟩ = some (.string (txt ps[k])) := (HC.out k hlt).1
      have hpz : (txt ps[k]).size ≤ 1048576 := by rw [txt_size]; exact HZ.out ps[k] (List.getElem_mem hlt)
      have hki : (k : Int) < (ps.length : Int) := by omega
      by_cases hodd : k % 2 = 0
      · have hodd' : ((k : Int) % 2 == 0) = true := by rw [beq_iff_eq]; omega
        have HS := hide (unesc_step hlt HE.out (t := ps[k]) (by unfold partL; rw [if_pos hodd]))
        have HX := hide (txt_append acc ps[k])
        have hpz' : ps[k].length ≤ 1048576 := by rw [← txt_size]; exact hpz
        clear hodd
        go_wp2_with fail
        go_round
        case rel => exact ⟨k + 1, acc ++ ps[k], by omega, by go_num, by rw [HX.out], by rw [List.length_append]; omega, HS.out⟩
        case measure => simp [intOf]; omega
      have hodd' : ((k : Int) % 2 == 0) = false := by rw [beq_eq_false_iff_ne]; omega
      by_cases n70 : ps[k] = [70]
      · have m70 : ((txt ps[k]).toList == [70]) = true := by rw [txt_toList, n70]; rfl
        have HS := hide (unesc_step hlt HE.out (t := [d[0]]) (by unfold partL; rw [if_neg hodd]; unfold escL; rw [if_pos n70]))
        have HX : Hid (txt acc ++ d.extract 0 1 = txt (acc ++ [d[0]])) := by rw [txt_one d 0 (by omega), txt_append]; trivial
        have hx : (d.extract 0 1).size = 1 := by rw [txt_one d 0 (by omega), txt_size]; rfl
        clear n70  hodd
        go_wp2_with fail
        go_round
        case rel => exact ⟨k + 1, acc ++ [d[0]], by omega, by go_num, by rw [HX.out], by rw [List.length_append, List.length_singleton]; omega, HS.out⟩
        case measure => simp [intOf]; omega
      have m70 : ((txt ps[k]).toList == [70]) = false := by rw [txt_toList, beq_eq_false_iff_ne]; exact n70
      by_cases n83 : ps[k] = [83]
      · have m83 : ((txt ps[k]).toList == [83]) = true := by rw [txt_toList, n83]; rfl
        have HS := hide (unesc_step hlt HE.out (t := [d[1]]) (by unfold partL; rw [if_neg hodd]; unfold escL; rw [if_neg n70, if_pos n83]))
        have HX : Hid (txt acc ++ d.extract 1 2 = txt (acc ++ [d[1]])) := by rw [txt_one d 1 (by omega), txt_append]; trivial
        have hx : (d.extract 1 2).size = 1 := by rw [txt_one d 1 (by omega), txt_size]; rfl
        clear n83 n70 hodd
        go_wp2_with fail
        go_round
        case rel => exact ⟨k + 1, acc ++ [d[1]], by omega, by go_num, by rw [HX.out], by rw [List.length_append, List.length_singleton]; omega, HS.out⟩
        case measure => simp [intOf]; omega
      have m83 : ((txt ps[k]).toList == [83]) = false := by rw [txt_toList, beq_eq_false_iff_ne]; exact n83
      by_cases n84 : ps[k] = [84]
      · have m84 : ((txt ps[k]).toList == [84]) = true := by rw [txt_toList, n84]; rfl
        have HS := hide (unesc_step hlt HE.out (t := [d[4]]) (by unfold partL; rw [if_neg hodd]; unfold escL; rw [if_neg n70, if_neg n83, if_pos n84]))
        have HX : Hid (txt acc ++ d.extract 4 5 = txt (acc ++ [d[4]])) := by rw [txt_one d 4 (by omega), txt_append]; trivial
        have hx : (d.extract 4 5).size = 1 := by rw [txt_one d 4 (by omega), txt_size]; rfl
        clear n84 n70 n83 hodd
        go_wp2_with fail
        go_round
        case rel => exact ⟨k + 1, acc ++ [d[4]], by omega, by go_num, by rw [HX.out], by rw [List.length_append, List.length_singleton]; omega, HS.out⟩
        case measure => simp [intOf]; omega
      have m84 : ((txt ps[k]).toList == [84]) = false := by rw [txt_toList, beq_eq_false_iff_ne]; exact n84
      by_cases n82 : ps[k] = [82]
      · have m82 : ((txt ps[k]).toList == [82]) = true := by rw [txt_toList, n82]; rfl
        have HS := hide (unesc_step hlt HE.out (t := [d[2]]) (by unfold partL; rw [if_neg hodd]; unfold escL; rw [if_neg n70, if_neg n83, if_neg n84, if_pos n82]))
        have HX : Hid (txt acc ++ d.extract 2 3 = txt (acc ++ [d[2]])) := by rw [txt_one d 2 (by omega), txt_append]; trivial
        have hx : (d.extract 2 3).size = 1 := by rw [txt_one d 2 (by omega), txt_size]; rfl
        clear n82 n70 n83 n84 hodd
        go_wp2_with fail
        go_round
        case rel => exact ⟨k + 1, acc ++ [d[2]], by omega, by go_num, by rw [HX.out], by rw [List.length_append, List.length_singleton]; omega, HS.out⟩
        case measure => simp [intOf]; omega
      have m82 : ((txt ps[k]).toList == [82]) = false := by rw [txt_toList, beq_eq_false_iff_ne]; exact n82
      by_cases n69 : ps[k] = [69]
      · have m69 : ((txt ps[k]).toList == [69]) = true := by rw [txt_toList, n69]; rfl
        have HS := hide (unesc_step hlt HE.out (t := [d[3]]) (by unfold partL; rw [if_neg hodd]; unfold escL; rw [if_neg n70, if_neg n83, if_neg n84, if_neg n82, if_pos n69]))
        have HX : Hid (txt acc ++ d.extract 3 4 = txt (acc ++ [d[3]])) := by rw [txt_one d 3 (by omega), txt_append]; trivial
        have hx : (d.extract 3 4).size = 1 := by rw [txt_one d 3 (by omega), txt_size]; rfl
        clear n69 n70 n83 n84 n82 hodd
        go_wp2_with fail
        go_round
        case rel => exact ⟨k + 1, acc ++ [d[3]], by omega, by go_num, by rw [HX.out], by rw [List.length_append, List.length_singleton]; omega, HS.out⟩
        case measure => simp [intOf]; omega
      have m69 : ((txt ps[k]).toList == [69]) = false := by rw [txt_toList, beq_eq_false_iff_ne]; exact n69
      have HN : Hid (Ending.returned (.tuple #[.string ⟨#[]⟩, .bool false]) = .returned (.tuple #[.string (txt ((plainL d[0] d[1] d[2] d[3] d[4] s.data.toList).getD [])), .bool (plainL d[0] d[1] d[2] d[3] d[4] s.data.toList).isSome])) := ret_none <| HRN.out (unesc_fail hlt HE.out (by unfold partL; rw [if_neg hodd]; unfold escL; rw [if_neg n70, if_neg n83, if_neg n84, if_neg n82, if_neg n69]))
      clear n70 n83 n84 n82 n69 hodd
      go_wp2_with fail
      go_ret2
      exact ⟨HN.out, hb1⟩
    · have HN : Hid (Ending.returned (.tuple #[.string (txt acc), .bool true]) = .returned (.tuple #[.string (txt ((plainL d[0] d[1] d[2] d[3] d[4] s.data.toList).getD [])), .bool (plainL d[0] d[1] d[2] d[3] d[4] s.data.toList).isSome])) := ret_some <| by rw [HP'.out]; exact unesc_done (by omega) HE.out
      go_wp2_with fail
      go_ret2
      exact ⟨HN.out, hb1⟩
end Go.Proofs.YtcphfhfockjljaaGreatDoor.Msg
