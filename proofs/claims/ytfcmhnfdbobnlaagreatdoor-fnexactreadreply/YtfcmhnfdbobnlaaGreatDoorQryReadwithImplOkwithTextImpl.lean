import Derived.Test.YtfcmhnfdbobnlaaGreatDoorNumwithQrySpecwithQryNum
import Derived.Test.YtfcmhnfdbobnlaaGreatDoorMsgOk
namespace Go.Proofs.YtfcmhnfdbobnlaaGreatDoor.Msg
open Go.ChangeShapes Go.WideShapes Go.ChangeAt Go.RowKit
set_option linter.unusedVariables false
set_option linter.unusedSimpArgs false

structure Req where
  kind : Int
  control : ByteArray
  tag : ByteArray
  query : ByteArray
  page : Int
  pointer : ByteArray
def reqV (r : Req) : Value := .agg #[.int .i64 r.kind, .string r.control, .string r.tag, .string r.query, .int .i64 r.page, .string r.pointer]
/-- what a request with an error still tells -/
def told (control : ByteArray) : Req := ⟨0, if controlB control then control else ⟨#[]⟩, ⟨#[]⟩, ⟨#[]⟩, 0, ⟨#[]⟩⟩
/-- ReadRequest, out of what stands in the message; num is the number of the page's size -/
def readOf (kind control ver idt tag query pointer size : ByteArray) (num : Int) : Req × Int :=
  if !(kind.toList == [81, 66, 80]) && !(kind.toList == [81, 67, 78]) then (told control, 200)
  else if !controlB control then (told control, 101)
  else if !(ver.toList == [50, 46, 53, 46, 49]) then (told control, 203)
  else if kind.toList == [81, 67, 78] then (if tagB idt then (⟨3, control, idt, ⟨#[]⟩, 0, ⟨#[]⟩⟩, 0) else (told control, 101))
  else if !tagB tag then (told control, 101)
  else if !textB query || !textB pointer then (told control, 102)
  else if 0 < pointer.size then (⟨2, control, tag, query, 0, pointer⟩, 0)
  else if 0 < size.size then (if decide (1 ≤ num) && decide (num ≤ 50) then (⟨1, control, tag, query, num, ⟨#[]⟩⟩, 0) else (told control, 102))
  else (⟨1, control, tag, query, 10, ⟨#[]⟩⟩, 0)
theorem readOf_same (kind control ver idt tag query pointer size : ByteArray) :
    readOf kind control ver idt tag query pointer size (numS size.data.toList) = readOf kind control ver idt tag query pointer size (numI size.data.toList) := by
  have h := num_range size.data.toList 50 (by omega) (by omega)
  unfold readOf
  rw [h]
  by_cases hn : (decide (1 ≤ numI size.data.toList) && decide (numI size.data.toList ≤ 50)) = true
  · have hs := num_same size.data.toList (.inr (by simp at hn; omega))
    rw [hs]
  · rw [if_neg hn, if_neg hn]

/-! how long what Get gives can be -/
theorem mem_le {α : Type} (f : α → Nat) : ∀ (xs : List α) (x : α), x ∈ xs → f x ≤ sumOf f xs
  | y :: ys, x, h => by
    rw [List.mem_cons] at h
    unfold sumOf
    rw [List.map_cons, List.sum_cons]
    rcases h with rfl | h
    · omega
    · have := mem_le f ys x h
      unfold sumOf at this
      omega
theorem pick_sz (fs : List Field) (a c : Int) : (pick fs a c).size ≤ sumOf fieldSz fs := by
  unfold pick
  split
  · exact Nat.zero_le _
  · cases hf : fs[a.toNat]? with
    | none => exact Nat.zero_le _
    | some f =>
      cases f with
      | nil => exact Nat.zero_le _
      | cons r rs =>
        show (if c < 1 then (⟨#[]⟩ : ByteArray) else r.getD (c - 1).toNat ⟨#[]⟩).size ≤ _
        split
        · exact Nat.zero_le _
        · have h1 : (r.getD (c - 1).toNat ⟨#[]⟩).size ≤ repSz r := by
            rw [List.getD_eq_getElem?_getD]
            cases hr : r[(c - 1).toNat]? with
            | none => exact Nat.zero_le _
            | some x =>
              have h2 := mem_le strSz r x (List.mem_of_getElem? hr)
              show x.size ≤ _
              unfold repSz lenSum
              unfold strSz at h2 ⊢
              omega
          have h3 := mem_le fieldSz fs (r :: rs) (List.mem_of_getElem? hf)
          have h4 := mem_le repSz (r :: rs) r (by simp)
          have h5 : fieldSz (r :: rs) = (r :: rs).length + sumOf repSz (r :: rs) := rfl
          omega
theorem getFrom_sz (xs : List Seg) (name : ByteArray) (f c : Int) : (getFrom xs name f c).size ≤ msgSz xs := by
  unfold getFrom
  cases h : xs.find? fun s => s.name.toList == name.toList with
  | none => exact Nat.zero_le _
  | some s =>
    have h1 := mem_le segSz xs s (List.mem_of_find?_eq_some h)
    have h2 := pick_sz s.fields (f - if mshB name then 3 else 1) c
    show (pick s.fields _ c).size ≤ _
    have h5 : segSz s = s.name.size + (s.fields.length + sumOf fieldSz s.fields) := rfl
    have h6 : msgSz xs = xs.length + sumOf segSz xs := rfl
    omega
end Go.Proofs.YtfcmhnfdbobnlaaGreatDoor.Msg

namespace Go.Proofs.YtfcmhnfdbobnlaaGreatDoor.Msg
open Go.ChangeShapes Go.WideShapes Go.ChangeAt Go.RowKit
set_option linter.unusedVariables false
set_option linter.unusedSimpArgs false

set_option maxHeartbeats 400000 in
theorem isCapital_any (c : UInt8) (w : World) :
    Calls Tryz.prog 85 #[.int .u8 (c.toNat : Int)] w fun e w' => e = .returned (.bool (capB c)) ∧ w' = w := by
  have HC : Hid (capB c = (decide (65 ≤ c.toNat) && decide (c.toNat ≤ 90))) := rfl
  by_cases h1 : (65 : Int) ≤ (c.toNat : Int)
  · by_cases h2 : (c.toNat : Int) ≤ 90
    · go_enter Tryz.func85, Tryz.ntmps85
      go_wp2
      go_ret
      exact ⟨ret_bool (by rw [HC.out, decide_eq_true (by omega), decide_eq_true (by omega)]; rfl), rfl⟩
    · go_enter Tryz.func85, Tryz.ntmps85
      go_wp2
      go_ret
      exact ⟨ret_bool (by rw [HC.out, decide_eq_false (p := c.toNat ≤ 90) (by omega), Bool.and_false]), rfl⟩
  · go_enter Tryz.func85, Tryz.ntmps85
    go_wp2
    go_ret
    exact ⟨ret_bool (by rw [HC.out, decide_eq_false (p := 65 ≤ c.toNat) (by omega)]; rfl), rfl⟩

set_option maxHeartbeats 400000 in
theorem isDigit_any (c : UInt8) (w : World) :
    Calls Tryz.prog 86 #[.int .u8 (c.toNat : Int)] w fun e w' => e = .returned (.bool (digB c)) ∧ w' = w := by
  have HC : Hid (digB c = (decide (48 ≤ c.toNat) && decide (c.toNat ≤ 57))) := rfl
  by_cases h1 : (48 : Int) ≤ (c.toNat : Int)
  · by_cases h2 : (c.toNat : Int) ≤ 57
    · go_enter Tryz.func86, Tryz.ntmps86
      go_wp2
      go_ret
      exact ⟨ret_bool (by rw [HC.out, decide_eq_true (by omega), decide_eq_true (by omega)]; rfl), rfl⟩
    · go_enter Tryz.func86, Tryz.ntmps86
      go_wp2
      go_ret
      exact ⟨ret_bool (by rw [HC.out, decide_eq_false (p := c.toNat ≤ 57) (by omega), Bool.and_false]), rfl⟩
  · go_enter Tryz.func86, Tryz.ntmps86
    go_wp2
    go_ret
    exact ⟨ret_bool (by rw [HC.out, decide_eq_false (p := 48 ≤ c.toNat) (by omega)]; rfl), rfl⟩

set_option maxHeartbeats 400000 in
theorem isPlain_any (s : ByteArray) (w : World) (hs : s.size ≤ 9223372036854775807) :
    Calls Tryz.prog 104 #[.string s] w fun e w' => e = .returned (.bool (plainB s)) ∧ w' = w := by
  go_enter Tryz.func104, Tryz.ntmps104
  go_wp2
  go_loop [6] (fun i => ∃ k : Nat, k ≤ s.size ∧ i = .int .i64 k ∧ (s.data.toList.take k).all plainC = true) (fun i => s.size - (intOf i).toNat)
  case atStart => exact ⟨0, Nat.zero_le _, rfl, rfl⟩
  case round =>
    obtain ⟨k, hk, rfl, hall⟩ := hrel
    have HA := hide hall
    clear hall
    have hsz : s.data.toList.length = s.size := by simp
    by_cases hlt : k < s.size
    · have HK : Hid (∀ h, s.data.toList[k]'h = s[k]) := fun h => rfl
      have HP : Hid (plainC s[k] = (decide (32 ≤ s[k].toNat) && decide (s[k].toNat ≤ 126))) := rfl
      by_cases h1 : (s[k].toNat : Int) < 32
      · have HF : Hid (plainC s[k] = false) := by rw [HP.out, decide_eq_false (by omega)]; rfl
        have HZ := hide (all_fail (p := plainC) (xs := s.data.toList) (k := k) (by omega) (by rw [HK.out]; exact HF.out))
        clear hsz
        go_wp2
        go_ret
        exact ⟨ret_bool HZ.out.symm, rfl⟩
      · by_cases h2 : (126 : Int) < (s[k].toNat : Int)
        · have HF : Hid (plainC s[k] = false) := by rw [HP.out, decide_eq_false (p := s[k].toNat ≤ 126) (by omega), Bool.and_false]; trivial
          have HZ := hide (all_fail (p := plainC) (xs := s.data.toList) (k := k) (by omega) (by rw [HK.out]; exact HF.out))
          clear hsz
          go_wp2
          go_ret
          exact ⟨ret_bool HZ.out.symm, rfl⟩
        · have HF : Hid (plainC s[k] = true) := by rw [HP.out, decide_eq_true (by omega), decide_eq_true (by omega)]; rfl
          have HZ := hide (all_step (p := plainC) (xs := s.data.toList) (k := k) (by omega) HA.out (by rw [HK.out]; exact HF.out))
          clear hsz
          go_wp2
          go_round
          case rel => exact ⟨k + 1, by omega, by go_num, HZ.out⟩
          case measure => simp [intOf]; omega
    · have HZ := hide (all_done (by omega) HA.out)
      clear hsz
      go_wp2
      go_ret
      exact ⟨ret_bool HZ.out.symm, rfl⟩

set_option maxHeartbeats 1000000 in
theorem isSegmentName_any (s : ByteArray) (w : World) (hs : s.size ≤ 9223372036854775807) :
    Calls Tryz.prog 72 #[.string s] w fun e w' => e = .returned (.bool (nameB s)) ∧ w' = w := by
  by_cases h3 : s.size = 3
  · have HN := hide (name_yes s h3)
    have hne : ((s.size : Int) != 3) = false := by simp; omega
    have h30 : (0 : Int) < (s.size : Int) := by omega
    have hne2 : (s.size : Int) = 3 := by omega
    cases hc : capB (s[0]'(by omega))
    · have HC := hide hc
      clear hc
      go_enter Tryz.func72, Tryz.ntmps72
      go_wp2_with fail
      refine (isCapital_any (s[0]'(by omega)) _).mono ?_
      rintro e w' ⟨rfl, rfl⟩
      rw [HC.out]
      go_wp2_with fail
      go_ret
      exact ⟨ret_bool (by rw [HN.out, HC.out]; rfl), rfl⟩
    · have HC := hide hc
      clear hc
      go_enter Tryz.func72, Tryz.ntmps72
      go_wp2_with fail
      refine (isCapital_any (s[0]'(by omega)) _).mono ?_
      rintro e w' ⟨rfl, rfl⟩
      rw [HC.out]
      go_wp2_with fail
      go_loop [15] (fun i => ∃ k : Nat, k ≤ 3 ∧ i = .int .i64 k ∧ ∀ j (h : j < s.size), j < k → tailB s[j] = true) (fun i => 3 - (intOf i).toNat)
      case atStart => exact ⟨0, by omega, rfl, fun j _ h2 => absurd h2 (by omega)⟩
      case round =>
        obtain ⟨k, hk, rfl, hall⟩ := hrel
        have HA := hide hall
        clear hall
        by_cases hlt : k < 3
        · have hks : k < s.size := by omega
          have hks' : (k : Int) < (s.size : Int) := by omega
          have HT : Hid (tailB s[k] = (capB s[k] || digB s[k])) := rfl
          have HBad : Hid (tailB s[k] = false → nameB s = false) := fun hf => by
            rw [HN.out]
            rcases (by omega : k = 0 ∨ k = 1 ∨ k = 2) with rfl | rfl | rfl
            · rw [(Bool.or_eq_false_iff.1 hf).1]; rfl
            · change (_ && (tailB s[1] && tailB _)) = false
              rw [hf]; simp
            · change (_ && (tailB _ && tailB s[2])) = false
              rw [hf]; simp
          have HGood : Hid (tailB s[k] = true → ∀ j (h : j < s.size), j < k + 1 → tailB s[j] = true) := fun ht j h h2 => by
            by_cases e : j = k
            · subst e; exact ht
            · exact HA.out j h (by omega)
          cases hcap : capB s[k]
          · have HCap := hide hcap
            clear hcap
            cases hdig : digB s[k]
            · have HDig := hide hdig
              clear hdig
              go_wp2_with fail
              refine (isCapital_any s[k] _).mono ?_
              rintro e w' ⟨rfl, rfl⟩
              rw [HCap.out]
              go_wp2_with fail
              refine (isDigit_any s[k] _).mono ?_
              rintro e w' ⟨rfl, rfl⟩
              rw [HDig.out]
              go_wp2_with fail
              go_ret
              exact ⟨ret_bool (HBad.out (by rw [HT.out, HCap.out, HDig.out]; rfl)).symm, rfl⟩
            · have HDig := hide hdig
              clear hdig
              go_wp2_with fail
              refine (isCapital_any s[k] _).mono ?_
              rintro e w' ⟨rfl, rfl⟩
              rw [HCap.out]
              go_wp2_with fail
              refine (isDigit_any s[k] _).mono ?_
              rintro e w' ⟨rfl, rfl⟩
              rw [HDig.out]
              go_wp2_with fail
              go_round
              case rel => exact ⟨k + 1, by omega, by go_num, HGood.out (by rw [HT.out, HCap.out, HDig.out]; rfl)⟩
              case measure => simp [intOf]; omega
          · have HCap := hide hcap
            clear hcap
            go_wp2_with fail
            refine (isCapital_any s[k] _).mono ?_
            rintro e w' ⟨rfl, rfl⟩
            rw [HCap.out]
            go_wp2_with fail
            go_round
            case rel => exact ⟨k + 1, by omega, by go_num, HGood.out (by rw [HT.out, HCap.out]; rfl)⟩
            case measure => simp [intOf]; omega
        · obtain rfl : k = 3 := by omega
          have HFin : Hid (nameB s = true) := by
            rw [HN.out, HC.out]
            change (true && (tailB _ && tailB _)) = true
            rw [HA.out 1 (by omega) (by omega), HA.out 2 (by omega) (by omega)]
            rfl
          go_wp2_with fail
          go_ret
          exact ⟨ret_bool HFin.out.symm, rfl⟩
  · have HN := hide (name_no s h3)
    have hne : ((s.size : Int) != 3) = true := by simp; omega
    have hne2 : ¬ (s.size : Int) = 3 := by omega
    go_enter Tryz.func72, Tryz.ntmps72
    go_wp2_with fail
    go_ret
    exact ⟨ret_bool HN.out.symm, rfl⟩
end Go.Proofs.YtfcmhnfdbobnlaaGreatDoor.Msg

namespace Go.Proofs.YtfcmhnfdbobnlaaGreatDoor.Msg
open Go.ChangeShapes Go.WideShapes Go.ChangeAt Go.RowKit
set_option linter.unusedVariables false
set_option linter.unusedSimpArgs false

set_option maxHeartbeats 400000 in
theorem isTag_any (s : ByteArray) (w : World) (hs : s.size ≤ 9223372036854775807) :
    Calls Tryz.prog 153 #[.string s] w fun e w' => e = .returned (.bool (tagB s)) ∧ w' = w := by
  by_cases h1 : (1 : Int) ≤ (s.size : Int)
  · by_cases h2 : (s.size : Int) ≤ 16
    · have HX : Hid (tagB s = plainB s) := bound_in (by omega) (by omega)
      go_enter Tryz.func153, Tryz.ntmps153
      go_wp2_with (go_at_call 104; refine (isPlain_any s _ hs).mono ?_; rintro e w' ⟨rfl, rfl⟩)
      go_ret
      exact ⟨ret_bool HX.out.symm, rfl⟩
    · have HX : Hid (tagB s = false) := bound_hi (by omega)
      go_enter Tryz.func153, Tryz.ntmps153
      go_wp2_with fail
      go_ret
      exact ⟨ret_bool HX.out.symm, rfl⟩
  · have HX : Hid (tagB s = false) := bound_lo (by omega)
    go_enter Tryz.func153, Tryz.ntmps153
    go_wp2_with fail
    go_ret
    exact ⟨ret_bool HX.out.symm, rfl⟩
set_option maxHeartbeats 400000 in
theorem isControl_any (s : ByteArray) (w : World) (hs : s.size ≤ 9223372036854775807) :
    Calls Tryz.prog 152 #[.string s] w fun e w' => e = .returned (.bool (controlB s)) ∧ w' = w := by
  by_cases h1 : (1 : Int) ≤ (s.size : Int)
  · by_cases h2 : (s.size : Int) ≤ 20
    · have HX : Hid (controlB s = plainB s) := bound_in (by omega) (by omega)
      go_enter Tryz.func152, Tryz.ntmps152
      go_wp2_with (go_at_call 104; refine (isPlain_any s _ hs).mono ?_; rintro e w' ⟨rfl, rfl⟩)
      go_ret
      exact ⟨ret_bool HX.out.symm, rfl⟩
    · have HX : Hid (controlB s = false) := bound_hi (by omega)
      go_enter Tryz.func152, Tryz.ntmps152
      go_wp2_with fail
      go_ret
      exact ⟨ret_bool HX.out.symm, rfl⟩
  · have HX : Hid (controlB s = false) := bound_lo (by omega)
    go_enter Tryz.func152, Tryz.ntmps152
    go_wp2_with fail
    go_ret
    exact ⟨ret_bool HX.out.symm, rfl⟩
set_option maxHeartbeats 400000 in
theorem isText_any (s : ByteArray) (w : World) (hs : s.size ≤ 9223372036854775807) :
    Calls Tryz.prog 147 #[.string s] w fun e w' => e = .returned (.bool (textB s)) ∧ w' = w := by
  by_cases h2 : (s.size : Int) ≤ 200
  · have HX : Hid (textB s = plainB s) := bound_in (by omega) (by omega)
    go_enter Tryz.func147, Tryz.ntmps147
    go_wp2_with (go_at_call 104; refine (isPlain_any s _ hs).mono ?_; rintro e w' ⟨rfl, rfl⟩)
    go_ret
    exact ⟨ret_bool HX.out.symm, rfl⟩
  · have HX : Hid (textB s = false) := bound_hi (by omega)
    go_enter Tryz.func147, Tryz.ntmps147
    go_wp2_with fail
    go_ret
    exact ⟨ret_bool HX.out.symm, rfl⟩

def pageB (n : Int) : Bool := decide (1 ≤ n) && decide (n ≤ 50)
end Go.Proofs.YtfcmhnfdbobnlaaGreatDoor.Msg
