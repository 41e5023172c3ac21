import Derived.Test.YtaalkjbkmkjkpaaMsgEq2withMsgTo
namespace Go.Proofs.Ytaalkjbkmkjkpaa.Msg
open Go.ChangeShapes Go.WideShapes Go.ChangeAt Go.RowKit
set_option linter.unusedVariables false
set_option linter.unusedSimpArgs false

theorem all_step {α : Type} {p : α → Bool} {xs : List α} {k : Nat} (h : k < xs.length) (h1 : (xs.take k).all p = true) (h2 : p xs[k] = true) : (xs.take (k + 1)).all p = true := by
  rw [List.take_succ_eq_append_getElem h, List.all_append, h1]
  simp [h2]
theorem all_fail {α : Type} {p : α → Bool} {xs : List α} {k : Nat} (h : k < xs.length) (h2 : p xs[k] = false) : xs.all p = false := by
  rw [List.all_eq_false]
  exact ⟨xs[k], List.getElem_mem h, by simp [h2]⟩
theorem all_done {α : Type} {p : α → Bool} {xs : List α} {k : Nat} (h : xs.length ≤ k) (h1 : (xs.take k).all p = true) : xs.all p = true := by
  rwa [List.take_of_length_le h] at h1

def plainC (c : UInt8) : Bool := decide (32 ≤ c.toNat) && decide (c.toNat ≤ 126)
def plainB (s : ByteArray) : Bool := s.data.toList.all plainC
def capB (c : UInt8) : Bool := decide (65 ≤ c.toNat) && decide (c.toNat ≤ 90)
def digB (c : UInt8) : Bool := decide (48 ≤ c.toNat) && decide (c.toNat ≤ 57)
/-- a segment name -/
def nameB (s : ByteArray) : Bool := match s.data.toList with
  | [a, b, c] => capB a && ((capB b || digB b) && (capB c || digB c))
  | _ => false
/-- the last of a list is not empty -/
def endB {α : Type} (f : α → Nat) (xs : List α) : Bool := match xs.getLast? with
  | none => true
  | some x => decide (0 < f x)
def repB (r : Rep) : Bool := decide (r.length ≤ 20) && (endB ByteArray.size r && r.all plainB)
def fieldB (f : Field) : Bool := decide (f.length ≤ 30) && (endB List.length f && f.all repB)
def mshB (s : ByteArray) : Bool := s.toList == [77, 83, 72]
def segB (first : Bool) (s : Seg) : Bool := nameB s.name && ((mshB s.name == first) && (decide (s.fields.length ≤ 30) && (endB List.length s.fields && s.fields.all fieldB)))
def shapeB (m : List Seg) : Bool := decide (1 ≤ m.length) && (decide (m.length ≤ 250) && m.zipIdx.all fun p => segB (p.2 == 0) p.1)

theorem endB_at {α : Type} (f : α → Nat) (xs : List α) (h : 0 < xs.length) : endB f xs = decide (0 < f xs[xs.length - 1]) := by
  unfold endB
  rw [List.getLast?_eq_getElem?, List.getElem?_eq_getElem (by omega)]
theorem endB_nil {α : Type} (f : α → Nat) (xs : List α) (h : xs.length = 0) : endB f xs = true := by
  rw [List.length_eq_zero_iff] at h
  subst h
  rfl

set_option maxHeartbeats 400000 in
theorem plain_any (s : ByteArray) (w : World) (hs : s.size ≤ 9223372036854775807) :
    Calls Try.prog 61 #[.string s] w fun e w' => e = .returned (.bool (plainB s)) ∧ w' = w := by
  go_enter Try.func61, Try.ntmps61
  go_wp2
  go_loop [3] (fun i => ∃ k : Nat, k ≤ s.size ∧ i = .int .i64 k ∧ (s.data.toList.take k).all plainC = true) (fun i => s.size - (intOf i).toNat)
  case atStart => exact ⟨0, Nat.zero_le _, rfl, rfl⟩
  case round =>
    obtain ⟨k, hk, rfl, hall⟩ := hrel
    have HA := hide hall
    clear hall
    have hsz : s.data.toList.length = s.size := by simp
    by_cases hlt : k < s.size
    · have HK : Hid (∀ h, s.data.toList[k]'h = s[k]) := fun h => rfl
      have HP : Hid (plainC s[k] = (decide (32 ≤ s[k].toNat) && decide (s[k].toNat ≤ 126))) := rfl
      by_cases h1 : (s[k].toNat : Int) < 32
      · have HF : Hid (plainC s[k] = false) := by rw [HP.out, decide_eq_false (by omega)]; rfl
        have HZ := hide (all_fail (p := plainC) (xs := s.data.toList) (k := k) (by omega) (by rw [HK.out]; exact HF.out))
        clear hsz
        go_wp2
        go_ret
        exact ⟨ret_bool HZ.out.symm, rfl⟩
      · by_cases h2 : (126 : Int) < (s[k].toNat : Int)
        · have HF : Hid (plainC s[k] = false) := by rw [HP.out, decide_eq_false (p := s[k].toNat ≤ 126) (by omega), Bool.and_false]; trivial
          have HZ := hide (all_fail (p := plainC) (xs := s.data.toList) (k := k) (by omega) (by rw [HK.out]; exact HF.out))
          clear hsz
          go_wp2
          go_ret
          exact ⟨ret_bool HZ.out.symm, rfl⟩
        · have HF : Hid (plainC s[k] = true) := by rw [HP.out, decide_eq_true (by omega), decide_eq_true (by omega)]; rfl
          have HZ := hide (all_step (p := plainC) (xs := s.data.toList) (k := k) (by omega) HA.out (by rw [HK.out]; exact HF.out))
          clear hsz
          go_wp2
          go_round
          case rel => exact ⟨k + 1, by omega, by go_num, HZ.out⟩
          case measure => simp [intOf]; omega
    · have HZ := hide (all_done (by omega) HA.out)
      clear hsz
      go_wp2
      go_ret
      exact ⟨ret_bool HZ.out.symm, rfl⟩

theorem name_no (s : ByteArray) (h : s.size ≠ 3) : nameB s = false := by
  unfold nameB
  split
  · rename_i a b c he
    have : s.data.toList.length = 3 := by rw [he]; rfl
    simp at this
    exact absurd this h
  · rfl
theorem name_yes (s : ByteArray) (h : s.size = 3) : nameB s = (capB (s[0]'(by omega)) && ((capB (s[1]'(by omega)) || digB (s[1]'(by omega))) && (capB (s[2]'(by omega)) || digB (s[2]'(by omega))))) := by
  have e : s.data.toList = [s[0]'(by omega), s[1]'(by omega), s[2]'(by omega)] := by
    apply List.ext_getElem
    · simpa using h
    · intro i h1 h2
      have h3 : i < 3 := by simpa using h2
      match i, h3 with
      | 0, _ => rfl
      | 1, _ => rfl
      | 2, _ => rfl
  unfold nameB
  rw [e]

/-- the test of one byte of a name behind the first -/
def tailB (c : UInt8) : Bool := capB c || digB c

end Go.Proofs.Ytaalkjbkmkjkpaa.Msg

namespace Go.Proofs.Ytaalkjbkmkjkpaa.Msg
open Go.ChangeShapes Go.WideShapes Go.ChangeAt Go.RowKit
set_option linter.unusedVariables false
set_option linter.unusedSimpArgs false

/-- component number comp (from 1) of the first repetition of the field at a place (from 0) -/
def pick (fs : List Field) (at_ comp : Int) : ByteArray :=
  if at_ < 0 then ⟨#[]⟩ else match fs[at_.toNat]? with
  | none => ⟨#[]⟩
  | some f => match f with
    | [] => ⟨#[]⟩
    | r :: _ => if comp < 1 then ⟨#[]⟩ else r.getD (comp - 1).toNat ⟨#[]⟩
def getFrom (m : List Seg) (name : ByteArray) (field comp : Int) : ByteArray := match m.find? fun s => s.name.toList == name.toList with
  | none => ⟨#[]⟩
  | some s => pick s.fields (field - if mshB name then 3 else 1) comp

theorem wrap_at (field d : Int) (h0 : -9223372036854775808 ≤ field) (h1 : field ≤ 9223372036854775807) (hd0 : 0 ≤ d) (hd : d ≤ 3) :
    ∃ z, wrap64 (field - d) = z ∧ ((0 ≤ field - d ∧ z = field - d) ∨ (field - d < 0 ∧ (z < 0 ∨ 4611686018427387904 ≤ z))) := by
  refine ⟨_, rfl, ?_⟩
  by_cases h : -9223372036854775808 ≤ field - d
  · have e : wrap64 (field - d) = field - d := by unfold wrap64; omega
    rw [e]
    by_cases h2 : 0 ≤ field - d
    · exact .inl ⟨h2, rfl⟩
    · exact .inr ⟨by omega, .inl (by omega)⟩
  · right
    refine ⟨by omega, .inr ?_⟩
    unfold wrap64; omega

theorem find_take {xs : List Seg} {p : Seg → Bool} {k : Nat} (h : k < xs.length) (h1 : ∀ j (hj : j < xs.length), j < k → p xs[j] = false) (h2 : p xs[k] = true) : xs.find? p = some xs[k] := by
  rw [List.find?_eq_some_iff_getElem]
  exact ⟨h2, k, h, rfl, fun j hj => by rw [h1 j (by omega) hj]; rfl⟩
theorem find_none {xs : List Seg} {p : Seg → Bool} (h1 : ∀ j (hj : j < xs.length), p xs[j] = false) : xs.find? p = none := by
  rw [List.find?_eq_none]
  intro x hx
  obtain ⟨j, hj, rfl⟩ := List.getElem_of_mem hx
  simp [h1 j hj]

end Go.Proofs.Ytaalkjbkmkjkpaa.Msg
