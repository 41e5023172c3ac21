import Derived.Test.YtpmnepalchgcbaaGreatDoorMsgEqwithMsgEq2withMsgTo
import Derived.Lib.ItoaMem
import Derived.Lib.AtoiAllCases
namespace Go.Proofs.YtpmnepalchgcbaaGreatDoor.Msg
open Go.ChangeShapes Go.WideShapes Go.ChangeAt Go.RowKit
set_option linter.unusedVariables false
set_option linter.unusedSimpArgs false

theorem all_step {α : Type} {p : α → Bool} {xs : List α} {k : Nat} (h : k < xs.length) (h1 : (xs.take k).all p = true) (h2 : p xs[k] = true) : (xs.take (k + 1)).all p = true := by
  rw [List.take_succ_eq_append_getElem h, List.all_append, h1]
  simp [h2]
theorem all_fail {α : Type} {p : α → Bool} {xs : List α} {k : Nat} (h : k < xs.length) (h2 : p xs[k] = false) : xs.all p = false := by
  rw [List.all_eq_false]
  exact ⟨xs[k], List.getElem_mem h, by simp [h2]⟩
theorem all_done {α : Type} {p : α → Bool} {xs : List α} {k : Nat} (h : xs.length ≤ k) (h1 : (xs.take k).all p = true) : xs.all p = true := by
  rwa [List.take_of_length_le h] at h1

def plainC (c : UInt8) : Bool := decide (32 ≤ c.toNat) && decide (c.toNat ≤ 126)
def plainB (s : ByteArray) : Bool := s.data.toList.all plainC
def capB (c : UInt8) : Bool := decide (65 ≤ c.toNat) && decide (c.toNat ≤ 90)
def digB (c : UInt8) : Bool := decide (48 ≤ c.toNat) && decide (c.toNat ≤ 57)
/-- a segment name -/
def nameB (s : ByteArray) : Bool := match s.data.toList with
  | [a, b, c] => capB a && ((capB b || digB b) && (capB c || digB c))
  | _ => false
/-- the last of a list is not empty -/
def endB {α : Type} (f : α → Nat) (xs : List α) : Bool := match xs.getLast? with
  | none => true
  | some x => decide (0 < f x)
def repB (r : Rep) : Bool := decide (r.length ≤ 20) && (endB ByteArray.size r && r.all plainB)
def fieldB (f : Field) : Bool := decide (f.length ≤ 30) && (endB List.length f && f.all repB)
def mshB (s : ByteArray) : Bool := s.toList == [77, 83, 72]
def segB (first : Bool) (s : Seg) : Bool := nameB s.name && ((mshB s.name == first) && (decide (s.fields.length ≤ 30) && (endB List.length s.fields && s.fields.all fieldB)))
def shapeB (m : List Seg) : Bool := decide (1 ≤ m.length) && (decide (m.length ≤ 250) && m.zipIdx.all fun p => segB (p.2 == 0) p.1)

theorem endB_at {α : Type} (f : α → Nat) (xs : List α) (h : 0 < xs.length) : endB f xs = decide (0 < f xs[xs.length - 1]) := by
  unfold endB
  rw [List.getLast?_eq_getElem?, List.getElem?_eq_getElem (by omega)]
theorem endB_nil {α : Type} (f : α → Nat) (xs : List α) (h : xs.length = 0) : endB f xs = true := by
  rw [List.length_eq_zero_iff] at h
  subst h
  rfl

set_option maxHeartbeats 400000 in
theorem plain_any (s : ByteArray) (w : World) (hs : s.size ≤ 9223372036854775807) :
    Calls Tryz.prog 82 #[.string s] w fun e w' => e = .returned (.bool (plainB s)) ∧ w' = w := by
  go_enter Tryz.func82, Tryz.ntmps82
  go_wp2
  go_loop [3] (fun i => ∃ k : Nat, k ≤ s.size ∧ i = .int .i64 k ∧ (s.data.toList.take k).all plainC = true) (fun i => s.size - (intOf i).toNat)
  case atStart => exact ⟨0, Nat.zero_le _, rfl, rfl⟩
  case round =>
    obtain ⟨k, hk, rfl, hall⟩ := hrel
    have HA := hide hall
    clear hall
    have hsz : s.data.toList.length = s.size := by simp
    by_cases hlt : k < s.size
    · have HK : Hid (∀ h, s.data.toList[k]'h = s[k]) := fun h => rfl
      have HP : Hid (plainC s[k] = (decide (32 ≤ s[k].toNat) && decide (s[k].toNat ≤ 126))) := rfl
      by_cases h1 : (s[k].toNat : Int) < 32
      · have HF : Hid (plainC s[k] = false) := by rw [HP.out, decide_eq_false (by omega)]; rfl
        have HZ := hide (all_fail (p := plainC) (xs := s.data.toList) (k := k) (by omega) (by rw [HK.out]; exact HF.out))
        clear hsz
        go_wp2
        go_ret
        exact ⟨ret_bool HZ.out.symm, rfl⟩
      · by_cases h2 : (126 : Int) < (s[k].toNat : Int)
        · have HF : Hid (plainC s[k] = false) := by rw [HP.out, decide_eq_false (p := s[k].toNat ≤ 126) (by omega), Bool.and_false]; trivial
          have HZ := hide (all_fail (p := plainC) (xs := s.data.toList) (k := k) (by omega) (by rw [HK.out]; exact HF.out))
          clear hsz
          go_wp2
          go_ret
          exact ⟨ret_bool HZ.out.symm, rfl⟩
        · have HF : Hid (plainC s[k] = true) := by rw [HP.out, decide_eq_true (by omega), decide_eq_true (by omega)]; rfl
          have HZ := hide (all_step (p := plainC) (xs := s.data.toList) (k := k) (by omega) HA.out (by rw [HK.out]; exact HF.out))
          clear hsz
          go_wp2
          go_round
          case rel => exact ⟨k + 1, by omega, by go_num, HZ.out⟩
          case measure => simp [intOf]; omega
    · have HZ := hide (all_done (by omega) HA.out)
      clear hsz
      go_wp2
      go_ret
      exact ⟨ret_bool HZ.out.symm, rfl⟩

theorem name_no (s : ByteArray) (h : s.size ≠ 3) : nameB s = false := by
  unfold nameB
  split
  · rename_i a b c he
    have : s.data.toList.length = 3 := by rw [he]; rfl
    simp at this
    exact absurd this h
  · rfl
theorem name_yes (s : ByteArray) (h : s.size = 3) : nameB s = (capB (s[0]'(by omega)) && ((capB (s[1]'(by omega)) || digB (s[1]'(by omega))) && (capB (s[2]'(by omega)) || digB (s[2]'(by omega))))) := by
  have e : s.data.toList = [s[0]'(by omega), s[1]'(by omega), s[2]'(by omega)] := by
    apply List.ext_getElem
    · simpa using h
    · intro i h1 h2
      have h3 : i < 3 := by simpa using h2
      match i, h3 with
      | 0, _ => rfl
      | 1, _ => rfl
      | 2, _ => rfl
  unfold nameB
  rw [e]

/-- the test of one byte of a name behind the first -/
def tailB (c : UInt8) : Bool := capB c || digB c

end Go.Proofs.YtpmnepalchgcbaaGreatDoor.Msg

namespace Go.Proofs.YtpmnepalchgcbaaGreatDoor.Msg
open Go.ChangeShapes Go.WideShapes Go.ChangeAt Go.RowKit
set_option linter.unusedVariables false
set_option linter.unusedSimpArgs false

/-- component number comp (from 1) of the first repetition of the field at a place (from 0) -/
def pick (fs : List Field) (at_ comp : Int) : ByteArray :=
  if at_ < 0 then ⟨#[]⟩ else match fs[at_.toNat]? with
  | none => ⟨#[]⟩
  | some f => match f with
    | [] => ⟨#[]⟩
    | r :: _ => if comp < 1 then ⟨#[]⟩ else r.getD (comp - 1).toNat ⟨#[]⟩
def getFrom (m : List Seg) (name : ByteArray) (field comp : Int) : ByteArray := match m.find? fun s => s.name.toList == name.toList with
  | none => ⟨#[]⟩
  | some s => pick s.fields (field - if mshB name then 3 else 1) comp

theorem wrap_at (field d : Int) (h0 : -9223372036854775808 ≤ field) (h1 : field ≤ 9223372036854775807) (hd0 : 0 ≤ d) (hd : d ≤ 3) :
    ∃ z, wrap64 (field - d) = z ∧ ((0 ≤ field - d ∧ z = field - d) ∨ (field - d < 0 ∧ (z < 0 ∨ 4611686018427387904 ≤ z))) := by
  refine ⟨_, rfl, ?_⟩
  by_cases h : -9223372036854775808 ≤ field - d
  · have e : wrap64 (field - d) = field - d := by unfold wrap64; omega
    rw [e]
    by_cases h2 : 0 ≤ field - d
    · exact .inl ⟨h2, rfl⟩
    · exact .inr ⟨by omega, .inl (by omega)⟩
  · right
    refine ⟨by omega, .inr ?_⟩
    unfold wrap64; omega

theorem find_take {xs : List Seg} {p : Seg → Bool} {k : Nat} (h : k < xs.length) (h1 : ∀ j (hj : j < xs.length), j < k → p xs[j] = false) (h2 : p xs[k] = true) : xs.find? p = some xs[k] := by
  rw [List.find?_eq_some_iff_getElem]
  exact ⟨h2, k, h, rfl, fun j hj => by rw [h1 j (by omega) hj]; rfl⟩
theorem find_none {xs : List Seg} {p : Seg → Bool} (h1 : ∀ j (hj : j < xs.length), p xs[j] = false) : xs.find? p = none := by
  rw [List.find?_eq_none]
  intro x hx
  obtain ⟨j, hj, rfl⟩ := List.getElem_of_mem hx
  simp [h1 j hj]

end Go.Proofs.YtpmnepalchgcbaaGreatDoor.Msg

namespace Go.Proofs.YtpmnepalchgcbaaGreatDoor.Msg
open Go.Lib
set_option linter.unusedVariables false

/-! texts of digits: the number that one spells, and the decimal of a number -/
def decV (acc : Nat) : List UInt8 → Nat
  | [] => acc
  | c :: r => decV (acc * 10 + (c.toNat - 48)) r
def digitB (c : UInt8) : Bool := decide (48 ≤ c.toNat) && decide (c.toNat ≤ 57)
/-- the number that a decimal from 0 to 999999999 spells; -1 for any other text -/
def numS (l : List UInt8) : Int :=
  if l.length < 1 then -1 else if 9 < l.length then -1 else if l.all digitB then (if decDigits (decV 0 l) == l then (decV 0 l : Int) else -1) else -1
/-- the number that a decimal of an int spells; 0 for any other text -/
def numI (l : List UInt8) : Int := match atoiAll l with
  | .ok v => if itoa v == l then v else 0
  | _ => 0

theorem decV_snoc : ∀ (l : List UInt8) (acc : Nat) (c : UInt8), decV acc (l ++ [c]) = decV acc l * 10 + (c.toNat - 48)
  | [], acc, c => rfl
  | b :: r, acc, c => by
    show decV _ (r ++ [c]) = _
    rw [decV_snoc r]
    rfl
theorem decV_ge : ∀ (l : List UInt8) (acc : Nat), acc ≤ decV acc l
  | [], acc => Nat.le_refl _
  | c :: r, acc => Nat.le_trans (by omega) (decV_ge r _)
theorem decV_take (l : List UInt8) (k : Nat) (h : k < l.length) : decV 0 (l.take (k + 1)) = decV 0 (l.take k) * 10 + (l[k].toNat - 48) := by
  rw [List.take_succ_eq_append_getElem h, decV_snoc]
theorem decV_lt (l : List UInt8) (ha : l.all digitB = true) (k : Nat) (hk : k ≤ l.length) : decV 0 (l.take k) < 10 ^ k := by
  induction k with
  | zero => rw [List.take_zero, Nat.pow_zero]; exact Nat.zero_lt_one
  | succ k ih =>
    have h1 := ih (by omega)
    rw [decV_take l k (by omega)]
    have h2 := List.all_eq_true.1 ha l[k] (List.getElem_mem _)
    simp only [digitB, Bool.and_eq_true, decide_eq_true_eq] at h2
    rw [Nat.pow_succ]
    omega
theorem parse_digits : ∀ (l : List UInt8) (acc : Nat), l.all digitB = true → decV acc l < 18446744073709551616 → parseUint10 acc l = .ok (decV acc l)
  | [], acc, _, _ => rfl
  | c :: r, acc, ha, h => by
    rw [List.all_cons, Bool.and_eq_true] at ha
    have h2 := ha.1
    simp only [digitB, Bool.and_eq_true, decide_eq_true_eq] at h2
    have h3 := decV_ge r (acc * 10 + (c.toNat - 48))
    have h4 : decV acc (c :: r) = decV (acc * 10 + (c.toNat - 48)) r := rfl
    rw [h4] at h ⊢
    show (if 48 ≤ c.toNat ∧ c.toNat ≤ 57 then _ else _) = _
    rw [if_pos h2, if_neg (by omega), if_neg (by omega)]
    exact parse_digits r _ ha.2 h
theorem digit_nat (d : Nat) (h : d < 10) : (UInt8.ofNat (48 + d)).toNat = 48 + d := by
  rw [UInt8.toNat_ofNat']
  omega
theorem dec_spells (u : Nat) : decV 0 (decDigits u) = u ∧ (decDigits u).all digitB = true ∧ 1 ≤ (decDigits u).length := by
  induction u using Nat.strongRecOn with
  | _ u ih =>
    rw [decDigits]
    split
    · rename_i h
      refine ⟨?_, ?_, by simp⟩
      · show 0 * 10 + ((UInt8.ofNat (48 + u)).toNat - 48) = u
        rw [digit_nat u h]; omega
      · simp only [List.all_cons, List.all_nil, digitB, digit_nat u h, Bool.and_true, Bool.and_eq_true, decide_eq_true_eq]; omega
    · rename_i h
      obtain ⟨h1, h2, h3⟩ := ih (u / 10) (by omega)
      refine ⟨?_, ?_, by simp⟩
      · rw [decV_snoc, h1, digit_nat _ (by omega)]; omega
      · rw [List.all_append, h2]
        simp only [List.all_cons, List.all_nil, digitB, digit_nat (u % 10) (by omega), Bool.and_true, Bool.true_and, Bool.and_eq_true, decide_eq_true_eq]
        omega
theorem dec_len (k : Nat) : ∀ u, u < 10 ^ (k + 1) → (decDigits u).length ≤ k + 1 := by
  induction k with
  | zero => intro u h; rw [decDigits, dif_pos (by omega)]; simp
  | succ k ih =>
    intro u h
    rw [decDigits]
    split
    · simp
    · have h2 : u / 10 < 10 ^ (k + 1) := by rw [Nat.pow_succ] at h; omega
      have := ih _ h2
      rw [List.length_append]
      simp
      omega
theorem numI_dec (u : Nat) (h : u < 9223372036854775808) : numI (decDigits u) = u := by
  obtain ⟨h1, h2, h3⟩ := dec_spells u
  have e : atoiAll (decDigits u) = .ok (u : Int) := by
    have hp := parse_digits (decDigits u) 0 h2 (by omega)
    rw [h1] at hp
    cases hl : decDigits u with
    | nil => rw [hl] at h3; simp at h3
    | cons c r =>
      rw [hl] at h2 hp
      rw [List.all_cons, Bool.and_eq_true] at h2
      have h4 := h2.1
      simp only [digitB, Bool.and_eq_true, decide_eq_true_eq] at h4
      rw [atoiAll_plain c r (by omega) (by omega)]
      unfold parseMag
      rw [if_neg (by simp), hp]
      show (if 9223372036854775808 ≤ u then _ else _) = _
      rw [if_neg (by omega)]
  unfold numI
  rw [e]
  show (if itoa (u : Int) == decDigits u then _ else _) = _
  rw [itoa_nonneg, if_pos (by simp)]
theorem numS_dec (u : Nat) (h : u < 1000000000) : numS (decDigits u) = u := by
  obtain ⟨h1, h2, h3⟩ := dec_spells u
  have h4 := dec_len 8 u (by omega)
  unfold numS
  rw [if_neg (by omega), if_neg (by omega), if_pos h2, h1]
  simp
theorem numS_is {l : List UInt8} (h : 0 ≤ numS l) : l = decDigits (numS l).toNat ∧ numS l < 1000000000 := by
  unfold numS at h ⊢
  split at h
  · omega
  · split at h
    · omega
    · split at h
      · rename_i h1 h2 h3
        split at h
        · rename_i h4
          rw [if_neg h1, if_neg h2, if_pos h3, if_pos h4]
          refine ⟨?_, ?_⟩
          · rw [Int.toNat_natCast]; exact (beq_iff_eq.1 h4).symm
          · have h5 := decV_lt l h3 l.length (Nat.le_refl _)
            rw [List.take_length] at h5
            have h6 : (10 : Nat) ^ l.length ≤ 10 ^ 9 := Nat.pow_le_pow_right (by omega) (by omega)
            omega
        · omega
      · omega
theorem numI_is {l : List UInt8} (h : 1 ≤ numI l) : l = decDigits (numI l).toNat ∧ numI l ≤ 9223372036854775807 := by
  unfold numI at h ⊢
  cases ha : atoiAll l with
  | «syntax» => rw [ha] at h; simp at h
  | range => rw [ha] at h; simp at h
  | ok v =>
    rw [ha] at h
    simp only at h ⊢
    split at h
    · rename_i h2
      have hb := atoiAll_bounds ha
      rw [if_pos h2]
      refine ⟨?_, hb.2⟩
      have h3 := beq_iff_eq.1 h2
      obtain ⟨u, rfl⟩ := Int.eq_ofNat_of_zero_le (show 0 ≤ v by omega)
      rw [itoa_nonneg] at h3
      rw [Int.toNat_natCast]
      exact h3.symm
    · omega
/-- where one of the two gives a number from 1 to 999999999, the other gives the same -/
theorem num_same (l : List UInt8) (h : (1 ≤ numS l) ∨ (1 ≤ numI l ∧ numI l ≤ 999999999)) : numS l = numI l := by
  rcases h with h | ⟨h, h'⟩
  · obtain ⟨h1, h2⟩ := numS_is (by omega : 0 ≤ numS l)
    obtain ⟨u, hu⟩ := Int.eq_ofNat_of_zero_le (show 0 ≤ numS l by omega)
    rw [hu, Int.toNat_natCast] at h1
    rw [hu]
    rw [h1, numI_dec u (by omega)]
  · obtain ⟨h1, h2⟩ := numI_is h
    obtain ⟨u, hu⟩ := Int.eq_ofNat_of_zero_le (show 0 ≤ numI l by omega)
    rw [hu, Int.toNat_natCast] at h1
    rw [hu]
    rw [h1, numS_dec u (by omega)]
/-- the same, said for a test of a range -/
theorem num_range (l : List UInt8) (b : Int) (hb : b ≤ 999999999) (hb1 : 1 ≤ b) : (decide (1 ≤ numS l) && decide (numS l ≤ b)) = (decide (1 ≤ numI l) && decide (numI l ≤ b)) := by
  by_cases h : (1 ≤ numS l) ∨ (1 ≤ numI l ∧ numI l ≤ 999999999)
  · rw [num_same l h]
  · have h1 : ¬ 1 ≤ numS l := fun x => h (.inl x)
    have h2 : ¬ (1 ≤ numI l ∧ numI l ≤ b) := fun x => h (.inr ⟨x.1, by omega⟩)
    rw [decide_eq_false h1, Bool.false_and]
    symm
    rw [Bool.and_eq_false_iff, decide_eq_false_iff_not, decide_eq_false_iff_not]
    omega
end Go.Proofs.YtpmnepalchgcbaaGreatDoor.Msg
