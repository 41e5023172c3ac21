import Derived.Lib.ItoaMem
import Derived.Lib.AtoiAllCases
import Derived.Test.YtfcmhnfdbobnlaaGreatDoorMsgGet
import Derived.Deep.RegionHeld3
namespace Go.Proofs.YtfcmhnfdbobnlaaGreatDoor.Msg
open Go.Lib
set_option linter.unusedVariables false

/-! texts of digits: the number that one spells, and the decimal of a number -/
def decV (acc : Nat) : List UInt8 → Nat
  | [] => acc
  | c :: r => decV (acc * 10 + (c.toNat - 48)) r
def digitB (c : UInt8) : Bool := decide (48 ≤ c.toNat) && decide (c.toNat ≤ 57)
/-- the number that a decimal from 0 to 999999999 spells; -1 for any other text -/
def numS (l : List UInt8) : Int :=
  if l.length < 1 then -1 else if 9 < l.length then -1 else if l.all digitB then (if decDigits (decV 0 l) == l then (decV 0 l : Int) else -1) else -1
/-- the number that a decimal of an int spells; 0 for any other text -/
def numI (l : List UInt8) : Int := match atoiAll l with
  | .ok v => if itoa v == l then v else 0
  | _ => 0

theorem decV_snoc : ∀ (l : List UInt8) (acc : Nat) (c : UInt8), decV acc (l ++ [c]) = decV acc l * 10 + (c.toNat - 48)
  | [], acc, c => rfl
  | b :: r, acc, c => by
    show decV _ (r ++ [c]) = _
    rw [decV_snoc r]
    rfl
theorem decV_ge : ∀ (l : List UInt8) (acc : Nat), acc ≤ decV acc l
  | [], acc => Nat.le_refl _
  | c :: r, acc => Nat.le_trans (by omega) (decV_ge r _)
theorem decV_take (l : List UInt8) (k : Nat) (h : k < l.length) : decV 0 (l.take (k + 1)) = decV 0 (l.take k) * 10 + (l[k].toNat - 48) := by
  rw [List.take_succ_eq_append_getElem h, decV_snoc]
theorem decV_lt (l : List UInt8) (ha : l.all digitB = true) (k : Nat) (hk : k ≤ l.length) : decV 0 (l.take k) < 10 ^ k := by
  induction k with
  | zero => rw [List.take_zero, Nat.pow_zero]; exact Nat.zero_lt_one
  | succ k ih =>
    have h1 := ih (by omega)
    rw [decV_take l k (by omega)]
    have h2 := List.all_eq_true.1 ha l[k] (List.getElem_mem _)
    simp only [digitB, Bool.and_eq_true, decide_eq_true_eq] at h2
    rw [Nat.pow_succ]
    omega
theorem parse_digits : ∀ (l : List UInt8) (acc : Nat), l.all digitB = true → decV acc l < 18446744073709551616 → parseUint10 acc l = .ok (decV acc l)
  | [], acc, _, _ => rfl
  | c :: r, acc, ha, h => by
    rw [List.all_cons, Bool.and_eq_true] at ha
    have h2 := ha.1
    simp only [digitB, Bool.and_eq_true, decide_eq_true_eq] at h2
    have h3 := decV_ge r (acc * 10 + (c.toNat - 48))
    have h4 : decV acc (c :: r) = decV (acc * 10 + (c.toNat - 48)) r := rfl
    rw [h4] at h ⊢
    show (if 48 ≤ c.toNat ∧ c.toNat ≤ 57 then _ else _) = _
    rw [if_pos h2, if_neg (by omega), if_neg (by omega)]
    exact parse_digits r _ ha.2 h
theorem digit_nat (d : Nat) (h : d < 10) : (UInt8.ofNat (48 + d)).toNat = 48 + d := by
  rw [UInt8.toNat_ofNat']
  omega
theorem dec_spells (u : Nat) : decV 0 (decDigits u) = u ∧ (decDigits u).all digitB = true ∧ 1 ≤ (decDigits u).length := by
  induction u using Nat.strongRecOn with
  | _ u ih =>
    rw [decDigits]
    split
    · rename_i h
      refine ⟨?_, ?_, by simp⟩
      · show 0 * 10 + ((UInt8.ofNat (48 + u)).toNat - 48) = u
        rw [digit_nat u h]; omega
      · simp only [List.all_cons, List.all_nil, digitB, digit_nat u h, Bool.and_true, Bool.and_eq_true, decide_eq_true_eq]; omega
    · rename_i h
      obtain ⟨h1, h2, h3⟩ := ih (u / 10) (by omega)
      refine ⟨?_, ?_, by simp⟩
      · rw [decV_snoc, h1, digit_nat _ (by omega)]; omega
      · rw [List.all_append, h2]
        simp only [List.all_cons, List.all_nil, digitB, digit_nat (u % 10) (by omega), Bool.and_true, Bool.true_and, Bool.and_eq_true, decide_eq_true_eq]
        omega
theorem dec_len (k : Nat) : ∀ u, u < 10 ^ (k + 1) → (decDigits u).length ≤ k + 1 := by
  induction k with
  | zero => intro u h; rw [decDigits, dif_pos (by omega)]; simp
  | succ k ih =>
    intro u h
    rw [decDigits]
    split
    · simp
    · have h2 : u / 10 < 10 ^ (k + 1) := by rw [Nat.pow_succ] at h; omega
      have := ih _ h2
      rw [List.length_append]
      simp
      omega
theorem numI_dec (u : Nat) (h : u < 9223372036854775808) : numI (decDigits u) = u := by
  obtain ⟨h1, h2, h3⟩ := dec_spells u
  have e : atoiAll (decDigits u) = .ok (u : Int) := by
    have hp := parse_digits (decDigits u) 0 h2 (by omega)
    rw [h1] at hp
    cases hl : decDigits u with
    | nil => rw [hl] at h3; simp at h3
    | cons c r =>
      rw [hl] at h2 hp
      rw [List.all_cons, Bool.and_eq_true] at h2
      have h4 := h2.1
      simp only [digitB, Bool.and_eq_true, decide_eq_true_eq] at h4
      rw [atoiAll_plain c r (by omega) (by omega)]
      unfold parseMag
      rw [if_neg (by simp), hp]
      show (if 9223372036854775808 ≤ u then _ else _) = _
      rw [if_neg (by omega)]
  unfold numI
  rw [e]
  show (if itoa (u : Int) == decDigits u then _ else _) = _
  rw [itoa_nonneg, if_pos (by simp)]
theorem numS_dec (u : Nat) (h : u < 1000000000) : numS (decDigits u) = u := by
  obtain ⟨h1, h2, h3⟩ := dec_spells u
  have h4 := dec_len 8 u (by omega)
  unfold numS
  rw [if_neg (by omega), if_neg (by omega), if_pos h2, h1]
  simp
theorem numS_is {l : List UInt8} (h : 0 ≤ numS l) : l = decDigits (numS l).toNat ∧ numS l < 1000000000 := by
  unfold numS at h ⊢
  split at h
  · omega
  · split at h
    · omega
    · split at h
      · rename_i h1 h2 h3
        split at h
        · rename_i h4
          rw [if_neg h1, if_neg h2, if_pos h3, if_pos h4]
          refine ⟨?_, ?_⟩
          · rw [Int.toNat_natCast]; exact (beq_iff_eq.1 h4).symm
          · have h5 := decV_lt l h3 l.length (Nat.le_refl _)
            rw [List.take_length] at h5
            have h6 : (10 : Nat) ^ l.length ≤ 10 ^ 9 := Nat.pow_le_pow_right (by omega) (by omega)
            omega
        · omega
      · omega
theorem numI_is {l : List UInt8} (h : 1 ≤ numI l) : l = decDigits (numI l).toNat ∧ numI l ≤ 9223372036854775807 := by
  unfold numI at h ⊢
  cases ha : atoiAll l with
  | «syntax» => rw [ha] at h; simp at h
  | range => rw [ha] at h; simp at h
  | ok v =>
    rw [ha] at h
    simp only at h ⊢
    split at h
    · rename_i h2
      have hb := atoiAll_bounds ha
      rw [if_pos h2]
      refine ⟨?_, hb.2⟩
      have h3 := beq_iff_eq.1 h2
      obtain ⟨u, rfl⟩ := Int.eq_ofNat_of_zero_le (show 0 ≤ v by omega)
      rw [itoa_nonneg] at h3
      rw [Int.toNat_natCast]
      exact h3.symm
    · omega
/-- where one of the two gives a number from 1 to 999999999, the other gives the same -/
theorem num_same (l : List UInt8) (h : (1 ≤ numS l) ∨ (1 ≤ numI l ∧ numI l ≤ 999999999)) : numS l = numI l := by
  rcases h with h | ⟨h, h'⟩
  · obtain ⟨h1, h2⟩ := numS_is (by omega : 0 ≤ numS l)
    obtain ⟨u, hu⟩ := Int.eq_ofNat_of_zero_le (show 0 ≤ numS l by omega)
    rw [hu, Int.toNat_natCast] at h1
    rw [hu]
    rw [h1, numI_dec u (by omega)]
  · obtain ⟨h1, h2⟩ := numI_is h
    obtain ⟨u, hu⟩ := Int.eq_ofNat_of_zero_le (show 0 ≤ numI l by omega)
    rw [hu, Int.toNat_natCast] at h1
    rw [hu]
    rw [h1, numS_dec u (by omega)]
/-- the same, said for a test of a range -/
theorem num_range (l : List UInt8) (b : Int) (hb : b ≤ 999999999) (hb1 : 1 ≤ b) : (decide (1 ≤ numS l) && decide (numS l ≤ b)) = (decide (1 ≤ numI l) && decide (numI l ≤ b)) := by
  by_cases h : (1 ≤ numS l) ∨ (1 ≤ numI l ∧ numI l ≤ 999999999)
  · rw [num_same l h]
  · have h1 : ¬ 1 ≤ numS l := fun x => h (.inl x)
    have h2 : ¬ (1 ≤ numI l ∧ numI l ≤ b) := fun x => h (.inr ⟨x.1, by omega⟩)
    rw [decide_eq_false h1, Bool.false_and]
    symm
    rw [Bool.and_eq_false_iff, decide_eq_false_iff_not, decide_eq_false_iff_not]
    omega
end Go.Proofs.YtfcmhnfdbobnlaaGreatDoor.Msg

namespace Go.Proofs.YtfcmhnfdbobnlaaGreatDoor.Msg
open Go.ChangeShapes Go.WideShapes Go.ChangeAt Go.RowKit
set_option linter.unusedVariables false
set_option linter.unusedSimpArgs false

/-! chapter 3: tags, controls, texts -/
def boundB (lo hi : Nat) (s : ByteArray) : Bool := decide (lo ≤ s.size) && (decide (s.size ≤ hi) && plainB s)
def tagB (s : ByteArray) : Bool := boundB 1 16 s
def controlB (s : ByteArray) : Bool := boundB 1 20 s
def textB (s : ByteArray) : Bool := boundB 0 200 s
theorem bound_lo {lo hi : Nat} {s : ByteArray} (h : ¬ lo ≤ s.size) : boundB lo hi s = false := by unfold boundB; rw [decide_eq_false h]; rfl
theorem bound_hi {lo hi : Nat} {s : ByteArray} (h : ¬ s.size ≤ hi) : boundB lo hi s = false := by unfold boundB; rw [decide_eq_false (p := s.size ≤ hi) h, Bool.false_and, Bool.and_false]
theorem bound_in {lo hi : Nat} {s : ByteArray} (h : lo ≤ s.size) (h' : s.size ≤ hi) : boundB lo hi s = plainB s := by unfold boundB; rw [decide_eq_true h, decide_eq_true h']; rfl

set_option maxHeartbeats 400000 in
theorem tagSpec_any (s : ByteArray) (w : World) (hs : s.size ≤ 9223372036854775807) :
    Calls Tryz.prog 48 #[.string s] w fun e w' => e = .returned (.bool (tagB s)) ∧ w' = w := by
  by_cases h1 : (1 : Int) ≤ (s.size : Int)
  · by_cases h2 : (s.size : Int) ≤ 16
    · have HX : Hid (tagB s = plainB s) := bound_in (by omega) (by omega)
      go_enter Tryz.func48, Tryz.ntmps48
      go_wp2_with (go_at_call 67; refine (plain_any s _ hs).mono ?_; rintro e w' ⟨rfl, rfl⟩)
      go_ret
      exact ⟨ret_bool HX.out.symm, rfl⟩
    · have HX : Hid (tagB s = false) := bound_hi (by omega)
      go_enter Tryz.func48, Tryz.ntmps48
      go_wp2_with fail
      go_ret
      exact ⟨ret_bool HX.out.symm, rfl⟩
  · have HX : Hid (tagB s = false) := bound_lo (by omega)
    go_enter Tryz.func48, Tryz.ntmps48
    go_wp2_with fail
    go_ret
    exact ⟨ret_bool HX.out.symm, rfl⟩
set_option maxHeartbeats 400000 in
theorem controlSpec_any (s : ByteArray) (w : World) (hs : s.size ≤ 9223372036854775807) :
    Calls Tryz.prog 47 #[.string s] w fun e w' => e = .returned (.bool (controlB s)) ∧ w' = w := by
  by_cases h1 : (1 : Int) ≤ (s.size : Int)
  · by_cases h2 : (s.size : Int) ≤ 20
    · have HX : Hid (controlB s = plainB s) := bound_in (by omega) (by omega)
      go_enter Tryz.func47, Tryz.ntmps47
      go_wp2_with (go_at_call 67; refine (plain_any s _ hs).mono ?_; rintro e w' ⟨rfl, rfl⟩)
      go_ret
      exact ⟨ret_bool HX.out.symm, rfl⟩
    · have HX : Hid (controlB s = false) := bound_hi (by omega)
      go_enter Tryz.func47, Tryz.ntmps47
      go_wp2_with fail
      go_ret
      exact ⟨ret_bool HX.out.symm, rfl⟩
  · have HX : Hid (controlB s = false) := bound_lo (by omega)
    go_enter Tryz.func47, Tryz.ntmps47
    go_wp2_with fail
    go_ret
    exact ⟨ret_bool HX.out.symm, rfl⟩
set_option maxHeartbeats 400000 in
theorem textSpec_any (s : ByteArray) (w : World) (hs : s.size ≤ 9223372036854775807) :
    Calls Tryz.prog 49 #[.string s] w fun e w' => e = .returned (.bool (textB s)) ∧ w' = w := by
  by_cases h2 : (s.size : Int) ≤ 200
  · have HX : Hid (textB s = plainB s) := bound_in (by omega) (by omega)
    go_enter Tryz.func49, Tryz.ntmps49
    go_wp2_with (go_at_call 67; refine (plain_any s _ hs).mono ?_; rintro e w' ⟨rfl, rfl⟩)
    go_ret
    exact ⟨ret_bool HX.out.symm, rfl⟩
  · have HX : Hid (textB s = false) := bound_hi (by omega)
    go_enter Tryz.func49, Tryz.ntmps49
    go_wp2_with fail
    go_ret
    exact ⟨ret_bool HX.out.symm, rfl⟩
end Go.Proofs.YtfcmhnfdbobnlaaGreatDoor.Msg

namespace Go.Proofs.YtfcmhnfdbobnlaaGreatDoor.Msg
open Go.ChangeShapes Go.WideShapes Go.ChangeAt Go.RowKit
set_option linter.unusedVariables false
set_option linter.unusedSimpArgs false

def digC (d : Nat) : UInt8 := UInt8.ofNat (48 + d)
/-- the decimal of a number, as a text -/
def decT (u : Nat) : ByteArray := ⟨(Lib.decDigits u).toArray⟩
theorem decT_one (u : Nat) (h : u < 10) : decT u = ⟨#[digC u]⟩ := by unfold decT digC; rw [Lib.decDigits, dif_pos h]
theorem decT_more (u : Nat) (h : ¬ u < 10) : decT u = decT (u / 10) ++ ⟨#[digC (u % 10)]⟩ := by
  unfold decT digC
  rw [Lib.decDigits, dif_neg h]
  apply ByteArray.ext
  simp
theorem rem_neg (u : Nat) : Int.tmod (-(u : Int)) 10 = -((u % 10 : Nat) : Int) := by
  rw [Int.neg_tmod, Int.tmod_eq_emod_of_nonneg (by omega)]
  omega
theorem quo_neg (u : Nat) : Int.tdiv (-(u : Int)) 10 = -((u / 10 : Nat) : Int) := by
  rw [Int.neg_tdiv, Int.tdiv_eq_ediv_of_nonneg (by omega)]
  omega

theorem digits_cut : ∀ d, d < 10 → (⟨#[48, 49, 50, 51, 52, 53, 54, 55, 56, 57]⟩ : ByteArray).extract d (d + 1) = ⟨#[digC d]⟩ := by unfold digC; decide
theorem digit_at (d : Nat) (h : d < 10) (w : World) : (Instr.slice 9 (.string ⟨#[48, 49, 50, 51, 52, 53, 54, 55, 56, 57]⟩) (some (.int .i64 (d : Int))) (some (.int .i64 ((d : Int) + 1))) none).run Tryz.prog w = .ok (.string ⟨#[digC d]⟩) w := by
  rw [run_slice_string w 9 ⟨#[48, 49, 50, 51, 52, 53, 54, 55, 56, 57]⟩ .i64 .i64 _ _ Tryz.underlying9 (by omega) (by omega) (by show ((d : Int) + 1) ≤ 10; omega), show ((d : Int)).toNat = d by omega, show ((d : Int) + 1).toNat = d + 1 by omega, digits_cut d h]

set_option maxHeartbeats 400000 in
set_option maxRecDepth 100000 in
theorem showDown_any (u : Nat) : ∀ (w : World), u ≤ 9223372036854775807 →
    Calls Tryz.prog 46 #[.int .i64 (-(u : Int))] w fun e w' => e = .returned (.string (decT u)) ∧ Below w.heap.size w w' := by
  induction u using Nat.strongRecOn with
  | _ u ih =>
    intro w hu
    have hr := rem_neg u
    have hq := quo_neg u
    by_cases h : u < 10
    · have h1 : (-10 : Int) < -(u : Int) := by omega
      have e : u % 10 = u := by omega
      rw [e] at hr
      have hsl := digit_at u h
      have HX := hide (decT_one u h)
      clear ih hq e
      go_enter Tryz.func46, Tryz.ntmps46
      go_wp2_with fail
      go_ret
      exact ⟨ret_string HX.out.symm, Below.refl _ _⟩
    · have h1 : ¬ (-10 : Int) < -(u : Int) := by omega
      have HX := hide (decT_more u h)
      have HIH := hide (ih (u / 10) (by omega))
      obtain ⟨d, hd⟩ : ∃ d, u % 10 = d := ⟨_, rfl⟩
      have hd10 : d < 10 := by omega
      rw [hd] at hr HX
      have hsl := digit_at d hd10
      have hlen : (decT (u / 10)).size ≤ 30 := by
        unfold decT
        have := dec_len 19 (u / 10) (by omega)
        show (Lib.decDigits (u / 10)).toArray.size ≤ 30
        simp
        omega
      obtain ⟨q, hq2⟩ : ∃ q, u / 10 = q := ⟨_, rfl⟩
      rw [hq2] at hq HX HIH hlen
      have hq9 : q ≤ 9223372036854775807 := by omega
      have hw1 : IntKind.i64.wrap ((d : Int) + 1) = (d : Int) + 1 := by rw [IntKind.wrap_i64]; omega
      have hw2 : IntKind.i64.wrap (-(q : Int)) = -(q : Int) := by rw [IntKind.wrap_i64]; omega
      have hlen2 : ¬ 9223372036854775807 < (decT q).size + 1 := by omega
      clear ih hd hq2
      go_enter Tryz.func46, Tryz.ntmps46
      go_wp2_with fail
      go_region_held3 (fun w' => Below w.heap.size w w')
        (first | exact (Below.refl _ _).drew | exact hb3)
        (first | (go_at_call 46; refine (HIH.out _ hq9).mono ?_; rintro e w2 ⟨rfl, hb2⟩; have hb3 : Below w.heap.size w w2 := bjoin hb2 ((Below.refl _ _).drew)))
      go_wp2_with fail
      go_ret
      exact ⟨ret_string HX.out.symm, hb3⟩

set_option maxRecDepth 100000 in
theorem show_any (u : Nat) (w : World) (hu : u ≤ 9223372036854775807) :
    Calls Tryz.prog 28 #[.int .i64 (u : Int)] w fun e w' => e = .returned (.string (decT u)) ∧ Below w.heap.size w w' := by
  have h0 : ¬ (u : Int) < 0 := by omega
  go_enter Tryz.func28, Tryz.ntmps28
  go_wp2_with (go_at_call 46; refine (showDown_any u _ hu).mono ?_; rintro e w2 ⟨rfl, hb2⟩)
  go_ret
  exact ⟨rfl, hb2⟩

theorem all_take {α : Type} (p : α → Bool) (xs : List α) (k : Nat) (h : xs.all p = true) : (xs.take k).all p = true := List.all_eq_true.2 fun x hx => List.all_eq_true.1 h x (List.mem_of_mem_take hx)
theorem decV_bound (l : List UInt8) (k : Nat) (hl : l.length ≤ 9) (ha : (l.take k).all digitB = true) (hk : k ≤ l.length) : decV 0 (l.take k) < 1000000000 := by
  have h1 := decV_lt (l.take k) ha k (by rw [List.length_take]; omega)
  rw [List.take_take, Nat.min_self] at h1
  have h2 : (10 : Nat) ^ k ≤ 10 ^ 9 := Nat.pow_le_pow_right (by omega) (by omega)
  omega
theorem decV_next (l : List UInt8) (k : Nat) (h : k < l.length) (hd : digitB l[k] = true) : ((decV 0 (l.take (k + 1)) : Nat) : Int) = (decV 0 (l.take k) : Int) * 10 + ((l[k].toNat : Int) - 48) := by
  rw [decV_take l k h]
  simp only [digitB, Bool.and_eq_true, decide_eq_true_eq] at hd
  omega

set_option maxHeartbeats 1000000 in
set_option maxRecDepth 100000 in
theorem number_any (s : ByteArray) (w : World) (hs : s.size ≤ 9223372036854775807) :
    Calls Tryz.prog 15 #[.string s] w fun e w' => e = .returned (.int .i64 (numS s.data.toList)) ∧ Below w.heap.size w w' := by
  have hsz : s.data.toList.length = s.size := by simp
  by_cases h1 : (s.size : Int) < 1
  · have HX : Hid (numS s.data.toList = -1) := by unfold numS; rw [if_pos (by omega)]; trivial
    clear hsz
    go_enter Tryz.func15, Tryz.ntmps15
    go_wp2_with fail
    go_ret
    exact ⟨ret_int HX.out.symm, Below.refl _ _⟩
  by_cases h9 : (9 : Int) < (s.size : Int)
  · have HX : Hid (numS s.data.toList = -1) := by unfold numS; rw [if_neg (by omega), if_pos (by omega)]; trivial
    clear hsz
    go_enter Tryz.func15, Tryz.ntmps15
    go_wp2_with fail
    go_ret
    exact ⟨ret_int HX.out.symm, Below.refl _ _⟩
  have HN : Hid (numS s.data.toList = if s.data.toList.all digitB then (if Lib.decDigits (decV 0 s.data.toList) == s.data.toList then (decV 0 s.data.toList : Int) else -1) else -1) := by
    unfold numS; rw [if_neg (by omega), if_neg (by omega)]; trivial
  have HSZ := hide hsz
  clear hsz
  have HBD : Hid (∀ k, k ≤ s.size → (s.data.toList.take k).all digitB = true → decV 0 (s.data.toList.take k) < 1000000000) := fun k hk ha => decV_bound _ _ (by rw [HSZ.out]; omega) ha (by rw [HSZ.out]; exact hk)
  have HNX : Hid (∀ k (h : k < s.size), digitB s[k] = true → ((decV 0 (s.data.toList.take (k + 1)) : Nat) : Int) = (decV 0 (s.data.toList.take k) : Int) * 10 + ((s[k].toNat : Int) - 48)) := fun k h hd => decV_next s.data.toList k (by rw [HSZ.out]; exact h) hd
  have HSTEP : Hid (∀ k (h : k < s.size), (s.data.toList.take k).all digitB = true → digitB s[k] = true → (s.data.toList.take (k + 1)).all digitB = true) := fun k h h1 h2 => all_step (p := digitB) (xs := s.data.toList) (k := k) (by rw [HSZ.out]; exact h) h1 h2
  have HFAIL : Hid (∀ k (h : k < s.size), digitB s[k] = false → s.data.toList.all digitB = false) := fun k h h2 => all_fail (p := digitB) (xs := s.data.toList) (k := k) (by rw [HSZ.out]; exact h) h2
  have HDONE : Hid ((s.data.toList.take s.size).all digitB = true → s.data.toList.all digitB = true) := fun h => all_done (by rw [HSZ.out]; exact Nat.le_refl _) h
  have HALL : Hid (s.data.toList.take s.size = s.data.toList) := List.take_of_length_le (by rw [HSZ.out]; exact Nat.le_refl _)
  have HDT : Hid (∀ u, ((decT u).toList == s.toList) = (Lib.decDigits u == s.data.toList)) := fun u => by unfold decT; rw [ByteArray.toList_eq, ByteArray.toList_eq]
  obtain ⟨V, hV⟩ : ∃ V : Nat → Nat, V = fun k => decV 0 (s.data.toList.take k) := ⟨_, rfl⟩
  have HV0 : Hid (V 0 = 0) := hide (by rw [hV]; show decV 0 (List.take 0 _) = 0; rw [List.take_zero]; rfl)
  have HVB : Hid (∀ k, k ≤ s.size → (s.data.toList.take k).all digitB = true → V k < 1000000000) := fun k hk ha => by rw [hV]; exact HBD.out k hk ha
  have HVN : Hid (∀ k (h : k < s.size), digitB s[k] = true → ((V (k + 1) : Nat) : Int) = (V k : Int) * 10 + ((s[k].toNat : Int) - 48)) := fun k h hd => by rw [hV]; exact HNX.out k h hd
  have HVL : Hid (V s.size = decV 0 s.data.toList) := hide (by rw [hV]; show decV 0 _ = _; rw [HALL.out])
  clear hV HBD HNX
  go_enter Tryz.func15, Tryz.ntmps15
  go_wp2_with fail
  go_loop [3, 4] (fun n i => ∃ k : Nat, k ≤ s.size ∧ i = .int .i64 k ∧ n = .int .i64 (V k : Int) ∧ (s.data.toList.take k).all digitB = true) (fun n i => s.size - (intOf i).toNat)
  case atStart => exact ⟨0, Nat.zero_le _, rfl, by rw [HV0.out]; rfl, rfl⟩
  case round =>
    obtain ⟨k, hk, rfl, rfl, hall⟩ := hrel
    have HA := hide hall
    have hvb := HVB.out k hk hall
    clear hall
    by_cases hlt : k < s.size
    · have HP : Hid (digitB s[k] = (decide (48 ≤ s[k].toNat) && decide (s[k].toNat ≤ 57))) := rfl
      by_cases c1 : (s[k].toNat : Int) < 48
      · have HF : Hid (digitB s[k] = false) := by rw [HP.out, decide_eq_false (by omega)]; rfl
        have HX : Hid (numS s.data.toList = -1) := by rw [HN.out, HFAIL.out k hlt HF.out]; rfl
        go_wp2_with fail
        go_ret
        exact ⟨ret_int HX.out.symm, Below.refl _ _⟩
      · by_cases c2 : (57 : Int) < (s[k].toNat : Int)
        · have HF : Hid (digitB s[k] = false) := by rw [HP.out, decide_eq_false (p := s[k].toNat ≤ 57) (by omega), Bool.and_false]; trivial
          have HX : Hid (numS s.data.toList = -1) := by rw [HN.out, HFAIL.out k hlt HF.out]; rfl
          go_wp2_with fail
          go_ret
          exact ⟨ret_int HX.out.symm, Below.refl _ _⟩
        · have HF : Hid (digitB s[k] = true) := by rw [HP.out, decide_eq_true (by omega), decide_eq_true (by omega)]; rfl
          have HZ := hide (HSTEP.out k hlt HA.out HF.out)
          have HNV := hide (HVN.out k hlt HF.out)
          have hc1 : (48 : Int) ≤ (s[k].toNat : Int) := by omega
          have hc2 : (s[k].toNat : Int) ≤ 57 := by omega
          go_wp2_with fail
          go_round
          case rel => exact ⟨k + 1, by omega, by go_num, by rw [HNV.out], HZ.out⟩
          case measure => simp [intOf]; omega
    · obtain rfl : k = s.size := by omega
      have HAL := hide (HDONE.out HA.out)
      have HV := HVL
      obtain ⟨u, hu⟩ : ∃ u, V s.size = u := ⟨_, rfl⟩
      rw [hu] at hvb HV
      have HN2 : Hid (numS s.data.toList = if Lib.decDigits u == s.data.toList then (u : Int) else -1) := by rw [HN.out, HAL.out, ← HV.out]; rfl
      rw [hu]
      cases he : (decT u).toList == s.toList
      · have HX : Hid (numS s.data.toList = -1) := by rw [HN2.out, ← HDT.out, he]; rfl
        go_wp2_with (go_at_call 28; refine (show_any u _ (by omega)).mono ?_; rintro e w2 ⟨rfl, hb2⟩)
        go_ret
        exact ⟨ret_int HX.out.symm, hb2⟩
      · have HX : Hid (numS s.data.toList = (u : Int)) := by rw [HN2.out, ← HDT.out, he]; rfl
        go_wp2_with (go_at_call 28; refine (show_any u _ (by omega)).mono ?_; rintro e w2 ⟨rfl, hb2⟩)
        go_ret
        exact ⟨ret_int HX.out.symm, hb2⟩
end Go.Proofs.YtfcmhnfdbobnlaaGreatDoor.Msg
