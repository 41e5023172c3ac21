import Derived.Test.YtpmnepalchgcbaaGreatDoorQrySpecwithImplOkwithTextImpl
import Derived.Test.YtpmnepalchgcbaaGreatDoorMsgEqwithMsgEq2withMsgTo
import Derived.Deep.LoopGhost
import Derived.Deep.RegionHeld3
import Derived.Lib.Join
namespace Go.Proofs.YtpmnepalchgcbaaGreatDoor.Msg
open Go.ChangeShapes Go.WideShapes Go.ChangeAt Go.RowKit
set_option linter.unusedVariables false
set_option linter.unusedSimpArgs false

theorem empty_yes {s : ByteArray} (h : s.size = 0) : s.toList = [] ∧ s.toList.isEmpty = true ∧ (s.toList == []) = true := by
  have e : s.toList = [] := by rw [ByteArray.toList_eq]; exact List.length_eq_zero_iff.1 (by simpa using h)
  rw [e]
  exact ⟨rfl, rfl, rfl⟩
theorem empty_no {s : ByteArray} (h : ¬ s.size = 0) : ¬ s.toList = [] ∧ s.toList.isEmpty = false ∧ (s.toList == []) = false := by
  have e : ¬ s.toList = [] := by rw [ByteArray.toList_eq]; intro e; have := congrArg List.length e; simp at this; exact h (by simpa using this)
  refine ⟨e, ?_, ?_⟩
  · cases hh : s.toList with
    | nil => exact absurd hh e
    | cons a l => rfl
  · simpa using e

def rowsB (rows : List ByteArray) (most : Nat) : Bool := decide (rows.length ≤ most) && rows.all textB
set_option maxHeartbeats 2000000 in
theorem areRows_any (rows : List ByteArray) (most : Nat) (v : Value) (w : World) {lo : Nat} (hv : StrsAt lo w v rows) :
    Calls Tryz.prog 65 #[v, .int .i64 (most : Int)] w fun e w' => e = .returned (.bool (rowsB rows most)) ∧ w' = w := by
  have hl := hv.1
  obtain ⟨a, cap, hf, hc⟩ := hv.form
  subst hf
  have HC := hide hc
  clear hc hv
  by_cases hlen : (most : Int) < (rows.length : Int)
  · have HX : Hid (rowsB rows most = false) := by unfold rowsB; rw [decide_eq_false (p := rows.length ≤ most) (by omega)]; exact rfl
    go_enter Tryz.func65, Tryz.ntmps65
    go_wp2_with fail
    go_ret
    exact ⟨ret_bool HX.out.symm, rfl⟩
  have HX : Hid (rowsB rows most = rows.all textB) := by unfold rowsB; rw [decide_eq_true (p := rows.length ≤ most) (by omega)]; exact rfl
  go_enter Tryz.func65, Tryz.ntmps65
  go_wp2_with fail
  go_loopg [13] rows.length (fun q i wr => ∃ k : Nat, k ≤ rows.length ∧ q = rows.length - k ∧ i = .int .i64 (k : Int) ∧ (rows.take k).all textB = true ∧ wr = w)
  case atStart => exact ⟨0, Nat.zero_le _, rfl, rfl, rfl, rfl⟩
  case round =>
    obtain ⟨k, hk, rfl, rfl, hall, rfl⟩ := hrel
    have HA := hide hall
    clear hall
    by_cases hlt : k < rows.length
    · have hki : (k : Int) < (rows.length : Int) := by omega
      obtain ⟨b, off, rfl, _, hbl, hcell, hsz⟩ := HC.out k hlt
      rw [Nat.mul_one] at hcell
      obtain ⟨x, hx⟩ : ∃ x, rows[k] = x := ⟨_, rfl⟩
      rw [hx] at hcell hsz
      have HR := hide (fun W => isText_any x W hsz)
      cases hxb : textB x
      · rw [hxb] at HR
        have HN : Hid (rows.all textB = false) := by
          show _ = _
          rw [List.all_eq_false]
          exact ⟨rows[k], List.getElem_mem _, by rw [hx, hxb]; decide⟩
        clear hx
        go_wp2_with (first | (go_at_call 63; refine (HR.out _).mono ?_; rintro e w2 ⟨rfl, rfl⟩))
        go_ret
        exact ⟨ret_bool (by rw [HX.out, HN.out]), rfl⟩
      · rw [hxb] at HR
        have HN : Hid ((rows.take (k + 1)).all textB = true) := by
          show _ = _
          rw [List.take_succ_eq_append_getElem hlt, List.all_append, HA.out, hx]
          simp [hxb]
        clear hx
        go_wp2_with (first | (go_at_call 63; refine (HR.out _).mono ?_; rintro e w2 ⟨rfl, rfl⟩))
        go_roundg (rows.length - (k + 1))
        case measure => omega
        case rel => exact ⟨k + 1, by omega, rfl, by go_num, HN.out, rfl⟩
    · obtain rfl : k = rows.length := by omega
      have hki : ¬ (rows.length : Int) < (rows.length : Int) := by omega
      have HN : Hid (rows.all textB = true) := by have := HA.out; rw [List.take_length] at this; exact this
      go_wp2_with fail
      go_ret
      exact ⟨ret_bool (by rw [HX.out, HN.out]), rfl⟩

end Go.Proofs.YtpmnepalchgcbaaGreatDoor.Msg

namespace Go.Proofs.YtpmnepalchgcbaaGreatDoor.Msg
open Go.ChangeShapes Go.WideShapes Go.ChangeAt Go.RowKit
set_option linter.unusedVariables false
set_option linter.unusedSimpArgs false

def digC (d : Nat) : UInt8 := UInt8.ofNat (48 + d)
/-- the decimal of a number, as a text -/
def decT (u : Nat) : ByteArray := ⟨(Lib.decDigits u).toArray⟩
theorem decT_one (u : Nat) (h : u < 10) : decT u = ⟨#[digC u]⟩ := by unfold decT digC; rw [Lib.decDigits, dif_pos h]
theorem decT_more (u : Nat) (h : ¬ u < 10) : decT u = decT (u / 10) ++ ⟨#[digC (u % 10)]⟩ := by
  unfold decT digC
  rw [Lib.decDigits, dif_neg h]
  apply ByteArray.ext
  simp
theorem rem_neg (u : Nat) : Int.tmod (-(u : Int)) 10 = -((u % 10 : Nat) : Int) := by
  rw [Int.neg_tmod, Int.tmod_eq_emod_of_nonneg (by omega)]
  omega
theorem quo_neg (u : Nat) : Int.tdiv (-(u : Int)) 10 = -((u / 10 : Nat) : Int) := by
  rw [Int.neg_tdiv, Int.tdiv_eq_ediv_of_nonneg (by omega)]
  omega

theorem digits_cut : ∀ d, d < 10 → (⟨#[48, 49, 50, 51, 52, 53, 54, 55, 56, 57]⟩ : ByteArray).extract d (d + 1) = ⟨#[digC d]⟩ := by unfold digC; decide
theorem digit_at (d : Nat) (h : d < 10) (w : World) : (Instr.slice 9 (.string ⟨#[48, 49, 50, 51, 52, 53, 54, 55, 56, 57]⟩) (some (.int .i64 (d : Int))) (some (.int .i64 ((d : Int) + 1))) none).run Tryz.prog w = .ok (.string ⟨#[digC d]⟩) w := by
  rw [run_slice_string w 9 ⟨#[48, 49, 50, 51, 52, 53, 54, 55, 56, 57]⟩ .i64 .i64 _ _ Tryz.underlying9 (by omega) (by omega) (by show ((d : Int) + 1) ≤ 10; omega), show ((d : Int)).toNat = d by omega, show ((d : Int) + 1).toNat = d + 1 by omega, digits_cut d h]

set_option maxHeartbeats 400000 in
set_option maxRecDepth 100000 in
theorem showDown_any (u : Nat) : ∀ (w : World), u ≤ 9223372036854775807 →
    Calls Tryz.prog 81 #[.int .i64 (-(u : Int))] w fun e w' => e = .returned (.string (decT u)) ∧ Below w.heap.size w w' := by
  induction u using Nat.strongRecOn with
  | _ u ih =>
    intro w hu
    have hr := rem_neg u
    have hq := quo_neg u
    by_cases h : u < 10
    · have h1 : (-10 : Int) < -(u : Int) := by omega
      have e : u % 10 = u := by omega
      rw [e] at hr
      have hsl := digit_at u h
      have HX := hide (decT_one u h)
      clear ih hq e
      go_enter Tryz.func81, Tryz.ntmps81
      go_wp2_with fail
      go_ret
      exact ⟨ret_string HX.out.symm, Below.refl _ _⟩
    · have h1 : ¬ (-10 : Int) < -(u : Int) := by omega
      have HX := hide (decT_more u h)
      have HIH := hide (ih (u / 10) (by omega))
      obtain ⟨d, hd⟩ : ∃ d, u % 10 = d := ⟨_, rfl⟩
      have hd10 : d < 10 := by omega
      rw [hd] at hr HX
      have hsl := digit_at d hd10
      have hlen : (decT (u / 10)).size ≤ 30 := by
        unfold decT
        have := dec_len 19 (u / 10) (by omega)
        show (Lib.decDigits (u / 10)).toArray.size ≤ 30
        simp
        omega
      obtain ⟨q, hq2⟩ : ∃ q, u / 10 = q := ⟨_, rfl⟩
      rw [hq2] at hq HX HIH hlen
      have hq9 : q ≤ 9223372036854775807 := by omega
      have hw1 : IntKind.i64.wrap ((d : Int) + 1) = (d : Int) + 1 := by rw [IntKind.wrap_i64]; omega
      have hw2 : IntKind.i64.wrap (-(q : Int)) = -(q : Int) := by rw [IntKind.wrap_i64]; omega
      have hlen2 : ¬ 9223372036854775807 < (decT q).size + 1 := by omega
      clear ih hd hq2
      go_enter Tryz.func81, Tryz.ntmps81
      go_wp2_with fail
      go_region_held3 (fun w' => Below w.heap.size w w')
        (first | exact (Below.refl _ _).drew | exact hb3)
        (first | (go_at_call 81; refine (HIH.out _ hq9).mono ?_; rintro e w2 ⟨rfl, hb2⟩; have hb3 : Below w.heap.size w w2 := bjoin hb2 ((Below.refl _ _).drew)))
      go_wp2_with fail
      go_ret
      exact ⟨ret_string HX.out.symm, hb3⟩

set_option maxRecDepth 100000 in
theorem show_any (u : Nat) (w : World) (hu : u ≤ 9223372036854775807) :
    Calls Tryz.prog 52 #[.int .i64 (u : Int)] w fun e w' => e = .returned (.string (decT u)) ∧ Below w.heap.size w w' := by
  have h0 : ¬ (u : Int) < 0 := by omega
  go_enter Tryz.func52, Tryz.ntmps52
  go_wp2_with (go_at_call 81; refine (showDown_any u _ hu).mono ?_; rintro e w2 ⟨rfl, hb2⟩)
  go_ret
  exact ⟨rfl, hb2⟩

theorem all_take {α : Type} (p : α → Bool) (xs : List α) (k : Nat) (h : xs.all p = true) : (xs.take k).all p = true := List.all_eq_true.2 fun x hx => List.all_eq_true.1 h x (List.mem_of_mem_take hx)
theorem decV_bound (l : List UInt8) (k : Nat) (hl : l.length ≤ 9) (ha : (l.take k).all digitB = true) (hk : k ≤ l.length) : decV 0 (l.take k) < 1000000000 := by
  have h1 := decV_lt (l.take k) ha k (by rw [List.length_take]; omega)
  rw [List.take_take, Nat.min_self] at h1
  have h2 : (10 : Nat) ^ k ≤ 10 ^ 9 := Nat.pow_le_pow_right (by omega) (by omega)
  omega
theorem decV_next (l : List UInt8) (k : Nat) (h : k < l.length) (hd : digitB l[k] = true) : ((decV 0 (l.take (k + 1)) : Nat) : Int) = (decV 0 (l.take k) : Int) * 10 + ((l[k].toNat : Int) - 48) := by
  rw [decV_take l k h]
  simp only [digitB, Bool.and_eq_true, decide_eq_true_eq] at hd
  omega

set_option maxHeartbeats 1000000 in
set_option maxRecDepth 100000 in
theorem number_any (s : ByteArray) (w : World) (hs : s.size ≤ 9223372036854775807) :
    Calls Tryz.prog 24 #[.string s] w fun e w' => e = .returned (.int .i64 (numS s.data.toList)) ∧ Below w.heap.size w w' := by
  have hsz : s.data.toList.length = s.size := by simp
  by_cases h1 : (s.size : Int) < 1
  · have HX : Hid (numS s.data.toList = -1) := by unfold numS; rw [if_pos (by omega)]; trivial
    clear hsz
    go_enter Tryz.func24, Tryz.ntmps24
    go_wp2_with fail
    go_ret
    exact ⟨ret_int HX.out.symm, Below.refl _ _⟩
  by_cases h9 : (9 : Int) < (s.size : Int)
  · have HX : Hid (numS s.data.toList = -1) := by unfold numS; rw [if_neg (by omega), if_pos (by omega)]; trivial
    clear hsz
    go_enter Tryz.func24, Tryz.ntmps24
    go_wp2_with fail
    go_ret
    exact ⟨ret_int HX.out.symm, Below.refl _ _⟩
  have HN : Hid (numS s.data.toList = if s.data.toList.all digitB then (if Lib.decDigits (decV 0 s.data.toList) == s.data.toList then (decV 0 s.data.toList : Int) else -1) else -1) := by
    unfold numS; rw [if_neg (by omega), if_neg (by omega)]; trivial
  have HSZ := hide hsz
  clear hsz
  have HBD : Hid (∀ k, k ≤ s.size → (s.data.toList.take k).all digitB = true → decV 0 (s.data.toList.take k) < 1000000000) := fun k hk ha => decV_bound _ _ (by rw [HSZ.out]; omega) ha (by rw [HSZ.out]; exact hk)
  have HNX : Hid (∀ k (h : k < s.size), digitB s[k] = true → ((decV 0 (s.data.toList.take (k + 1)) : Nat) : Int) = (decV 0 (s.data.toList.take k) : Int) * 10 + ((s[k].toNat : Int) - 48)) := fun k h hd => decV_next s.data.toList k (by rw [HSZ.out]; exact h) hd
  have HSTEP : Hid (∀ k (h : k < s.size), (s.data.toList.take k).all digitB = true → digitB s[k] = true → (s.data.toList.take (k + 1)).all digitB = true) := fun k h h1 h2 => all_step (p := digitB) (xs := s.data.toList) (k := k) (by rw [HSZ.out]; exact h) h1 h2
  have HFAIL : Hid (∀ k (h : k < s.size), digitB s[k] = false → s.data.toList.all digitB = false) := fun k h h2 => all_fail (p := digitB) (xs := s.data.toList) (k := k) (by rw [HSZ.out]; exact h) h2
  have HDONE : Hid ((s.data.toList.take s.size).all digitB = true → s.data.toList.all digitB = true) := fun h => all_done (by rw [HSZ.out]; exact Nat.le_refl _) h
  have HALL : Hid (s.data.toList.take s.size = s.data.toList) := List.take_of_length_le (by rw [HSZ.out]; exact Nat.le_refl _)
  have HDT : Hid (∀ u, ((decT u).toList == s.toList) = (Lib.decDigits u == s.data.toList)) := fun u => by unfold decT; rw [ByteArray.toList_eq, ByteArray.toList_eq]
  obtain ⟨V, hV⟩ : ∃ V : Nat → Nat, V = fun k => decV 0 (s.data.toList.take k) := ⟨_, rfl⟩
  have HV0 : Hid (V 0 = 0) := hide (by rw [hV]; show decV 0 (List.take 0 _) = 0; rw [List.take_zero]; rfl)
  have HVB : Hid (∀ k, k ≤ s.size → (s.data.toList.take k).all digitB = true → V k < 1000000000) := fun k hk ha => by rw [hV]; exact HBD.out k hk ha
  have HVN : Hid (∀ k (h : k < s.size), digitB s[k] = true → ((V (k + 1) : Nat) : Int) = (V k : Int) * 10 + ((s[k].toNat : Int) - 48)) := fun k h hd => by rw [hV]; exact HNX.out k h hd
  have HVL : Hid (V s.size = decV 0 s.data.toList) := hide (by rw [hV]; show decV 0 _ = _; rw [HALL.out])
  clear hV HBD HNX
  go_enter Tryz.func24, Tryz.ntmps24
  go_wp2_with fail
  go_loop [3, 4] (fun n i => ∃ k : Nat, k ≤ s.size ∧ i = .int .i64 k ∧ n = .int .i64 (V k : Int) ∧ (s.data.toList.take k).all digitB = true) (fun n i => s.size - (intOf i).toNat)
  case atStart => exact ⟨0, Nat.zero_le _, rfl, by rw [HV0.out]; rfl, rfl⟩
  case round =>
    obtain ⟨k, hk, rfl, rfl, hall⟩ := hrel
    have HA := hide hall
    have hvb := HVB.out k hk hall
    clear hall
    by_cases hlt : k < s.size
    · have HP : Hid (digitB s[k] = (decide (48 ≤ s[k].toNat) && decide (s[k].toNat ≤ 57))) := rfl
      by_cases c1 : (s[k].toNat : Int) < 48
      · have HF : Hid (digitB s[k] = false) := by rw [HP.out, decide_eq_false (by omega)]; rfl
        have HX : Hid (numS s.data.toList = -1) := by rw [HN.out, HFAIL.out k hlt HF.out]; rfl
        go_wp2_with fail
        go_ret
        exact ⟨ret_int HX.out.symm, Below.refl _ _⟩
      · by_cases c2 : (57 : Int) < (s[k].toNat : Int)
        · have HF : Hid (digitB s[k] = false) := by rw [HP.out, decide_eq_false (p := s[k].toNat ≤ 57) (by omega), Bool.and_false]; trivial
          have HX : Hid (numS s.data.toList = -1) := by rw [HN.out, HFAIL.out k hlt HF.out]; rfl
          go_wp2_with fail
          go_ret
          exact ⟨ret_int HX.out.symm, Below.refl _ _⟩
        · have HF : Hid (digitB s[k] = true) := by rw [HP.out, decide_eq_true (by omega), decide_eq_true (by omega)]; rfl
          have HZ := hide (HSTEP.out k hlt HA.out HF.out)
          have HNV := hide (HVN.out k hlt HF.out)
          have hc1 : (48 : Int) ≤ (s[k].toNat : Int) := by omega
          have hc2 : (s[k].toNat : Int) ≤ 57 := by omega
          go_wp2_with fail
          go_round
          case rel => exact ⟨k + 1, by omega, by go_num, by rw [HNV.out], HZ.out⟩
          case measure => simp [intOf]; omega
    · obtain rfl : k = s.size := by omega
      have HAL := hide (HDONE.out HA.out)
      have HV := HVL
      obtain ⟨u, hu⟩ : ∃ u, V s.size = u := ⟨_, rfl⟩
      rw [hu] at hvb HV
      have HN2 : Hid (numS s.data.toList = if Lib.decDigits u == s.data.toList then (u : Int) else -1) := by rw [HN.out, HAL.out, ← HV.out]; rfl
      rw [hu]
      cases he : (decT u).toList == s.toList
      · have HX : Hid (numS s.data.toList = -1) := by rw [HN2.out, ← HDT.out, he]; rfl
        go_wp2_with (go_at_call 52; refine (show_any u _ (by omega)).mono ?_; rintro e w2 ⟨rfl, hb2⟩)
        go_ret
        exact ⟨ret_int HX.out.symm, hb2⟩
      · have HX : Hid (numS s.data.toList = (u : Int)) := by rw [HN2.out, ← HDT.out, he]; rfl
        go_wp2_with (go_at_call 52; refine (show_any u _ (by omega)).mono ?_; rintro e w2 ⟨rfl, hb2⟩)
        go_ret
        exact ⟨ret_int HX.out.symm, hb2⟩
end Go.Proofs.YtpmnepalchgcbaaGreatDoor.Msg

namespace Go.Proofs.YtpmnepalchgcbaaGreatDoor.Msg
open Go.ChangeShapes Go.WideShapes Go.ChangeAt Go.RowKit
set_option linter.unusedVariables false
set_option linter.unusedSimpArgs false

/-! changes, over lists -/
structure Chg where
  kind : Int
  client : Int
  tag : ByteArray
  query : ByteArray
  page : Int
  rows : List ByteArray
  n : Int
def chgV (c : Chg) (v : Value) : Value := .agg #[.int .i64 c.kind, .int .i64 c.client, .string c.tag, .string c.query, .int .i64 c.page, v, .int .i64 c.n]
def clientB (c : Int) : Bool := decide (0 ≤ c) && decide (c < 4)
def cursorB (n : Int) : Bool := decide (0 ≤ n) && decide (n ≤ 200)
def noQB (c : Chg) : Bool := decide (c.query.size = 0) && decide (c.page = 0)
def noRowsB (c : Chg) : Bool := decide (c.rows.length = 0)
def noNB (c : Chg) : Bool := decide (c.n = 0)
/-- what a kind asks for, and what it leaves empty -/
def kindB (c : Chg) : Bool :=
  if c.kind = 1 then (textB c.query && pageB c.page) && (noRowsB c && noNB c)
  else if c.kind = 2 then rowsB c.rows 200 && (noQB c && noNB c)
  else if c.kind = 4 then cursorB c.n && (noQB c && noRowsB c)
  else if c.kind = 3 ∨ c.kind = 5 ∨ c.kind = 6 then noQB c && (noRowsB c && noNB c)
  else false
def chgB (c : Chg) : Bool := (clientB c.client && tagB c.tag) && kindB c
/-- the parts behind the first -/
def chgMore (c : Chg) : List (List UInt8) :=
  if c.kind = 1 then [c.query.data.toList, Lib.decDigits c.page.toNat]
  else if c.kind = 2 then c.rows.map (·.data.toList)
  else if c.kind = 4 then [Lib.decDigits c.n.toNat]
  else []
def chgParts (c : Chg) : List (List UInt8) := Lib.decDigits c.kind.toNat :: Lib.decDigits c.client.toNat :: c.tag.data.toList :: chgMore c
def encL (c : Chg) : List UInt8 := Lib.join (chgParts c) [10]
/-- what EncodeChange gives -/
def encB (c : Chg) : ByteArray := if chgB c then ⟨(encL c).toArray⟩ else ⟨#[]⟩

def tailNL (ps : List (List UInt8)) : List UInt8 := Lib.joinTail [10] ps
theorem encL_eq (c : Chg) : encL c = Lib.decDigits c.kind.toNat ++ (10 :: Lib.decDigits c.client.toNat) ++ (10 :: c.tag.data.toList) ++ tailNL (chgMore c) := by
  unfold encL chgParts tailNL
  rw [Lib.join_cons]
  simp [Lib.joinTail]
theorem chgB_kind {c : Chg} (h : chgB c = true) : 1 ≤ c.kind ∧ c.kind ≤ 6 := by
  unfold chgB at h
  rw [Bool.and_eq_true] at h
  have h := h.2
  unfold kindB at h
  split at h
  · omega
  split at h
  · omega
  split at h
  · omega
  split at h
  · omega
  · cases h
theorem chgB_client {c : Chg} (h : chgB c = true) : 0 ≤ c.client ∧ c.client < 4 := by
  unfold chgB at h
  rw [Bool.and_eq_true, Bool.and_eq_true] at h
  have := h.1.1
  simpa [clientB] using this
theorem chgB_tag {c : Chg} (h : chgB c = true) : tagB c.tag = true := by
  unfold chgB at h
  rw [Bool.and_eq_true, Bool.and_eq_true] at h
  exact h.1.2
theorem textB_size {s : ByteArray} (h : textB s = true) : s.size ≤ 200 := by
  unfold textB boundB at h
  simp at h
  omega
theorem tagB_size {s : ByteArray} (h : tagB s = true) : s.size ≤ 16 := by
  unfold tagB boundB at h
  simp at h
  omega
theorem rowsB_size {rows : List ByteArray} {m : Nat} (h : rowsB rows m = true) : rows.length ≤ m ∧ ∀ r ∈ rows, r.size ≤ 200 := by
  unfold rowsB at h
  simp at h
  exact ⟨h.1, fun r hr => textB_size (h.2 r hr)⟩
/-- a change in order is one of four sorts -/
theorem chgB_cases {c : Chg} (h : chgB c = true) :
    (c.kind = 1 ∧ c.query.size ≤ 200 ∧ 1 ≤ c.page ∧ c.page ≤ 50 ∧ c.rows = [] ∧ c.n = 0) ∨
    (c.kind = 2 ∧ c.query.size = 0 ∧ c.page = 0 ∧ c.rows.length ≤ 200 ∧ (∀ r ∈ c.rows, r.size ≤ 200) ∧ c.n = 0) ∨
    (c.kind = 4 ∧ c.query.size = 0 ∧ c.page = 0 ∧ c.rows = [] ∧ 0 ≤ c.n ∧ c.n ≤ 200) ∨
    ((c.kind = 3 ∨ c.kind = 5 ∨ c.kind = 6) ∧ c.query.size = 0 ∧ c.page = 0 ∧ c.rows = [] ∧ c.n = 0) := by
  unfold chgB at h
  rw [Bool.and_eq_true] at h
  have h := h.2
  unfold kindB at h
  split at h
  · simp only [Bool.and_eq_true, pageB, noRowsB, noNB, decide_eq_true_eq] at h
    exact .inl ⟨by assumption, textB_size h.1.1, h.1.2.1, h.1.2.2, List.length_eq_zero_iff.1 h.2.1, h.2.2⟩
  split at h
  · simp only [Bool.and_eq_true, noQB, noNB, decide_eq_true_eq] at h
    exact .inr (.inl ⟨by assumption, h.2.1.1, h.2.1.2, (rowsB_size h.1).1, (rowsB_size h.1).2, h.2.2⟩)
  split at h
  · simp only [Bool.and_eq_true, cursorB, noQB, noRowsB, decide_eq_true_eq] at h
    exact .inr (.inr (.inl ⟨by assumption, h.2.1.1, h.2.1.2, List.length_eq_zero_iff.1 h.2.2, h.1.1, h.1.2⟩))
  split at h
  · simp only [Bool.and_eq_true, noQB, noRowsB, noNB, decide_eq_true_eq] at h
    exact .inr (.inr (.inr ⟨by assumption, h.1.1, h.1.2, List.length_eq_zero_iff.1 h.2.1, h.2.2⟩))
  · cases h
end Go.Proofs.YtpmnepalchgcbaaGreatDoor.Msg
