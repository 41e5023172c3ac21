import Derived.Test.YtfcmhnfdbobnlaaGreatDoorQryReadwithImplOkwithTextImpl
import Derived.Test.YtfcmhnfdbobnlaaGreatDoorMsgEqwithMsgEq2withMsgTo
import Derived.Deep.LoopGhost
namespace Go.Proofs.YtfcmhnfdbobnlaaGreatDoor.Msg
open Go.ChangeShapes Go.WideShapes Go.ChangeAt Go.RowKit
set_option linter.unusedVariables false
set_option linter.unusedSimpArgs false

/-! what a letter lacks -/
/-- the error with a code -/
def lackV (c : Int) : Value := .iface 176 (.agg #[.int .i64 c])
def lackOf (c : Option Int) : Value := match c with
  | none => .nilIface
  | some c => lackV c
def newL (control tag query : ByteArray) (page : Int) : Option Int := if controlB control && tagB tag then (if textB query && (decide (1 ≤ page) && decide (page ≤ 50)) then none else some 102) else some 101
def nextL (control tag query pointer : ByteArray) : Option Int := if controlB control && tagB tag then (if textB query && (textB pointer && decide (0 < pointer.size)) then none else some 102) else some 101
theorem ret_lack {a b : Option Int} (h : a = b) : Ending.returned (lackOf a) = .returned (lackOf b) := by rw [h]
end Go.Proofs.YtfcmhnfdbobnlaaGreatDoor.Msg

namespace Go.Proofs.YtfcmhnfdbobnlaaGreatDoor.Msg
open Go.ChangeShapes Go.WideShapes Go.ChangeAt Go.RowKit
set_option linter.unusedVariables false
set_option linter.unusedSimpArgs false

theorem empty_yes {s : ByteArray} (h : s.size = 0) : s.toList = [] ∧ s.toList.isEmpty = true ∧ (s.toList == []) = true := by
  have e : s.toList = [] := by rw [ByteArray.toList_eq]; exact List.length_eq_zero_iff.1 (by simpa using h)
  rw [e]
  exact ⟨rfl, rfl, rfl⟩
theorem empty_no {s : ByteArray} (h : ¬ s.size = 0) : ¬ s.toList = [] ∧ s.toList.isEmpty = false ∧ (s.toList == []) = false := by
  have e : ¬ s.toList = [] := by rw [ByteArray.toList_eq]; intro e; have := congrArg List.length e; simp at this; exact h (by simpa using this)
  refine ⟨e, ?_, ?_⟩
  · cases hh : s.toList with
    | nil => exact absurd hh e
    | cons a l => rfl
  · simpa using e

def rowsB (rows : List ByteArray) (most : Nat) : Bool := decide (rows.length ≤ most) && rows.all textB
set_option maxHeartbeats 2000000 in
theorem areRows_any (rows : List ByteArray) (most : Nat) (v : Value) (w : World) {lo : Nat} (hv : StrsAt lo w v rows) :
    Calls Tryz.prog 146 #[v, .int .i64 (most : Int)] w fun e w' => e = .returned (.bool (rowsB rows most)) ∧ w' = w := by
  have hl := hv.1
  obtain ⟨a, cap, hf, hc⟩ := hv.form
  subst hf
  have HC := hide hc
  clear hc hv
  by_cases hlen : (most : Int) < (rows.length : Int)
  · have HX : Hid (rowsB rows most = false) := by unfold rowsB; rw [decide_eq_false (p := rows.length ≤ most) (by omega)]; exact rfl
    go_enter Tryz.func146, Tryz.ntmps146
    go_wp2_with fail
    go_ret
    exact ⟨ret_bool HX.out.symm, rfl⟩
  have HX : Hid (rowsB rows most = rows.all textB) := by unfold rowsB; rw [decide_eq_true (p := rows.length ≤ most) (by omega)]; exact rfl
  go_enter Tryz.func146, Tryz.ntmps146
  go_wp2_with fail
  go_loopg [13] rows.length (fun q i wr => ∃ k : Nat, k ≤ rows.length ∧ q = rows.length - k ∧ i = .int .i64 (k : Int) ∧ (rows.take k).all textB = true ∧ wr = w)
  case atStart => exact ⟨0, Nat.zero_le _, rfl, rfl, rfl, rfl⟩
  case round =>
    obtain ⟨k, hk, rfl, rfl, hall, rfl⟩ := hrel
    have HA := hide hall
    clear hall
    by_cases hlt : k < rows.length
    · have hki : (k : Int) < (rows.length : Int) := by omega
      obtain ⟨b, off, rfl, _, hbl, hcell, hsz⟩ := HC.out k hlt
      rw [Nat.mul_one] at hcell
      obtain ⟨x, hx⟩ : ∃ x, rows[k] = x := ⟨_, rfl⟩
      rw [hx] at hcell hsz
      have HR := hide (fun W => isText_any x W hsz)
      cases hxb : textB x
      · rw [hxb] at HR
        have HN : Hid (rows.all textB = false) := by
          show _ = _
          rw [List.all_eq_false]
          exact ⟨rows[k], List.getElem_mem _, by rw [hx, hxb]; decide⟩
        clear hx
        go_wp2_with (first | (go_at_call 147; refine (HR.out _).mono ?_; rintro e w2 ⟨rfl, rfl⟩))
        go_ret
        exact ⟨ret_bool (by rw [HX.out, HN.out]), rfl⟩
      · rw [hxb] at HR
        have HN : Hid ((rows.take (k + 1)).all textB = true) := by
          show _ = _
          rw [List.take_succ_eq_append_getElem hlt, List.all_append, HA.out, hx]
          simp [hxb]
        clear hx
        go_wp2_with (first | (go_at_call 147; refine (HR.out _).mono ?_; rintro e w2 ⟨rfl, rfl⟩))
        go_roundg (rows.length - (k + 1))
        case measure => omega
        case rel => exact ⟨k + 1, by omega, rfl, by go_num, HN.out, rfl⟩
    · obtain rfl : k = rows.length := by omega
      have hki : ¬ (rows.length : Int) < (rows.length : Int) := by omega
      have HN : Hid (rows.all textB = true) := by have := HA.out; rw [List.take_length] at this; exact this
      go_wp2_with fail
      go_ret
      exact ⟨ret_bool (by rw [HX.out, HN.out]), rfl⟩

end Go.Proofs.YtfcmhnfdbobnlaaGreatDoor.Msg

namespace Go.Proofs.YtfcmhnfdbobnlaaGreatDoor.Msg
open Go.ChangeShapes Go.WideShapes Go.ChangeAt Go.RowKit
set_option linter.unusedVariables false
set_option linter.unusedSimpArgs false

/-! what a reply's letters lack -/
def rheadB (c t : ByteArray) : Bool := (decide (c.size = 0) || controlB c) && (decide (t.size = 0) || tagB t)
set_option maxHeartbeats 2000000 in
theorem replyHead_any (c t : ByteArray) (w : World) (h1 : c.size ≤ 9223372036854775807) (h2 : t.size ≤ 9223372036854775807) :
    Calls Tryz.prog 145 #[.string c, .string t] w fun e w' => e = .returned (.bool (rheadB c t)) ∧ w' = w := by
  have HC := hide (fun W => isControl_any c W h1)
  have HT := hide (fun W => isTag_any t W h2)
  by_cases hc0 : c.size = 0
  · obtain ⟨c1, c2, c3⟩ := empty_yes hc0
    by_cases ht0 : t.size = 0
    · obtain ⟨t1, t2, t3⟩ := empty_yes ht0
      have HX : Hid (rheadB c t = true) := by unfold rheadB; rw [decide_eq_true hc0, decide_eq_true ht0]; exact rfl
      clear hc0 ht0 c1 t1
      go_enter Tryz.func145, Tryz.ntmps145
      go_wp2_with fail
      go_ret
      exact ⟨by rw [HX.out]; rfl, rfl⟩
    · obtain ⟨t1, t2, t3⟩ := empty_no ht0
      have HX : Hid (rheadB c t = tagB t) := by unfold rheadB; rw [decide_eq_true hc0, decide_eq_false ht0]; exact Bool.true_and _
      clear hc0 ht0 c1 t1
      go_enter Tryz.func145, Tryz.ntmps145
      go_wp2_with (first | (go_at_call 153; refine (HT.out _).mono ?_; rintro e w' ⟨rfl, rfl⟩))
      go_ret
      exact ⟨by rw [HX.out]; rfl, rfl⟩
  · obtain ⟨c1, c2, c3⟩ := empty_no hc0
    cases hcb : controlB c
    · have HX : Hid (rheadB c t = false) := by unfold rheadB; rw [decide_eq_false hc0, hcb]; exact rfl
      rw [hcb] at HC
      clear hc0 c1
      go_enter Tryz.func145, Tryz.ntmps145
      go_wp2_with (first | (go_at_call 152; refine (HC.out _).mono ?_; rintro e w' ⟨rfl, rfl⟩))
      go_ret
      exact ⟨by rw [HX.out]; rfl, rfl⟩
    · rw [hcb] at HC
      by_cases ht0 : t.size = 0
      · obtain ⟨t1, t2, t3⟩ := empty_yes ht0
        have HX : Hid (rheadB c t = true) := by unfold rheadB; rw [decide_eq_false hc0, hcb, decide_eq_true ht0]; exact rfl
        clear hc0 ht0 c1 t1
        go_enter Tryz.func145, Tryz.ntmps145
        go_wp2_with (first | (go_at_call 152; refine (HC.out _).mono ?_; rintro e w' ⟨rfl, rfl⟩))
        go_ret
        exact ⟨by rw [HX.out]; rfl, rfl⟩
      · obtain ⟨t1, t2, t3⟩ := empty_no ht0
        have HX : Hid (rheadB c t = tagB t) := by unfold rheadB; rw [decide_eq_false hc0, hcb, decide_eq_false ht0]; exact Bool.true_and _
        clear hc0 ht0 c1 t1
        go_enter Tryz.func145, Tryz.ntmps145
        go_wp2_with (first | (go_at_call 152; refine (HC.out _).mono ?_; rintro e w' ⟨rfl, rfl⟩) | (go_at_call 153; refine (HT.out _).mono ?_; rintro e w' ⟨rfl, rfl⟩))
        go_ret
        exact ⟨by rw [HX.out]; rfl, rfl⟩

def errorL (control : ByteArray) (code : Int) (tag : ByteArray) : Option Int := if rheadB control tag && (decide (1 ≤ code) && decide (code ≤ 999)) then none else some 102
set_option maxHeartbeats 2000000 in
theorem errorLacks_any (ack control tag : ByteArray) (code : Int) (w : World) (h1 : control.size ≤ 9223372036854775807) (h2 : tag.size ≤ 9223372036854775807) :
    Calls Tryz.prog 158 #[.agg #[.string ack, .string control, .int .i64 code, .string tag]] w fun e w' => e = .returned (lackOf (errorL control code tag)) ∧ Below w.heap.size w w' := by
  have hb := (Below.refl w.heap.size w).alloc (Nat.le_refl _) (Obj.cells #[.string ack, .string control, .int .i64 code, .string tag] 99)
  have HH := hide (fun W => replyHead_any control tag W h1 h2)
  cases hh : rheadB control tag
  · have HX : Hid (errorL control code tag = some 102) := by unfold errorL; rw [hh]; exact rfl
    rw [hh] at HH
    go_enter Tryz.func158, Tryz.ntmps158
    go_wp2_with (first | (go_at_call 145; refine (HH.out _).mono ?_; rintro e w' ⟨rfl, rfl⟩))
    go_ret
    exact ⟨ret_lack (a := some 102) HX.out.symm, by first | exact hb | exact hb.alloc hb.size _⟩
  · rw [hh] at HH
    by_cases hc1 : code < 1
    · have HX : Hid (errorL control code tag = some 102) := by unfold errorL; rw [hh, decide_eq_false (by omega)]; exact rfl
      go_enter Tryz.func158, Tryz.ntmps158
      go_wp2_with (first | (go_at_call 145; refine (HH.out _).mono ?_; rintro e w' ⟨rfl, rfl⟩))
      go_ret
      exact ⟨ret_lack (a := some 102) HX.out.symm, by first | exact hb | exact hb.alloc hb.size _⟩
    · by_cases hc2 : 999 < code
      · have HX : Hid (errorL control code tag = some 102) := by unfold errorL; rw [hh, decide_eq_false (p := code ≤ 999) (by omega), Bool.and_false, Bool.and_false]; exact rfl
        go_enter Tryz.func158, Tryz.ntmps158
        go_wp2_with (first | (go_at_call 145; refine (HH.out _).mono ?_; rintro e w' ⟨rfl, rfl⟩))
        go_ret
        exact ⟨ret_lack (a := some 102) HX.out.symm, by first | exact hb | exact hb.alloc hb.size _⟩
      · have HX : Hid (errorL control code tag = none) := by unfold errorL; rw [hh, decide_eq_true (by omega), decide_eq_true (by omega)]; exact rfl
        go_enter Tryz.func158, Tryz.ntmps158
        go_wp2_with (first | (go_at_call 145; refine (HH.out _).mono ?_; rintro e w' ⟨rfl, rfl⟩))
        go_ret
        exact ⟨ret_lack (a := none) HX.out.symm, by first | exact hb | exact hb.alloc hb.size _⟩

def pageL (control tag : ByteArray) (rows : List ByteArray) (pointer : ByteArray) : Option Int := if rheadB control tag && (rowsB rows 200 && textB pointer) then none else some 102
set_option maxHeartbeats 2000000 in
theorem pageLacks_any (control tag pointer : ByteArray) (rows : List ByteArray) (v : Value) (w : World) {lo : Nat} (h1 : control.size ≤ 9223372036854775807) (h2 : tag.size ≤ 9223372036854775807) (h3 : pointer.size ≤ 9223372036854775807) (hv : StrsAt lo w v rows) :
    Calls Tryz.prog 143 #[.agg #[.string control, .string tag, v, .string pointer]] w fun e w' => e = .returned (lackOf (pageL control tag rows pointer)) ∧ Below w.heap.size w w' := by
  obtain ⟨w1, hw1⟩ : ∃ w1, w.alloc (Obj.cells #[.string control, .string tag, v, .string pointer] 97) = w1 := ⟨_, rfl⟩
  have hb : Below w.heap.size w w1 := by rw [← hw1]; exact (Below.refl _ _).alloc (Nat.le_refl _) _
  have d0 : w1.cell? ⟨w.heap.size, 0, none⟩ = some (.string control) := by rw [← hw1]; simp
  have d1 : w1.cell? ⟨w.heap.size, 1, none⟩ = some (.string tag) := by rw [← hw1]; simp
  have d2 : w1.cell? ⟨w.heap.size, 2, none⟩ = some v := by rw [← hw1]; simp
  have d3 : w1.cell? ⟨w.heap.size, 3, none⟩ = some (.string pointer) := by rw [← hw1]; simp
  have HR := hide (areRows_any rows 200 v w1 (At.kept kept_str hv hb))
  have HH := hide (fun W => replyHead_any control tag W h1 h2)
  have HP := hide (fun W => isText_any pointer W h3)
  clear hv
  cases hh : rheadB control tag
  · have HX : Hid (pageL control tag rows pointer = some 102) := by unfold pageL; rw [hh]; exact rfl
    rw [hh] at HH
    go_enter Tryz.func143, Tryz.ntmps143
    go_wp2_with (first | (go_at_call 145; refine (HH.out _).mono ?_; rintro e w' ⟨rfl, rfl⟩))
    go_ret
    exact ⟨ret_lack (a := some 102) HX.out.symm, by first | exact hb | exact hb.alloc hb.size _⟩
  rw [hh] at HH
  cases hr : rowsB rows 200
  · have HX : Hid (pageL control tag rows pointer = some 102) := by unfold pageL; rw [hh, hr]; exact rfl
    rw [hr] at HR
    go_enter Tryz.func143, Tryz.ntmps143
    go_wp2_with (first | (go_at_call 145; refine (HH.out _).mono ?_; rintro e w' ⟨rfl, rfl⟩) | (go_at_call 146; refine (HR.out).mono ?_; rintro e w' ⟨rfl, rfl⟩))
    go_ret
    exact ⟨ret_lack (a := some 102) HX.out.symm, by first | exact hb | exact hb.alloc hb.size _⟩
  rw [hr] at HR
  have HX : Hid (pageL control tag rows pointer = if textB pointer then none else some 102) := by unfold pageL; rw [hh, hr]; exact rfl
  cases hp : textB pointer
  · rw [hp] at HP HX
    go_enter Tryz.func143, Tryz.ntmps143
    go_wp2_with (first | (go_at_call 145; refine (HH.out _).mono ?_; rintro e w' ⟨rfl, rfl⟩) | (go_at_call 146; refine (HR.out).mono ?_; rintro e w' ⟨rfl, rfl⟩) | (go_at_call 147; refine (HP.out _).mono ?_; rintro e w' ⟨rfl, rfl⟩))
    go_ret
    exact ⟨ret_lack (a := some 102) HX.out.symm, by first | exact hb | exact hb.alloc hb.size _⟩
  · rw [hp] at HP HX
    go_enter Tryz.func143, Tryz.ntmps143
    go_wp2_with (first | (go_at_call 145; refine (HH.out _).mono ?_; rintro e w' ⟨rfl, rfl⟩) | (go_at_call 146; refine (HR.out).mono ?_; rintro e w' ⟨rfl, rfl⟩) | (go_at_call 147; refine (HP.out _).mono ?_; rintro e w' ⟨rfl, rfl⟩))
    go_ret
    exact ⟨ret_lack (a := none) HX.out.symm, by first | exact hb | exact hb.alloc hb.size _⟩
end Go.Proofs.YtfcmhnfdbobnlaaGreatDoor.Msg
