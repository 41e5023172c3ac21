import Derived.Test.YtebdfmijlnkcbaaGreatDoorMsgGet
import Derived.Test.YtebdfmijlnkcbaaGreatDoorNum
namespace Go.Proofs.YtebdfmijlnkcbaaGreatDoor.Msg
open Go.ChangeShapes Go.WideShapes Go.ChangeAt Go.RowKit
set_option linter.unusedVariables false
set_option linter.unusedSimpArgs false

/-! chapter 3: tags, controls, texts -/
def boundB (lo hi : Nat) (s : ByteArray) : Bool := decide (lo ≤ s.size) && (decide (s.size ≤ hi) && plainB s)
def tagB (s : ByteArray) : Bool := boundB 1 16 s
def controlB (s : ByteArray) : Bool := boundB 1 20 s
def textB (s : ByteArray) : Bool := boundB 0 200 s
theorem bound_lo {lo hi : Nat} {s : ByteArray} (h : ¬ lo ≤ s.size) : boundB lo hi s = false := by unfold boundB; rw [decide_eq_false h]; rfl
theorem bound_hi {lo hi : Nat} {s : ByteArray} (h : ¬ s.size ≤ hi) : boundB lo hi s = false := by unfold boundB; rw [decide_eq_false (p := s.size ≤ hi) h, Bool.false_and, Bool.and_false]
theorem bound_in {lo hi : Nat} {s : ByteArray} (h : lo ≤ s.size) (h' : s.size ≤ hi) : boundB lo hi s = plainB s := by unfold boundB; rw [decide_eq_true h, decide_eq_true h']; rfl

set_option maxHeartbeats 400000 in
theorem tagSpec_any (s : ByteArray) (w : World) (hs : s.size ≤ 9223372036854775807) :
    Calls Tryz.prog 13 #[.string s] w fun e w' => e = .returned (.bool (tagB s)) ∧ w' = w := by
  by_cases h1 : (1 : Int) ≤ (s.size : Int)
  · by_cases h2 : (s.size : Int) ≤ 16
    · have HX : Hid (tagB s = plainB s) := bound_in (by omega) (by omega)
      go_enter Tryz.func13, Tryz.ntmps13
      go_wp2_with (go_at_call 22; refine (plain_any s _ hs).mono ?_; rintro e w' ⟨rfl, rfl⟩)
      go_ret
      exact ⟨ret_bool HX.out.symm, rfl⟩
    · have HX : Hid (tagB s = false) := bound_hi (by omega)
      go_enter Tryz.func13, Tryz.ntmps13
      go_wp2_with fail
      go_ret
      exact ⟨ret_bool HX.out.symm, rfl⟩
  · have HX : Hid (tagB s = false) := bound_lo (by omega)
    go_enter Tryz.func13, Tryz.ntmps13
    go_wp2_with fail
    go_ret
    exact ⟨ret_bool HX.out.symm, rfl⟩
set_option maxHeartbeats 400000 in
theorem controlSpec_any (s : ByteArray) (w : World) (hs : s.size ≤ 9223372036854775807) :
    Calls Tryz.prog 12 #[.string s] w fun e w' => e = .returned (.bool (controlB s)) ∧ w' = w := by
  by_cases h1 : (1 : Int) ≤ (s.size : Int)
  · by_cases h2 : (s.size : Int) ≤ 20
    · have HX : Hid (controlB s = plainB s) := bound_in (by omega) (by omega)
      go_enter Tryz.func12, Tryz.ntmps12
      go_wp2_with (go_at_call 22; refine (plain_any s _ hs).mono ?_; rintro e w' ⟨rfl, rfl⟩)
      go_ret
      exact ⟨ret_bool HX.out.symm, rfl⟩
    · have HX : Hid (controlB s = false) := bound_hi (by omega)
      go_enter Tryz.func12, Tryz.ntmps12
      go_wp2_with fail
      go_ret
      exact ⟨ret_bool HX.out.symm, rfl⟩
  · have HX : Hid (controlB s = false) := bound_lo (by omega)
    go_enter Tryz.func12, Tryz.ntmps12
    go_wp2_with fail
    go_ret
    exact ⟨ret_bool HX.out.symm, rfl⟩
set_option maxHeartbeats 400000 in
theorem textSpec_any (s : ByteArray) (w : World) (hs : s.size ≤ 9223372036854775807) :
    Calls Tryz.prog 14 #[.string s] w fun e w' => e = .returned (.bool (textB s)) ∧ w' = w := by
  by_cases h2 : (s.size : Int) ≤ 200
  · have HX : Hid (textB s = plainB s) := bound_in (by omega) (by omega)
    go_enter Tryz.func14, Tryz.ntmps14
    go_wp2_with (go_at_call 22; refine (plain_any s _ hs).mono ?_; rintro e w' ⟨rfl, rfl⟩)
    go_ret
    exact ⟨ret_bool HX.out.symm, rfl⟩
  · have HX : Hid (textB s = false) := bound_hi (by omega)
    go_enter Tryz.func14, Tryz.ntmps14
    go_wp2_with fail
    go_ret
    exact ⟨ret_bool HX.out.symm, rfl⟩
end Go.Proofs.YtebdfmijlnkcbaaGreatDoor.Msg
