import Derived.Test.YtebdfmijlnkcbaaGreatDoorQrySpec
import Derived.Test.YtebdfmijlnkcbaaGreatDoorImplOk
namespace Go.Proofs.YtebdfmijlnkcbaaGreatDoor.Msg
open Go.ChangeShapes Go.WideShapes Go.ChangeAt Go.RowKit
set_option linter.unusedVariables false
set_option linter.unusedSimpArgs false

set_option maxHeartbeats 400000 in
theorem isTag_any (s : ByteArray) (w : World) (hs : s.size ≤ 9223372036854775807) :
    Calls Tryz.prog 114 #[.string s] w fun e w' => e = .returned (.bool (tagB s)) ∧ w' = w := by
  by_cases h1 : (1 : Int) ≤ (s.size : Int)
  · by_cases h2 : (s.size : Int) ≤ 16
    · have HX : Hid (tagB s = plainB s) := bound_in (by omega) (by omega)
      go_enter Tryz.func114, Tryz.ntmps114
      go_wp2_with (go_at_call 41; refine (isPlain_any s _ hs).mono ?_; rintro e w' ⟨rfl, rfl⟩)
      go_ret
      exact ⟨ret_bool HX.out.symm, rfl⟩
    · have HX : Hid (tagB s = false) := bound_hi (by omega)
      go_enter Tryz.func114, Tryz.ntmps114
      go_wp2_with fail
      go_ret
      exact ⟨ret_bool HX.out.symm, rfl⟩
  · have HX : Hid (tagB s = false) := bound_lo (by omega)
    go_enter Tryz.func114, Tryz.ntmps114
    go_wp2_with fail
    go_ret
    exact ⟨ret_bool HX.out.symm, rfl⟩
set_option maxHeartbeats 400000 in
theorem isControl_any (s : ByteArray) (w : World) (hs : s.size ≤ 9223372036854775807) :
    Calls Tryz.prog 31 #[.string s] w fun e w' => e = .returned (.bool (controlB s)) ∧ w' = w := by
  by_cases h1 : (1 : Int) ≤ (s.size : Int)
  · by_cases h2 : (s.size : Int) ≤ 20
    · have HX : Hid (controlB s = plainB s) := bound_in (by omega) (by omega)
      go_enter Tryz.func31, Tryz.ntmps31
      go_wp2_with (go_at_call 41; refine (isPlain_any s _ hs).mono ?_; rintro e w' ⟨rfl, rfl⟩)
      go_ret
      exact ⟨ret_bool HX.out.symm, rfl⟩
    · have HX : Hid (controlB s = false) := bound_hi (by omega)
      go_enter Tryz.func31, Tryz.ntmps31
      go_wp2_with fail
      go_ret
      exact ⟨ret_bool HX.out.symm, rfl⟩
  · have HX : Hid (controlB s = false) := bound_lo (by omega)
    go_enter Tryz.func31, Tryz.ntmps31
    go_wp2_with fail
    go_ret
    exact ⟨ret_bool HX.out.symm, rfl⟩
set_option maxHeartbeats 400000 in
theorem isText_any (s : ByteArray) (w : World) (hs : s.size ≤ 9223372036854775807) :
    Calls Tryz.prog 118 #[.string s] w fun e w' => e = .returned (.bool (textB s)) ∧ w' = w := by
  by_cases h2 : (s.size : Int) ≤ 200
  · have HX : Hid (textB s = plainB s) := bound_in (by omega) (by omega)
    go_enter Tryz.func118, Tryz.ntmps118
    go_wp2_with (go_at_call 41; refine (isPlain_any s _ hs).mono ?_; rintro e w' ⟨rfl, rfl⟩)
    go_ret
    exact ⟨ret_bool HX.out.symm, rfl⟩
  · have HX : Hid (textB s = false) := bound_hi (by omega)
    go_enter Tryz.func118, Tryz.ntmps118
    go_wp2_with fail
    go_ret
    exact ⟨ret_bool HX.out.symm, rfl⟩

def pageB (n : Int) : Bool := decide (1 ≤ n) && decide (n ≤ 50)
set_option maxHeartbeats 400000 in
theorem isPage_any (n : Int) (w : World) :
    Calls Tryz.prog 122 #[.int .i64 n] w fun e w' => e = .returned (.bool (pageB n)) ∧ w' = w := by
  by_cases h1 : (1 : Int) ≤ n
  · by_cases h2 : n ≤ 50
    · have HX : Hid (pageB n = true) := by unfold pageB; rw [decide_eq_true h1, decide_eq_true h2]; exact rfl
      go_enter Tryz.func122, Tryz.ntmps122
      go_wp2_with fail
      go_ret
      exact ⟨ret_bool HX.out.symm, rfl⟩
    · have HX : Hid (pageB n = false) := by unfold pageB; rw [decide_eq_true h1, decide_eq_false h2]; exact rfl
      go_enter Tryz.func122, Tryz.ntmps122
      go_wp2_with fail
      go_ret
      exact ⟨ret_bool HX.out.symm, rfl⟩
  · have HX : Hid (pageB n = false) := by unfold pageB; rw [decide_eq_false h1]; exact rfl
    go_enter Tryz.func122, Tryz.ntmps122
    go_wp2_with fail
    go_ret
    exact ⟨ret_bool HX.out.symm, rfl⟩

end Go.Proofs.YtebdfmijlnkcbaaGreatDoor.Msg
