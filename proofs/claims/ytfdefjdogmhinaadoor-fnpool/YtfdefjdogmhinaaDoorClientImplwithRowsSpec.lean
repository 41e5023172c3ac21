import Derived.Test.YtfdefjdogmhinaaDoorQryNumwithChgPure
namespace Go.Proofs.YtfdefjdogmhinaaDoor.Msg
open Go.ChangeShapes Go.WideShapes Go.ChangeAt Go.RowKit
set_option linter.unusedVariables false
set_option linter.unusedSimpArgs false

set_option maxHeartbeats 400000 in
theorem isClient_any (n : Int) (w : World) :
    Calls Tryd.prog 31 #[.int .i64 n] w fun e w' => e = .returned (.bool (clientB n)) ∧ w' = w := by
  by_cases h1 : (0 : Int) ≤ n
  · by_cases h2 : n < 4
    · have HX : Hid (clientB n = true) := by unfold clientB; rw [decide_eq_true h1, decide_eq_true h2]; exact rfl
      go_enter Tryd.func31, Tryd.ntmps31
      go_wp2_with fail
      go_ret
      exact ⟨ret_bool HX.out.symm, rfl⟩
    · have HX : Hid (clientB n = false) := by unfold clientB; rw [decide_eq_true h1, decide_eq_false h2]; exact rfl
      go_enter Tryd.func31, Tryd.ntmps31
      go_wp2_with fail
      go_ret
      exact ⟨ret_bool HX.out.symm, rfl⟩
  · have HX : Hid (clientB n = false) := by unfold clientB; rw [decide_eq_false h1]; exact rfl
    go_enter Tryd.func31, Tryd.ntmps31
    go_wp2_with fail
    go_ret
    exact ⟨ret_bool HX.out.symm, rfl⟩
end Go.Proofs.YtfdefjdogmhinaaDoor.Msg

namespace Go.Proofs.YtfdefjdogmhinaaDoor.Msg
open Go.ChangeShapes Go.WideShapes Go.ChangeAt Go.RowKit
set_option linter.unusedVariables false
set_option linter.unusedSimpArgs false

set_option maxHeartbeats 400000 in
theorem l5Client_any (n : Int) (w : World) :
    Calls Tryd.prog 36 #[.int .i64 n] w fun e w' => e = .returned (.bool (clientB n)) ∧ w' = w := by
  by_cases h1 : (0 : Int) ≤ n
  · by_cases h2 : n < 4
    · have HX : Hid (clientB n = true) := by unfold clientB; rw [decide_eq_true h1, decide_eq_true h2]; exact rfl
      go_enter Tryd.func36, Tryd.ntmps36
      go_wp2_with fail
      go_ret
      exact ⟨ret_bool HX.out.symm, rfl⟩
    · have HX : Hid (clientB n = false) := by unfold clientB; rw [decide_eq_true h1, decide_eq_false h2]; exact rfl
      go_enter Tryd.func36, Tryd.ntmps36
      go_wp2_with fail
      go_ret
      exact ⟨ret_bool HX.out.symm, rfl⟩
  · have HX : Hid (clientB n = false) := by unfold clientB; rw [decide_eq_false h1]; exact rfl
    go_enter Tryd.func36, Tryd.ntmps36
    go_wp2_with fail
    go_ret
    exact ⟨ret_bool HX.out.symm, rfl⟩

end Go.Proofs.YtfdefjdogmhinaaDoor.Msg
