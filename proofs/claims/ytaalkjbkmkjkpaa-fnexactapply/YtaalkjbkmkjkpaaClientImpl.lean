import Derived.Test.YtaalkjbkmkjkpaaChgPurewithMsgTo2
namespace Go.Proofs.Ytaalkjbkmkjkpaa.Msg
open Go.ChangeShapes Go.WideShapes Go.ChangeAt Go.RowKit
set_option linter.unusedVariables false
set_option linter.unusedSimpArgs false

set_option maxHeartbeats 400000 in
theorem isClient_any (n : Int) (w : World) :
    Calls Try.prog 50 #[.int .i64 n] w fun e w' => e = .returned (.bool (clientB n)) ∧ w' = w := by
  by_cases h1 : (0 : Int) ≤ n
  · by_cases h2 : n < 4
    · have HX : Hid (clientB n = true) := by unfold clientB; rw [decide_eq_true h1, decide_eq_true h2]; exact rfl
      go_enter Try.func50, Try.ntmps50
      go_wp2_with fail
      go_ret
      exact ⟨ret_bool HX.out.symm, rfl⟩
    · have HX : Hid (clientB n = false) := by unfold clientB; rw [decide_eq_true h1, decide_eq_false h2]; exact rfl
      go_enter Try.func50, Try.ntmps50
      go_wp2_with fail
      go_ret
      exact ⟨ret_bool HX.out.symm, rfl⟩
  · have HX : Hid (clientB n = false) := by unfold clientB; rw [decide_eq_false h1]; exact rfl
    go_enter Try.func50, Try.ntmps50
    go_wp2_with fail
    go_ret
    exact ⟨ret_bool HX.out.symm, rfl⟩
end Go.Proofs.Ytaalkjbkmkjkpaa.Msg
