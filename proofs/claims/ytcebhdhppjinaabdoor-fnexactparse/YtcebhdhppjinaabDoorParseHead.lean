import Derived.Test.YtcebhdhppjinaabDoorParseAll
namespace Go.Proofs.YtcebhdhppjinaabDoor.Msg
open Go.ChangeShapes Go.WideShapes Go.ChangeAt Go.RowKit
set_option linter.unusedVariables false
set_option linter.unusedSimpArgs false

set_option maxRecDepth 100000 in
set_option maxHeartbeats 4000000 in
/-- code 3, where it does not begin with MSH -/
theorem parseSpec_msh (s : ByteArray) (w : World) (h8 : 8 ≤ s.size) (h40 : s.size ≤ 40000) (hby : bytesB s = true) (hm : ((s.extract 0 3).toList == [77, 83, 72]) = false) :
    Calls Tryd.prog 4 #[.string s] w (ParsePost w (parseL s)) := by
  have HB0 := hide (below_start w)
  have h0' : ((s.size : Int) == 0) = false := by rw [beq_eq_false_iff_ne]; omega
  have h8' : ¬ (s.size : Int) < 8 := by omega
  have h8d : decide ((s.size : Int) < 8) = false := decide_eq_false h8'
  have h3 : (3 : Int) ≤ (s.size : Int) := by omega
  have h4 : ¬ (40000 : Int) < (s.size : Int) := by omega
  have hm' : ((s.extract 0 3).toList != [77, 83, 72]) = true := by unfold bne; rw [hm]; rfl
  have HX : Hid (parseL s = .error 3) := parseL_3 s (by omega) (by omega) hby (by unfold headB; rw [hm]; simp)
  have HBY := hide hby
  clear hby h8
  go_enter Tryd.func4, Tryd.ntmps4
  go_wp2_with fail
  refine (bytes_any s _ (by omega)).mono ?_
  rintro e w' ⟨rfl, rfl⟩
  rw [HBY.out]
  go_wp2_with fail
  go_quiet (fail)
  go_wp2_with fail
  exact bodyPost_ret (v := .tuple #[.agg #[.slice none 0 0], .int .i64 3]) (by simp [results, Tryd.results4, go_sem]) rfl (post_err HX.out rfl ((below_drewN HB0.out _).setCell (by simp) _))
set_option maxRecDepth 100000 in
set_option maxHeartbeats 4000000 in
/-- code 3, where its delimiters are not allowed -/
theorem parseSpec_del (s : ByteArray) (w : World) (h8 : 8 ≤ s.size) (h40 : s.size ≤ 40000) (hby : bytesB s = true) (hm : ((s.extract 0 3).toList == [77, 83, 72]) = true) (hdl : delimsB (s.extract 3 8) = false) :
    Calls Tryd.prog 4 #[.string s] w (ParsePost w (parseL s)) := by
  have HB0 := hide (below_start w)
  have h0' : ((s.size : Int) == 0) = false := by rw [beq_eq_false_iff_ne]; omega
  have h8' : ¬ (s.size : Int) < 8 := by omega
  have h8d : decide ((s.size : Int) < 8) = false := decide_eq_false h8'
  have h3 : (3 : Int) ≤ (s.size : Int) := by omega
  have h38 : (8 : Int) ≤ (s.size : Int) := by omega
  have h4 : ¬ (40000 : Int) < (s.size : Int) := by omega
  have hm' : ((s.extract 0 3).toList != [77, 83, 72]) = false := by unfold bne; rw [hm]; rfl
  have HX : Hid (parseL s = .error 3) := parseL_3 s (by omega) (by omega) hby (by unfold headB; rw [hdl]; simp)
  have h5 : (s.extract 3 8).size = 5 := by rw [ByteArray.size_extract]; omega
  have HBY := hide hby
  have HDL := hide hdl
  have HCALL : Hid (∀ w, Calls Tryd.prog 10 #[.string (s.extract 3 8)] w fun e w' => e = .returned (.bool false) ∧ w' = w) := fun w => by rw [← HDL.out]; exact delims_any (s.extract 3 8) w h5
  clear hby h8 hdl
  go_enter Tryd.func4, Tryd.ntmps4
  go_wp2_with fail
  refine (bytes_any s _ (by omega)).mono ?_
  rintro e w' ⟨rfl, rfl⟩
  rw [HBY.out]
  go_wp2_with fail
  go_quiet (first | (go_at_call 10; refine Calls.quiet_of_same (HCALL.out _)))
  go_wp2_with fail
  exact bodyPost_ret (v := .tuple #[.agg #[.slice none 0 0], .int .i64 3]) (by simp [results, Tryd.results4, go_sem]) rfl (post_err HX.out rfl ((below_drewN HB0.out _).setCell (by simp) _))
end Go.Proofs.YtcebhdhppjinaabDoor.Msg
