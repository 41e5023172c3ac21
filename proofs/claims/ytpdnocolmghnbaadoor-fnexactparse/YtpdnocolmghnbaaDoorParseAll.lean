import Derived.Test.YtpdnocolmghnbaaDoorParseSegs
import Derived.BigQuiet
namespace Go.Proofs.YtpdnocolmghnbaaDoor.Msg
open Go.ChangeShapes Go.WideShapes Go.ChangeAt Go.RowKit
set_option linter.unusedVariables false
set_option linter.unusedSimpArgs false

def ParsePost (w : World) (X : Except Nat (List Seg)) (e : Ending) (w' : World) : Prop :=
  ∃ u c, e = .returned (.tuple #[.agg #[u], .int .i64 c]) ∧ (∀ n, X = .error n → u = .slice none 0 0 ∧ c = (n : Int)) ∧ (∀ xs, X = .ok xs → c = 0 ∧ ∃ bs, OSegs w' u xs bs ∧ bs.Nodup ∧ ∀ b ∈ bs, w.heap.size ≤ b) ∧ Below w.heap.size w w'
theorem post_err {w w' : World} {X : Except Nat (List Seg)} {n : Nat} {c : Int} (h : X = .error n) (hc : c = (n : Int)) (hb : Below w.heap.size w w') : ParsePost w X (.returned (.tuple #[.agg #[.slice none 0 0], .int .i64 c])) w' :=
  ⟨_, _, rfl, fun m hm => by rw [h] at hm; injection hm with hm; subst hm; exact ⟨rfl, hc⟩, fun xs hx => (by rw [h] at hx; cases hx), hb⟩

theorem below_start (w : World) : Below w.heap.size w ((w.alloc (Obj.cells #[.slice none 0 0] 24)).alloc (Obj.cells #[.slice none 0 0] 24)) :=
  ((Below.refl w.heap.size w).alloc (Nat.le_refl _) _).alloc (by simp) _

set_option maxRecDepth 100000 in
set_option maxHeartbeats 4000000 in
/-- codes 1 and 2 -/
theorem parseSpec_12 (s : ByteArray) (w : World) (hs : s.size ≤ 1048576) (h12 : s.size = 0 ∨ 40000 < s.size ∨ bytesB s = false) :
    Calls Tryd.prog 4 #[.string s] w (ParsePost w (parseL s)) := by
  have HB0 := hide (below_start w)
  by_cases h0 : s.size = 0
  · have h0' : ((s.size : Int) == 0) = true := by rw [beq_iff_eq]; omega
    have HX : Hid (parseL s = .error 1) := by unfold parseL; rw [if_pos (Or.inl h0)]; trivial
    clear h0 h12
    go_enter Tryd.func4, Tryd.ntmps4
    go_wp2_with fail
    exact bodyPost_ret (v := .tuple #[.agg #[.slice none 0 0], .int .i64 1]) (by simp [results, Tryd.results4, go_sem]) rfl (post_err HX.out rfl HB0.out)
  have h0' : ((s.size : Int) == 0) = false := by rw [beq_eq_false_iff_ne]; omega
  by_cases h4 : (40000 : Int) < (s.size : Int)
  · have HX : Hid (parseL s = .error 1) := by unfold parseL; rw [if_pos (Or.inr (by omega))]; trivial
    clear h0 h12
    go_enter Tryd.func4, Tryd.ntmps4
    go_wp2_with fail
    exact bodyPost_ret (v := .tuple #[.agg #[.slice none 0 0], .int .i64 1]) (by simp [results, Tryd.results4, go_sem]) rfl (post_err HX.out rfl HB0.out)
  have hby : bytesB s = false := by
    rcases h12 with h | h | h
    · exact absurd h h0
    · exact absurd h (by omega)
    · exact h
  have HX : Hid (parseL s = .error 2) := by unfold parseL; rw [if_neg (by omega), if_pos hby]; trivial
  have HBY := hide hby
  clear hby h0 h12
  go_enter Tryd.func4, Tryd.ntmps4
  go_wp2_with fail
  refine (bytes_any s _ (by omega)).mono ?_
  rintro e w' ⟨rfl, rfl⟩
  rw [HBY.out]
  go_wp2_with fail
  exact bodyPost_ret (v := .tuple #[.agg #[.slice none 0 0], .int .i64 2]) (by simp [results, Tryd.results4, go_sem]) rfl (post_err HX.out rfl HB0.out)

theorem parseL_3 (s : ByteArray) (h0 : s.size ≠ 0) (h4 : s.size ≤ 40000) (hby : bytesB s = true) (hh : headB s = false) : parseL s = .error 3 := by
  unfold parseL
  rw [if_neg (by omega), if_neg (by rw [hby]; simp), dif_neg (by rw [hh]; simp)]

set_option maxRecDepth 100000 in
set_option maxHeartbeats 4000000 in
/-- code 3, where the text is too short -/
theorem parseSpec_short (s : ByteArray) (w : World) (h0 : s.size ≠ 0) (h8 : s.size < 8) (hby : bytesB s = true) :
    Calls Tryd.prog 4 #[.string s] w (ParsePost w (parseL s)) := by
  have HB0 := hide (below_start w)
  have h0' : ((s.size : Int) == 0) = false := by rw [beq_eq_false_iff_ne]; omega
  have h8' : (s.size : Int) < 8 := by omega
  have h4 : ¬ (40000 : Int) < (s.size : Int) := by omega
  have HX : Hid (parseL s = .error 3) := parseL_3 s h0 (by omega) hby (by unfold headB; rw [decide_eq_false (by omega)]; rfl)
  have HBY := hide hby
  clear hby h0 h8
  go_enter Tryd.func4, Tryd.ntmps4
  go_wp2_with fail
  refine (bytes_any s _ (by omega)).mono ?_
  rintro e w' ⟨rfl, rfl⟩
  rw [HBY.out]
  go_wp2_with fail
  go_quiet (fail)
  go_wp2_with fail
  exact bodyPost_ret (v := .tuple #[.agg #[.slice none 0 0], .int .i64 3]) (by simp [results, Tryd.results4, go_sem]) rfl (post_err HX.out rfl ((below_drewN HB0.out _).setCell (by simp) _))
end Go.Proofs.YtpdnocolmghnbaaDoor.Msg
