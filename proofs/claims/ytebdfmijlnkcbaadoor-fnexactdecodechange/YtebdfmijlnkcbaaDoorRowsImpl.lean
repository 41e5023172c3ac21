import Derived.Test.YtebdfmijlnkcbaaDoorTextImpl
import Derived.Test.YtebdfmijlnkcbaaDoorMsgTo
import Derived.Deep.LoopGhost
namespace Go.Proofs.YtebdfmijlnkcbaaDoor.Msg
open Go.ChangeShapes Go.WideShapes Go.ChangeAt Go.RowKit
set_option linter.unusedVariables false
set_option linter.unusedSimpArgs false

theorem empty_yes {s : ByteArray} (h : s.size = 0) : s.toList = [] ∧ s.toList.isEmpty = true ∧ (s.toList == []) = true := by
  have e : s.toList = [] := by rw [ByteArray.toList_eq]; exact List.length_eq_zero_iff.1 (by simpa using h)
  rw [e]
  exact ⟨rfl, rfl, rfl⟩
theorem empty_no {s : ByteArray} (h : ¬ s.size = 0) : ¬ s.toList = [] ∧ s.toList.isEmpty = false ∧ (s.toList == []) = false := by
  have e : ¬ s.toList = [] := by rw [ByteArray.toList_eq]; intro e; have := congrArg List.length e; simp at this; exact h (by simpa using this)
  refine ⟨e, ?_, ?_⟩
  · cases hh : s.toList with
    | nil => exact absurd hh e
    | cons a l => rfl
  · simpa using e

def rowsB (rows : List ByteArray) (most : Nat) : Bool := decide (rows.length ≤ most) && rows.all textB
set_option maxHeartbeats 2000000 in
theorem areRows_any (rows : List ByteArray) (most : Nat) (v : Value) (w : World) {lo : Nat} (hv : StrsAt lo w v rows) :
    Calls Tryd.prog 37 #[v, .int .i64 (most : Int)] w fun e w' => e = .returned (.bool (rowsB rows most)) ∧ w' = w := by
  have hl := hv.1
  obtain ⟨a, cap, hf, hc⟩ := hv.form
  subst hf
  have HC := hide hc
  clear hc hv
  by_cases hlen : (most : Int) < (rows.length : Int)
  · have HX : Hid (rowsB rows most = false) := by unfold rowsB; rw [decide_eq_false (p := rows.length ≤ most) (by omega)]; exact rfl
    go_enter Tryd.func37, Tryd.ntmps37
    go_wp2_with fail
    go_ret
    exact ⟨ret_bool HX.out.symm, rfl⟩
  have HX : Hid (rowsB rows most = rows.all textB) := by unfold rowsB; rw [decide_eq_true (p := rows.length ≤ most) (by omega)]; exact rfl
  go_enter Tryd.func37, Tryd.ntmps37
  go_wp2_with fail
  go_loopg [13] rows.length (fun q i wr => ∃ k : Nat, k ≤ rows.length ∧ q = rows.length - k ∧ i = .int .i64 (k : Int) ∧ (rows.take k).all textB = true ∧ wr = w)
  case atStart => exact ⟨0, Nat.zero_le _, rfl, rfl, rfl, rfl⟩
  case round =>
    obtain ⟨k, hk, rfl, rfl, hall, rfl⟩ := hrel
    have HA := hide hall
    clear hall
    by_cases hlt : k < rows.length
    · have hki : (k : Int) < (rows.length : Int) := by omega
      obtain ⟨b, off, rfl, _, hbl, hcell, hsz⟩ := HC.out k hlt
      rw [Nat.mul_one] at hcell
      obtain ⟨x, hx⟩ : ∃ x, rows[k] = x := ⟨_, rfl⟩
      rw [hx] at hcell hsz
      have HR := hide (fun W => isText_any x W hsz)
      cases hxb : textB x
      · rw [hxb] at HR
        have HN : Hid (rows.all textB = false) := by
          show _ = _
          rw [List.all_eq_false]
          exact ⟨rows[k], List.getElem_mem _, by rw [hx, hxb]; decide⟩
        clear hx
        go_wp2_with (first | (go_at_call 35; refine (HR.out _).mono ?_; rintro e w2 ⟨rfl, rfl⟩))
        go_ret
        exact ⟨ret_bool (by rw [HX.out, HN.out]), rfl⟩
      · rw [hxb] at HR
        have HN : Hid ((rows.take (k + 1)).all textB = true) := by
          show _ = _
          rw [List.take_succ_eq_append_getElem hlt, List.all_append, HA.out, hx]
          simp [hxb]
        clear hx
        go_wp2_with (first | (go_at_call 35; refine (HR.out _).mono ?_; rintro e w2 ⟨rfl, rfl⟩))
        go_roundg (rows.length - (k + 1))
        case measure => omega
        case rel => exact ⟨k + 1, by omega, rfl, by go_num, HN.out, rfl⟩
    · obtain rfl : k = rows.length := by omega
      have hki : ¬ (rows.length : Int) < (rows.length : Int) := by omega
      have HN : Hid (rows.all textB = true) := by have := HA.out; rw [List.take_length] at this; exact this
      go_wp2_with fail
      go_ret
      exact ⟨ret_bool (by rw [HX.out, HN.out]), rfl⟩

end Go.Proofs.YtebdfmijlnkcbaaDoor.Msg
