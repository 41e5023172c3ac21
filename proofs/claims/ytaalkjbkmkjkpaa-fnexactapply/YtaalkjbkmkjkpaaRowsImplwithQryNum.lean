import Derived.Test.YtaalkjbkmkjkpaaImplOkwithTextImpl
import Derived.Test.YtaalkjbkmkjkpaaMsgEq2withMsgTo
import Derived.Deep.LoopGhost
import Derived.Test.YtaalkjbkmkjkpaaNumwithQrySpec
import Derived.Deep.RegionHeld3
namespace Go.Proofs.Ytaalkjbkmkjkpaa.Msg
open Go.ChangeShapes Go.WideShapes Go.ChangeAt Go.RowKit
set_option linter.unusedVariables false
set_option linter.unusedSimpArgs false

theorem empty_yes {s : ByteArray} (h : s.size = 0) : s.toList = [] ∧ s.toList.isEmpty = true ∧ (s.toList == []) = true := by
  have e : s.toList = [] := by rw [ByteArray.toList_eq]; exact List.length_eq_zero_iff.1 (by simpa using h)
  rw [e]
  exact ⟨rfl, rfl, rfl⟩
theorem empty_no {s : ByteArray} (h : ¬ s.size = 0) : ¬ s.toList = [] ∧ s.toList.isEmpty = false ∧ (s.toList == []) = false := by
  have e : ¬ s.toList = [] := by rw [ByteArray.toList_eq]; intro e; have := congrArg List.length e; simp at this; exact h (by simpa using this)
  refine ⟨e, ?_, ?_⟩
  · cases hh : s.toList with
    | nil => exact absurd hh e
    | cons a l => rfl
  · simpa using e

def rowsB (rows : List ByteArray) (most : Nat) : Bool := decide (rows.length ≤ most) && rows.all textB
set_option maxHeartbeats 2000000 in
theorem areRows_any (rows : List ByteArray) (most : Nat) (v : Value) (w : World) {lo : Nat} (hv : StrsAt lo w v rows) :
    Calls Try.prog 49 #[v, .int .i64 (most : Int)] w fun e w' => e = .returned (.bool (rowsB rows most)) ∧ w' = w := by
  have hl := hv.1
  obtain ⟨a, cap, hf, hc⟩ := hv.form
  subst hf
  have HC := hide hc
  clear hc hv
  by_cases hlen : (most : Int) < (rows.length : Int)
  · have HX : Hid (rowsB rows most = false) := by unfold rowsB; rw [decide_eq_false (p := rows.length ≤ most) (by omega)]; exact rfl
    go_enter Try.func49, Try.ntmps49
    go_wp2_with fail
    go_ret
    exact ⟨ret_bool HX.out.symm, rfl⟩
  have HX : Hid (rowsB rows most = rows.all textB) := by unfold rowsB; rw [decide_eq_true (p := rows.length ≤ most) (by omega)]; exact rfl
  go_enter Try.func49, Try.ntmps49
  go_wp2_with fail
  go_loopg [13] rows.length (fun q i wr => ∃ k : Nat, k ≤ rows.length ∧ q = rows.length - k ∧ i = .int .i64 (k : Int) ∧ (rows.take k).all textB = true ∧ wr = w)
  case atStart => exact ⟨0, Nat.zero_le _, rfl, rfl, rfl, rfl⟩
  case round =>
    obtain ⟨k, hk, rfl, rfl, hall, rfl⟩ := hrel
    have HA := hide hall
    clear hall
    by_cases hlt : k < rows.length
    · have hki : (k : Int) < (rows.length : Int) := by omega
      obtain ⟨b, off, rfl, _, hbl, hcell, hsz⟩ := HC.out k hlt
      rw [Nat.mul_one] at hcell
      obtain ⟨x, hx⟩ : ∃ x, rows[k] = x := ⟨_, rfl⟩
      rw [hx] at hcell hsz
      have HR := hide (fun W => isText_any x W hsz)
      cases hxb : textB x
      · rw [hxb] at HR
        have HN : Hid (rows.all textB = false) := by
          show _ = _
          rw [List.all_eq_false]
          exact ⟨rows[k], List.getElem_mem _, by rw [hx, hxb]; decide⟩
        clear hx
        go_wp2_with (first | (go_at_call 47; refine (HR.out _).mono ?_; rintro e w2 ⟨rfl, rfl⟩))
        go_ret
        exact ⟨ret_bool (by rw [HX.out, HN.out]), rfl⟩
      · rw [hxb] at HR
        have HN : Hid ((rows.take (k + 1)).all textB = true) := by
          show _ = _
          rw [List.take_succ_eq_append_getElem hlt, List.all_append, HA.out, hx]
          simp [hxb]
        clear hx
        go_wp2_with (first | (go_at_call 47; refine (HR.out _).mono ?_; rintro e w2 ⟨rfl, rfl⟩))
        go_roundg (rows.length - (k + 1))
        case measure => omega
        case rel => exact ⟨k + 1, by omega, rfl, by go_num, HN.out, rfl⟩
    · obtain rfl : k = rows.length := by omega
      have hki : ¬ (rows.length : Int) < (rows.length : Int) := by omega
      have HN : Hid (rows.all textB = true) := by have := HA.out; rw [List.take_length] at this; exact this
      go_wp2_with fail
      go_ret
      exact ⟨ret_bool (by rw [HX.out, HN.out]), rfl⟩

end Go.Proofs.Ytaalkjbkmkjkpaa.Msg

namespace Go.Proofs.Ytaalkjbkmkjkpaa.Msg
open Go.ChangeShapes Go.WideShapes Go.ChangeAt Go.RowKit
set_option linter.unusedVariables false
set_option linter.unusedSimpArgs false

def digC (d : Nat) : UInt8 := UInt8.ofNat (48 + d)
/-- the decimal of a number, as a text -/
def decT (u : Nat) : ByteArray := ⟨(Lib.decDigits u).toArray⟩
theorem decT_one (u : Nat) (h : u < 10) : decT u = ⟨#[digC u]⟩ := by unfold decT digC; rw [Lib.decDigits, dif_pos h]
theorem decT_more (u : Nat) (h : ¬ u < 10) : decT u = decT (u / 10) ++ ⟨#[digC (u % 10)]⟩ := by
  unfold decT digC
  rw [Lib.decDigits, dif_neg h]
  apply ByteArray.ext
  simp
theorem rem_neg (u : Nat) : Int.tmod (-(u : Int)) 10 = -((u % 10 : Nat) : Int) := by
  rw [Int.neg_tmod, Int.tmod_eq_emod_of_nonneg (by omega)]
  omega
theorem quo_neg (u : Nat) : Int.tdiv (-(u : Int)) 10 = -((u / 10 : Nat) : Int) := by
  rw [Int.neg_tdiv, Int.tdiv_eq_ediv_of_nonneg (by omega)]
  omega

theorem digits_cut : ∀ d, d < 10 → (⟨#[48, 49, 50, 51, 52, 53, 54, 55, 56, 57]⟩ : ByteArray).extract d (d + 1) = ⟨#[digC d]⟩ := by unfold digC; decide
theorem digit_at (d : Nat) (h : d < 10) (w : World) : (Instr.slice 9 (.string ⟨#[48, 49, 50, 51, 52, 53, 54, 55, 56, 57]⟩) (some (.int .i64 (d : Int))) (some (.int .i64 ((d : Int) + 1))) none).run Try.prog w = .ok (.string ⟨#[digC d]⟩) w := by
  rw [run_slice_string w 9 ⟨#[48, 49, 50, 51, 52, 53, 54, 55, 56, 57]⟩ .i64 .i64 _ _ Try.underlying9 (by omega) (by omega) (by show ((d : Int) + 1) ≤ 10; omega), show ((d : Int)).toNat = d by omega, show ((d : Int) + 1).toNat = d + 1 by omega, digits_cut d h]

theorem all_take {α : Type} (p : α → Bool) (xs : List α) (k : Nat) (h : xs.all p = true) : (xs.take k).all p = true := List.all_eq_true.2 fun x hx => List.all_eq_true.1 h x (List.mem_of_mem_take hx)
theorem decV_bound (l : List UInt8) (k : Nat) (hl : l.length ≤ 9) (ha : (l.take k).all digitB = true) (hk : k ≤ l.length) : decV 0 (l.take k) < 1000000000 := by
  have h1 := decV_lt (l.take k) ha k (by rw [List.length_take]; omega)
  rw [List.take_take, Nat.min_self] at h1
  have h2 : (10 : Nat) ^ k ≤ 10 ^ 9 := Nat.pow_le_pow_right (by omega) (by omega)
  omega
theorem decV_next (l : List UInt8) (k : Nat) (h : k < l.length) (hd : digitB l[k] = true) : ((decV 0 (l.take (k + 1)) : Nat) : Int) = (decV 0 (l.take k) : Int) * 10 + ((l[k].toNat : Int) - 48) := by
  rw [decV_take l k h]
  simp only [digitB, Bool.and_eq_true, decide_eq_true_eq] at hd
  omega

end Go.Proofs.Ytaalkjbkmkjkpaa.Msg
