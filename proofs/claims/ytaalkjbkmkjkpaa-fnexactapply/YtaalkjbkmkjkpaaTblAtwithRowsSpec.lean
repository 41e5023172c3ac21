import Derived.Test.YtaalkjbkmkjkpaaTblSzwithMarkText
import Derived.Test.YtaalkjbkmkjkpaaChgPurewithMsgTo2
import Derived.Deep.LoopGhost
namespace Go.Proofs.Ytaalkjbkmkjkpaa.Msg
open Go.ChangeShapes Go.WideShapes Go.ChangeAt Go.RowKit
set_option linter.unusedVariables false
set_option linter.unusedSimpArgs false

/-- a session of this client with this tag -/
def keyB (c : Int) (t : ByteArray) (x : Sess) : Bool := decide (x.client = c) && (x.tag.toList == t.toList)
def liveB (s : Int) : Bool := decide (s = 1) || decide (s = 2)
/-- the place of a session, -1 if there is none -/
def placeOf (xs : List Sess) (c : Int) (t : ByteArray) : Int := match xs.findIdx? (keyB c t) with
  | some i => (i : Int)
  | none => -1
theorem place_hit {xs : List Sess} {c : Int} {t : ByteArray} {k : Nat} (h : k < xs.length) (h1 : ∀ i (hi : i < k), keyB c t (xs[i]'(by omega)) = false) (h2 : keyB c t xs[k] = true) : placeOf xs c t = (k : Int) := by
  unfold placeOf
  have : xs.findIdx? (keyB c t) = some k := by
    rw [List.findIdx?_eq_some_iff_getElem]
    exact ⟨h, h2, fun j hj => by have := h1 j hj; simp [this]⟩
  rw [this]
theorem place_none {xs : List Sess} {c : Int} {t : ByteArray} (h1 : ∀ i (hi : i < xs.length), keyB c t xs[i] = false) : placeOf xs c t = -1 := by
  unfold placeOf
  have : xs.findIdx? (keyB c t) = none := by
    rw [List.findIdx?_eq_none_iff]
    intro x hx
    obtain ⟨i, hi, rfl⟩ := List.getElem_of_mem hx
    exact h1 i hi
  rw [this]

set_option maxHeartbeats 400000 in
theorem l5Live_any (s : Int) (w : World) :
    Calls Try.prog 22 #[.int .i64 s] w fun e w' => e = .returned (.bool (liveB s)) ∧ w' = w := by
  by_cases h1 : s = 1
  · subst h1
    go_enter Try.func22, Try.ntmps22
    go_wp2_with fail
    go_ret
    exact ⟨rfl, rfl⟩
  · have h1b : (s == 1) = false := by simpa using h1
    have HX : Hid (liveB s = decide (s = 2)) := by show _ = _; unfold liveB; rw [decide_eq_false h1]; rfl
    by_cases h2 : s = 2
    · subst h2
      go_enter Try.func22, Try.ntmps22
      go_wp2_with fail
      go_ret
      exact ⟨rfl, rfl⟩
    · have h2b : (s == 2) = false := by simpa using h2
      have HX2 : Hid (liveB s = false) := by show _ = _; rw [HX.out, decide_eq_false h2]
      go_enter Try.func22, Try.ntmps22
      go_wp2_with fail
      go_ret
      exact ⟨ret_bool HX2.out.symm, rfl⟩

set_option maxHeartbeats 1000000 in
theorem l5At_any (xs : List Sess) (v : Value) (c : Int) (t : ByteArray) (w : World) {lo : Nat} (hv : SesssAt lo w v xs) :
    Calls Try.prog 21 #[.agg #[v], .int .i64 c, .string t] w fun e w' => e = .returned (.int .i64 (placeOf xs c t)) ∧ Below w.heap.size w w' := by
  have hl := hv.1
  have hb := (Below.refl w.heap.size w).alloc (Nat.le_refl _) (Obj.cells #[v] 32)
  obtain ⟨a, cap, hf, hc⟩ := (At.kept kept_sess hv hb).form
  subst hf
  obtain ⟨W, hW⟩ : ∃ W, w.alloc (Obj.cells #[.slice a xs.length cap] 32) = W := ⟨_, rfl⟩
  have d0 : W.cell? ⟨w.heap.size, 0, none⟩ = some (.slice a xs.length cap) := by rw [← hW]; simp
  rw [hW] at hb hc
  have HC := hide hc
  have HB := hide hb
  have HW := hide hW
  clear hc hb hv hW
  go_enter Try.func21, Try.ntmps21
  go_wp2_with fail
  rw [HW.out]
  go_loopg [7] xs.length (fun q i wr => ∃ k : Nat, k ≤ xs.length ∧ q = xs.length - k ∧ i = .int .i64 (k : Int) ∧ (∀ j (hj : j < xs.length), j < k → keyB c t xs[j] = false) ∧ wr = W)
  case atStart => exact ⟨0, Nat.zero_le _, rfl, rfl, fun j _ h => absurd h (by omega), rfl⟩
  case round =>
    obtain ⟨k, hk, rfl, rfl, hno, rfl⟩ := hrel
    have HNO := hide hno
    clear hno
    by_cases hlt : k < xs.length
    · have hki : (k : Int) < (xs.length : Int) := by omega
      obtain ⟨b, off, rfl, _, hbl, c0, c1, _⟩ := HC.out k hlt
      have HH := hide (fun h2 => place_hit (c := c) (t := t) hlt (fun i hi => HNO.out i (by omega) hi) h2)
      have HN : Hid (keyB c t xs[k] = false → ∀ j (hj : j < xs.length), j < k + 1 → keyB c t xs[j] = false) := fun h j hj hjk => by
        by_cases e : j = k
        · subst e; exact h
        · exact HNO.out j hj (by omega)
      have HK : Hid (keyB c t xs[k] = (decide (xs[k].client = c) && (xs[k].tag.toList == t.toList))) := rfl
      obtain ⟨x, hx⟩ : ∃ x, xs[k] = x := ⟨_, rfl⟩
      rw [hx] at c0 c1 HH HN HK
      clear hx
      obtain ⟨p, hp⟩ : ∃ p, off + k * 7 = p := ⟨_, rfl⟩
      rw [hp] at c0 c1
      by_cases e1 : x.client = c
      · have e1b : (x.client == c) = true := by simpa using e1
        cases e2 : (x.tag.toList == t.toList)
        · have HF := hide (HN.out (by rw [HK.out, e2, Bool.and_false]))
          go_wp2_with fail
          go_roundg (xs.length - (k + 1))
          case measure => omega
          case rel => exact ⟨k + 1, by omega, rfl, by go_num, HF.out, rfl⟩
        · have HF := hide (HH.out (by rw [HK.out, e2, decide_eq_true e1]; rfl))
          go_wp2_with fail
          go_ret
          exact ⟨ret_int HF.out.symm, HB.out⟩
      · have e1b : (x.client == c) = false := by simpa using e1
        have HF := hide (HN.out (by rw [HK.out, decide_eq_false e1, Bool.false_and]))
        go_wp2_with fail
        go_roundg (xs.length - (k + 1))
        case measure => omega
        case rel => exact ⟨k + 1, by omega, rfl, by go_num, HF.out, rfl⟩
    · obtain rfl : k = xs.length := by omega
      have hki : ¬ (xs.length : Int) < (xs.length : Int) := by omega
      have HF := hide (place_none (c := c) (t := t) (fun i hi => HNO.out i hi hi))
      go_wp2_with fail
      go_ret
      exact ⟨ret_int HF.out.symm, HB.out⟩
end Go.Proofs.Ytaalkjbkmkjkpaa.Msg

namespace Go.Proofs.Ytaalkjbkmkjkpaa.Msg
open Go.ChangeShapes Go.WideShapes Go.ChangeAt Go.RowKit
set_option linter.unusedVariables false
set_option linter.unusedSimpArgs false

set_option maxHeartbeats 400000 in
theorem l5Client_any (n : Int) (w : World) :
    Calls Try.prog 36 #[.int .i64 n] w fun e w' => e = .returned (.bool (clientB n)) ∧ w' = w := by
  by_cases h1 : (0 : Int) ≤ n
  · by_cases h2 : n < 4
    · have HX : Hid (clientB n = true) := by unfold clientB; rw [decide_eq_true h1, decide_eq_true h2]; exact rfl
      go_enter Try.func36, Try.ntmps36
      go_wp2_with fail
      go_ret
      exact ⟨ret_bool HX.out.symm, rfl⟩
    · have HX : Hid (clientB n = false) := by unfold clientB; rw [decide_eq_true h1, decide_eq_false h2]; exact rfl
      go_enter Try.func36, Try.ntmps36
      go_wp2_with fail
      go_ret
      exact ⟨ret_bool HX.out.symm, rfl⟩
  · have HX : Hid (clientB n = false) := by unfold clientB; rw [decide_eq_false h1]; exact rfl
    go_enter Try.func36, Try.ntmps36
    go_wp2_with fail
    go_ret
    exact ⟨ret_bool HX.out.symm, rfl⟩

set_option maxHeartbeats 1000000 in
theorem rowsOk_any (rows : List ByteArray) (v : Value) (w : World) {lo : Nat} (hv : StrsAt lo w v rows) :
    Calls Try.prog 39 #[v] w fun e w' => e = .returned (.bool (rowsB rows 200)) ∧ w' = w := by
  have hl := hv.1
  obtain ⟨a, cap, hf, hc⟩ := hv.form
  subst hf
  have HC := hide hc
  clear hc hv
  by_cases hlen : (200 : Int) < (rows.length : Int)
  · have HX : Hid (rowsB rows 200 = false) := by unfold rowsB; rw [decide_eq_false (p := rows.length ≤ 200) (by omega)]; exact rfl
    go_enter Try.func39, Try.ntmps39
    go_wp2_with fail
    go_ret
    exact ⟨ret_bool HX.out.symm, rfl⟩
  have HX : Hid (rowsB rows 200 = rows.all textB) := by unfold rowsB; rw [decide_eq_true (p := rows.length ≤ 200) (by omega)]; exact rfl
  go_enter Try.func39, Try.ntmps39
  go_wp2_with fail
  go_loopg [3] rows.length (fun q i wr => ∃ k : Nat, k ≤ rows.length ∧ q = rows.length - k ∧ i = .int .i64 (k : Int) ∧ (rows.take k).all textB = true ∧ wr = w)
  case atStart => exact ⟨0, Nat.zero_le _, rfl, rfl, rfl, rfl⟩
  case round =>
    obtain ⟨k, hk, rfl, rfl, hall, rfl⟩ := hrel
    have HA := hide hall
    clear hall
    by_cases hlt : k < rows.length
    · have hki : (k : Int) < (rows.length : Int) := by omega
      obtain ⟨b, off, rfl, _, hbl, hcell, hsz⟩ := HC.out k hlt
      rw [Nat.mul_one] at hcell
      obtain ⟨x, hx⟩ : ∃ x, rows[k] = x := ⟨_, rfl⟩
      rw [hx] at hcell hsz
      have HR := hide (fun W => textSpec_any x W hsz)
      cases hxb : textB x
      · rw [hxb] at HR
        have HN : Hid (rows.all textB = false) := by
          show _ = _
          rw [List.all_eq_false]
          exact ⟨rows[k], List.getElem_mem _, by rw [hx, hxb]; decide⟩
        clear hx
        go_wp2_with (first | (go_at_call 38; refine (HR.out _).mono ?_; rintro e w2 ⟨rfl, rfl⟩))
        go_ret
        exact ⟨ret_bool (by rw [HX.out, HN.out]), rfl⟩
      · rw [hxb] at HR
        have HN : Hid ((rows.take (k + 1)).all textB = true) := by
          show _ = _
          rw [List.take_succ_eq_append_getElem hlt, List.all_append, HA.out, hx]
          simp [hxb]
        clear hx
        go_wp2_with (first | (go_at_call 38; refine (HR.out _).mono ?_; rintro e w2 ⟨rfl, rfl⟩))
        go_roundg (rows.length - (k + 1))
        case measure => omega
        case rel => exact ⟨k + 1, by omega, rfl, by go_num, HN.out, rfl⟩
    · obtain rfl : k = rows.length := by omega
      have hki : ¬ (rows.length : Int) < (rows.length : Int) := by omega
      have HN : Hid (rows.all textB = true) := by have := HA.out; rw [List.take_length] at this; exact this
      go_wp2_with fail
      go_ret
      exact ⟨ret_bool (by rw [HX.out, HN.out]), rfl⟩
end Go.Proofs.Ytaalkjbkmkjkpaa.Msg
