import Derived.Test.YtpdnocolmghnbaaDoorImplOk
namespace Go.Proofs.YtpdnocolmghnbaaDoor.Msg
open Go.ChangeShapes Go.WideShapes Go.ChangeAt Go.RowKit
set_option linter.unusedVariables false
set_option linter.unusedSimpArgs false

theorem toList_size (s : ByteArray) : s.toList.length = s.size := by rw [ByteArray.toList_eq]; simp
theorem isEmptyText_any (s : ByteArray) (w : World) :
    Calls Tryd.prog 60 #[.string s] w fun e w' => e = .returned (.bool (decide (s.size = 0))) ∧ w' = w := by
  have HE : Hid (s.toList.isEmpty = decide (s.size = 0)) := by
    show s.toList.isEmpty = decide (s.size = 0)
    rw [← toList_size]
    cases s.toList <;> simp
  go_enter Tryd.func60, Tryd.ntmps60
  go_wp2
  go_ret
  exact ⟨ret_bool HE.out, rfl⟩

theorem repIsEmpty_any (a : Option Addr) (n c : Nat) (w : World) :
    Calls Tryd.prog 62 #[.agg #[.slice a n c]] w fun e w' => e = .returned (.bool (decide (n = 0))) ∧ w' = w.alloc (.cells #[.slice a n c] 50) := by
  have HE : Hid (((n : Int) == 0) = decide (n = 0)) := by
    show ((n : Int) == 0) = decide (n = 0)
    by_cases h : n = 0
    · subst h; rfl
    · rw [decide_eq_false h, beq_eq_false_iff_ne]; omega
  go_enter Tryd.func62, Tryd.ntmps62
  go_wp2
  go_ret
  exact ⟨ret_bool HE.out, rfl⟩

theorem fieldIsEmpty_any (a : Option Addr) (n c : Nat) (w : World) :
    Calls Tryd.prog 46 #[.agg #[.slice a n c]] w fun e w' => e = .returned (.bool (decide (n = 0))) ∧ w' = w.alloc (.cells #[.slice a n c] 47) := by
  have HE : Hid (((n : Int) == 0) = decide (n = 0)) := by
    show ((n : Int) == 0) = decide (n = 0)
    by_cases h : n = 0
    · subst h; rfl
    · rw [decide_eq_false h, beq_eq_false_iff_ne]; omega
  go_enter Tryd.func46, Tryd.ntmps46
  go_wp2
  go_ret
  exact ⟨ret_bool HE.out, rfl⟩

/-- a list that is no longer than 'lim' and whose last is not empty -/
def csB {α : Type} (lim : Nat) (f : α → Nat) (xs : List α) : Bool := decide (xs.length ≤ lim) && endB f xs

set_option maxHeartbeats 1000000 in
theorem cutShortS_any (xs : List ByteArray) (lim : Nat) (v : Value) (w : World) {lo : Nat} (hv : StrsAt lo w v xs) (hlim : lim ≤ 1000) :
    Calls Tryd.prog 75 #[v, .int .i64 lim, .func (.func 60) #[] #[]] w fun e w' => e = .returned (.bool (csB lim ByteArray.size xs)) ∧ w' = w := by
  have hl := hv.1
  obtain ⟨a, cap, rfl, hc⟩ := hv.form
  have HR : Hid (csB lim ByteArray.size xs = (decide (xs.length ≤ lim) && endB ByteArray.size xs)) := rfl
  by_cases hle : (xs.length : Int) ≤ (lim : Int)
  · by_cases h0 : xs.length = 0
    · have hz : ((xs.length : Int) == 0) = true := by rw [beq_iff_eq]; omega
      have HX : Hid (csB lim ByteArray.size xs = true) := by rw [HR.out, endB_nil _ _ h0, decide_eq_true (by omega)]; rfl
      clear h0 hc hv
      go_enter Tryd.func75, Tryd.ntmps75
      go_wp2_with fail
      go_ret
      exact ⟨ret_bool HX.out.symm, rfl⟩
    · have hz : ((xs.length : Int) == 0) = false := by rw [beq_eq_false_iff_ne]; omega
      have hi : xs.length - 1 < xs.length := by omega
      obtain ⟨b, off, rfl, _, hbl, hr⟩ := hc (xs.length - 1) hi
      have hlast : w.cell? ⟨b, off + (xs.length - 1), none⟩ = some (.string (xs[xs.length - 1]'hi)) := by simpa using hr.1
      have HE : Hid (endB ByteArray.size xs = decide (0 < (xs[xs.length - 1]'hi).size)) := endB_at ByteArray.size xs (by omega)
      have hn1 : ((xs.length : Int) - 1).toNat = xs.length - 1 := by omega
      have hn2 : ¬ (xs.length : Int) - 1 < 0 := by omega
      clear hr hc hv
      generalize xs[xs.length - 1]'hi = z at *
      have HX : Hid (csB lim ByteArray.size xs = !decide (z.size = 0)) := by
        rw [HR.out, HE.out, decide_eq_true (by omega), Bool.true_and]
        by_cases hq : z.size = 0
        · rw [decide_eq_true hq, decide_eq_false (by omega)]; rfl
        · rw [decide_eq_false hq, decide_eq_true (by omega)]; rfl
      obtain ⟨bz, HB⟩ : ∃ b, Hid (decide (z.size = 0) = b) := ⟨_, rfl⟩
      clear h0
      go_enter Tryd.func75, Tryd.ntmps75
      go_wp2_with fail
      refine (isEmptyText_any z _).mono ?_
      rintro e w' ⟨rfl, rfl⟩
      rw [HB.out]
      go_wp2_with fail
      go_ret
      exact ⟨ret_bool (by rw [HX.out, HB.out]), rfl⟩
  · have HX : Hid (csB lim ByteArray.size xs = false) := by rw [HR.out, decide_eq_false (by omega)]; rfl
    clear hc hv
    go_enter Tryd.func75, Tryd.ntmps75
    go_wp2_with fail
    go_ret
    exact ⟨ret_bool HX.out.symm, rfl⟩
set_option maxHeartbeats 1000000 in
theorem cutShortR_any (xs : List Rep) (lim : Nat) (v : Value) (w : World) {lo : Nat} (hv : RepsAt lo w v xs) (hlim : lim ≤ 1000) :
    Calls Tryd.prog 64 #[v, .int .i64 lim, .func (.func 62) #[] #[]] w fun e w' => e = .returned (.bool (csB lim List.length xs)) ∧ Below w.heap.size w w' := by
  have hl := hv.1
  obtain ⟨a, cap, rfl, hc⟩ := hv.form
  have HR : Hid (csB lim List.length xs = (decide (xs.length ≤ lim) && endB List.length xs)) := rfl
  by_cases hle : (xs.length : Int) ≤ (lim : Int)
  · by_cases h0 : xs.length = 0
    · have hz : ((xs.length : Int) == 0) = true := by rw [beq_iff_eq]; omega
      have HX : Hid (csB lim List.length xs = true) := by rw [HR.out, endB_nil _ _ h0, decide_eq_true (by omega)]; rfl
      clear h0 hc hv
      go_enter Tryd.func64, Tryd.ntmps64
      go_wp2_with fail
      go_ret
      exact ⟨ret_bool HX.out.symm, Below.refl _ _⟩
    · have hz : ((xs.length : Int) == 0) = false := by rw [beq_eq_false_iff_ne]; omega
      have hi : xs.length - 1 < xs.length := by omega
      obtain ⟨b, off, rfl, _, hbl, ve, hcell, hel⟩ := hc (xs.length - 1) hi
      have hlast : w.cell? ⟨b, off + (xs.length - 1), none⟩ = some ve := by simpa using hcell
      obtain ⟨a5, cap5, rfl, _⟩ := hel.form
      have HE : Hid (endB List.length xs = decide (0 < (xs[xs.length - 1]'hi).length)) := endB_at List.length xs (by omega)
      have hn1 : ((xs.length : Int) - 1).toNat = xs.length - 1 := by omega
      have hn2 : ¬ (xs.length : Int) - 1 < 0 := by omega
      clear hcell hel hc hv
      generalize xs[xs.length - 1]'hi = z at *
      have HX : Hid (csB lim List.length xs = !decide (z.length = 0)) := by
        rw [HR.out, HE.out, decide_eq_true (by omega), Bool.true_and]
        by_cases hq : z.length = 0
        · rw [decide_eq_true hq, decide_eq_false (by omega)]; rfl
        · rw [decide_eq_false hq, decide_eq_true (by omega)]; rfl
      obtain ⟨bz, HB⟩ : ∃ b, Hid (decide (z.length = 0) = b) := ⟨_, rfl⟩
      clear h0
      go_enter Tryd.func64, Tryd.ntmps64
      go_wp2_with fail
      refine (repIsEmpty_any _ _ _ _).mono ?_
      rintro e w' ⟨rfl, rfl⟩
      rw [HB.out]
      go_wp2_with fail
      go_ret
      exact ⟨ret_bool (by rw [HX.out, HB.out]), (Below.refl _ _).alloc (Nat.le_refl _) _⟩
  · have HX : Hid (csB lim List.length xs = false) := by rw [HR.out, decide_eq_false (by omega)]; rfl
    clear hc hv
    go_enter Tryd.func64, Tryd.ntmps64
    go_wp2_with fail
    go_ret
    exact ⟨ret_bool HX.out.symm, Below.refl _ _⟩

set_option maxHeartbeats 1000000 in
theorem cutShortF_any (xs : List Field) (lim : Nat) (v : Value) (w : World) {lo : Nat} (hv : FieldsAt lo w v xs) (hlim : lim ≤ 1000) :
    Calls Tryd.prog 45 #[v, .int .i64 lim, .func (.func 46) #[] #[]] w fun e w' => e = .returned (.bool (csB lim List.length xs)) ∧ Below w.heap.size w w' := by
  have hl := hv.1
  obtain ⟨a, cap, rfl, hc⟩ := hv.form
  have HR : Hid (csB lim List.length xs = (decide (xs.length ≤ lim) && endB List.length xs)) := rfl
  by_cases hle : (xs.length : Int) ≤ (lim : Int)
  · by_cases h0 : xs.length = 0
    · have hz : ((xs.length : Int) == 0) = true := by rw [beq_iff_eq]; omega
      have HX : Hid (csB lim List.length xs = true) := by rw [HR.out, endB_nil _ _ h0, decide_eq_true (by omega)]; rfl
      clear h0 hc hv
      go_enter Tryd.func45, Tryd.ntmps45
      go_wp2_with fail
      go_ret
      exact ⟨ret_bool HX.out.symm, Below.refl _ _⟩
    · have hz : ((xs.length : Int) == 0) = false := by rw [beq_eq_false_iff_ne]; omega
      have hi : xs.length - 1 < xs.length := by omega
      obtain ⟨b, off, rfl, _, hbl, ve, hcell, hel⟩ := hc (xs.length - 1) hi
      have hlast : w.cell? ⟨b, off + (xs.length - 1), none⟩ = some ve := by simpa using hcell
      obtain ⟨a5, cap5, rfl, _⟩ := hel.form
      have HE : Hid (endB List.length xs = decide (0 < (xs[xs.length - 1]'hi).length)) := endB_at List.length xs (by omega)
      have hn1 : ((xs.length : Int) - 1).toNat = xs.length - 1 := by omega
      have hn2 : ¬ (xs.length : Int) - 1 < 0 := by omega
      clear hcell hel hc hv
      generalize xs[xs.length - 1]'hi = z at *
      have HX : Hid (csB lim List.length xs = !decide (z.length = 0)) := by
        rw [HR.out, HE.out, decide_eq_true (by omega), Bool.true_and]
        by_cases hq : z.length = 0
        · rw [decide_eq_true hq, decide_eq_false (by omega)]; rfl
        · rw [decide_eq_false hq, decide_eq_true (by omega)]; rfl
      obtain ⟨bz, HB⟩ : ∃ b, Hid (decide (z.length = 0) = b) := ⟨_, rfl⟩
      clear h0
      go_enter Tryd.func45, Tryd.ntmps45
      go_wp2_with fail
      refine (fieldIsEmpty_any _ _ _ _).mono ?_
      rintro e w' ⟨rfl, rfl⟩
      rw [HB.out]
      go_wp2_with fail
      go_ret
      exact ⟨ret_bool (by rw [HX.out, HB.out]), (Below.refl _ _).alloc (Nat.le_refl _) _⟩
  · have HX : Hid (csB lim List.length xs = false) := by rw [HR.out, decide_eq_false (by omega)]; rfl
    clear hc hv
    go_enter Tryd.func45, Tryd.ntmps45
    go_wp2_with fail
    go_ret
    exact ⟨ret_bool HX.out.symm, Below.refl _ _⟩
end Go.Proofs.YtpdnocolmghnbaaDoor.Msg
