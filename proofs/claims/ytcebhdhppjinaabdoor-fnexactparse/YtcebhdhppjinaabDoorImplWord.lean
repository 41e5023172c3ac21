import Derived.Test.YtcebhdhppjinaabDoorImplParseSeg
import Derived.Test.YtcebhdhppjinaabDoorParseSpec
namespace Go.Proofs.YtcebhdhppjinaabDoor.Msg
open Go.ChangeShapes Go.WideShapes Go.ChangeAt Go.RowKit
set_option linter.unusedVariables false
set_option linter.unusedSimpArgs false

def wordB (c : UInt8) : Bool := capB c || (digB c || lowB c)
set_option maxHeartbeats 1000000 in
theorem isWord_any (c : UInt8) (w : World) :
    Calls Tryd.prog 38 #[.int .u8 (c.toNat : Int)] w fun e w' => e = .returned (.bool (wordB c)) ∧ w' = w := by
  have HW : Hid (wordB c = (capB c || (digB c || lowB c))) := rfl
  have HLO : Hid (lowB c = (decide (97 ≤ c.toNat) && decide (c.toNat ≤ 122))) := rfl
  cases hc : capB c
  · have HC := hide hc
    cases hdg : digB c
    · have HD := hide hdg
      have HX : Hid (wordB c = lowB c) := by rw [HW.out, hc, hdg]; rfl
      clear hc hdg
      by_cases h1 : (97 : Int) ≤ (c.toNat : Int)
      · by_cases h2 : (c.toNat : Int) ≤ 122
        · have HL : Hid (lowB c = true) := by rw [HLO.out, decide_eq_true (by omega), decide_eq_true (by omega)]; rfl
          go_enter Tryd.func38, Tryd.ntmps38
          go_wp2_with fail
          refine (isCapital_any c _).mono ?_
          rintro e w2 ⟨rfl, rfl⟩
          rw [HC.out]
          go_wp2_with fail
          refine (isDigit_any c _).mono ?_
          rintro e w2 ⟨rfl, rfl⟩
          rw [HD.out]
          go_wp2_with fail
          go_ret
          exact ⟨ret_bool (by rw [HX.out, HL.out]), rfl⟩
        · have HL : Hid (lowB c = false) := by rw [HLO.out, decide_eq_false (p := c.toNat ≤ 122) (by omega), Bool.and_false]; trivial
          go_enter Tryd.func38, Tryd.ntmps38
          go_wp2_with fail
          refine (isCapital_any c _).mono ?_
          rintro e w2 ⟨rfl, rfl⟩
          rw [HC.out]
          go_wp2_with fail
          refine (isDigit_any c _).mono ?_
          rintro e w2 ⟨rfl, rfl⟩
          rw [HD.out]
          go_wp2_with fail
          go_ret
          exact ⟨ret_bool (by rw [HX.out, HL.out]; simp; omega), rfl⟩
      · have HL : Hid (lowB c = false) := by rw [HLO.out, decide_eq_false (p := 97 ≤ c.toNat) (by omega)]; rfl
        go_enter Tryd.func38, Tryd.ntmps38
        go_wp2_with fail
        refine (isCapital_any c _).mono ?_
        rintro e w2 ⟨rfl, rfl⟩
        rw [HC.out]
        go_wp2_with fail
        refine (isDigit_any c _).mono ?_
        rintro e w2 ⟨rfl, rfl⟩
        rw [HD.out]
        go_wp2_with fail
        go_ret
        exact ⟨ret_bool (by rw [HX.out, HL.out]), rfl⟩
    · have HD := hide hdg
      have HX : Hid (wordB c = true) := by rw [HW.out, hc, hdg]; rfl
      clear hc hdg
      go_enter Tryd.func38, Tryd.ntmps38
      go_wp2_with fail
      refine (isCapital_any c _).mono ?_
      rintro e w2 ⟨rfl, rfl⟩
      rw [HC.out]
      go_wp2_with fail
      refine (isDigit_any c _).mono ?_
      rintro e w2 ⟨rfl, rfl⟩
      rw [HD.out]
      go_wp2_with fail
      go_ret
      exact ⟨ret_bool HX.out.symm, rfl⟩
  · have HC := hide hc
    have HX : Hid (wordB c = true) := by rw [HW.out, hc]; rfl
    clear hc
    go_enter Tryd.func38, Tryd.ntmps38
    go_wp2_with fail
    refine (isCapital_any c _).mono ?_
    rintro e w2 ⟨rfl, rfl⟩
    rw [HC.out]
    go_wp2_with fail
    go_ret
    exact ⟨ret_bool HX.out.symm, rfl⟩

theorem idx_in (l : List UInt8) (c : UInt8) : (Lib.indexByte l c = -1 ∧ l.all (fun y => y != c) = true) ∨ (∃ i : Nat, Lib.indexByte l c = i ∧ l.all (fun y => y != c) = false) := by
  rcases indexByte_parts c l with ⟨h1, h2⟩ | ⟨i, h1, h2, h3, _⟩
  · refine .inl ⟨h1, ?_⟩
    rw [List.all_eq_true]
    intro x hx
    rw [bne_iff_ne]
    exact h2 x hx
  · refine .inr ⟨i, h1, ?_⟩
    rw [List.all_eq_false]
    exact ⟨c, by rw [h3]; simp, by simp⟩

end Go.Proofs.YtcebhdhppjinaabDoor.Msg
