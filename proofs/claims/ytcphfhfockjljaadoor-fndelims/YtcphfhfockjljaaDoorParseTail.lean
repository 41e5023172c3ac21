import Derived.Test.YtcphfhfockjljaaDoorParseAllwithParseHeadwithParseHead2
import Derived.Test.YtcphfhfockjljaaDoorOutBox
import Derived.Deep.DeepCutAuto
import Derived.Deep.RegionLaw
import Derived.Deep.AppendLies
namespace Go.Proofs.YtcphfhfockjljaaDoor.Msg
open Go.ChangeShapes Go.WideShapes Go.ChangeAt Go.RowKit
set_option linter.unusedVariables false
set_option linter.unusedSimpArgs false

/-- the head is in order -/
theorem head_parts {s : ByteArray} (h : headB s = true) : 8 ≤ s.size ∧ ((s.extract 0 3).toList == [77, 83, 72]) = true ∧ delimsB (s.extract 3 8) = true ∧ (s.size ≤ 8 ∨ ∃ h8 : 8 < s.size, s[8].toNat = 13 ∨ s[8].toNat = s[3].toNat) := by
  unfold headB at h
  simp only [Bool.and_eq_true, Bool.or_eq_true, decide_eq_true_eq] at h
  obtain ⟨h1, h2, h3, h4⟩ := h
  refine ⟨h1, h2, h3, ?_⟩
  by_cases h8 : s.size ≤ 8
  · exact .inl h8
  · right
    have h8' : 8 < s.size := by omega
    refine ⟨h8', ?_⟩
    have e8 : s.data.toList[8]? = some s[8] := by rw [List.getElem?_eq_getElem (by simpa using h8')]; rfl
    have e3 : s.data.toList[3]? = some s[3] := by rw [List.getElem?_eq_getElem (by simp; omega)]; rfl
    rcases h4 with h4 | h4
    · exact absurd h4 h8
    · rw [e8, e3] at h4
      rcases h4 with h4 | h4
      · left
        have := beq_iff_eq.1 h4
        injection this with this
        rw [this]; rfl
      · right
        have := beq_iff_eq.1 h4
        injection this with this
        rw [this]

end Go.Proofs.YtcphfhfockjljaaDoor.Msg
