import Derived.Test.YtebdfmijlnkcbaaDoorParseData
namespace Go.Proofs.YtebdfmijlnkcbaaDoor.Msg
set_option linter.unusedVariables false
set_option linter.unusedSimpArgs false

/-! the first piece -/
theorem cutGo_skip (c : UInt8) : ∀ (a b cur : List UInt8), (∀ x ∈ a, x ≠ c) → cutGo c cur (a ++ b) = cutGo c (cur ++ a) b
  | [], b, cur, _ => by simp
  | x :: a, b, cur, h => by
    rw [List.cons_append]
    conv => lhs; unfold cutGo
    rw [if_neg (h x (by simp)), cutGo_skip c a b (cur ++ [x]) (fun y hy => h y (by simp [hy]))]
    simp
theorem cutGo_head (c : UInt8) : ∀ (l cur : List UInt8), ∃ t ts, cutGo c cur l = (cur ++ t) :: ts
  | [], cur => ⟨[], [], by simp [cutGo]⟩
  | x :: l, cur => by
    unfold cutGo
    split
    · exact ⟨[], cutGo c [] l, by simp⟩
    · obtain ⟨t, ts, h⟩ := cutGo_head c l (cur ++ [x])
      exact ⟨x :: t, ts, by rw [h]; simp⟩
theorem cutL_head (c : UInt8) (a b : List UInt8) (h : ∀ x ∈ a, x ≠ c) : ∃ t ts, cutL c (a ++ b) = (a ++ t) :: ts := by
  unfold cutL
  rw [cutGo_skip c a b [] h]
  obtain ⟨t, ts, h2⟩ := cutGo_head c b ([] ++ a)
  exact ⟨t, ts, by rw [h2]; simp⟩
end Go.Proofs.YtebdfmijlnkcbaaDoor.Msg
