import Derived.Test.YtjpdgcodjnnljaaMsgWritten
namespace Go.Proofs.Ytjpdgcodjnnljaa.Msg
set_option linter.unusedVariables false
set_option linter.unusedSimpArgs false

/-- B with W written behind it, or, where that is too long, a text that is too long as well -/
def Wr (B W R : List UInt8) : Prop := ((B ++ W).length ≤ 40000 ∧ R = B ++ W) ∨ (40000 < (B ++ W).length ∧ 40000 < R.length ∧ R.length ≤ (B ++ W).length)
theorem Wr.le {B W R : List UInt8} (h : Wr B W R) : R.length ≤ (B ++ W).length := by
  rcases h with ⟨_, rfl⟩ | ⟨_, _, h⟩
  · exact Nat.le_refl _
  · exact h
theorem Wr.eq {B W R : List UInt8} (h : Wr B W R) (hl : (B ++ W).length ≤ 40000) : R = B ++ W := by
  rcases h with ⟨_, h⟩ | ⟨h, _⟩
  · exact h
  · omega
theorem Wr.long {B W R : List UInt8} (h : Wr B W R) (hl : 40000 < (B ++ W).length) : 40000 < R.length := by
  rcases h with ⟨h, _⟩ | ⟨_, h, _⟩
  · omega
  · exact h
theorem Wr.nil (B : List UInt8) : Wr B [] B := by
  unfold Wr
  rw [List.append_nil]
  by_cases h : B.length ≤ 40000
  · exact .inl ⟨h, rfl⟩
  · exact .inr ⟨by omega, by omega, Nat.le_refl _⟩
theorem Wr.full (B W : List UInt8) : Wr B W (B ++ W) := by
  unfold Wr
  by_cases h : (B ++ W).length ≤ 40000
  · exact .inl ⟨h, rfl⟩
  · exact .inr ⟨by omega, by omega, Nat.le_refl _⟩
theorem Wr.stay (B W : List UInt8) (h : 40000 < B.length) : Wr B W B := by
  refine .inr ⟨?_, h, ?_⟩ <;> rw [List.length_append] <;> omega
theorem Wr.trans {B W1 R1 W2 R2 : List UInt8} (h1 : Wr B W1 R1) (h2 : Wr R1 W2 R2) : Wr B (W1 ++ W2) R2 := by
  rcases h1 with ⟨a, rfl⟩ | ⟨a, b, c⟩
  · unfold Wr at h2 ⊢
    rw [List.append_assoc] at h2
    exact h2
  · have hl : 40000 < (R1 ++ W2).length := by rw [List.length_append]; omega
    have h3 := h2.long hl
    have h4 := h2.le
    rw [List.length_append] at h4 a c
    refine .inr ⟨?_, h3, ?_⟩ <;> rw [List.length_append, List.length_append] <;> omega
theorem Wr.cast {B W W' R : List UInt8} (h : Wr B W R) (e : W = W') : Wr B W' R := e ▸ h
end Go.Proofs.Ytjpdgcodjnnljaa.Msg
