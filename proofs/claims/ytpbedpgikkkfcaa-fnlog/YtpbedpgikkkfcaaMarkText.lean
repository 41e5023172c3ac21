import Derived.Test.YtpbedpgikkkfcaaMsgData
import Derived.Laws.BytesArg
namespace Go.Proofs.Ytpbedpgikkkfcaa.Msg
open Go.ChangeShapes Go.WideShapes Go.ChangeAt Go.RowKit
set_option linter.unusedVariables false
set_option linter.unusedSimpArgs false

def digsF : Nat → Nat → List UInt8
  | 0, _ => []
  | f + 1, n => if n = 0 then [] else digsF f (n / 10) ++ [UInt8.ofNat (48 + n % 10)]
def digs (n : Nat) : List UInt8 := digsF n n
theorem digsF_fuel : ∀ (f g n : Nat), n ≤ f → n ≤ g → digsF f n = digsF g n
  | 0, g, n, h1, h2 => by
    obtain rfl : n = 0 := by omega
    cases g <;> simp [digsF]
  | f + 1, 0, n, h1, h2 => by
    obtain rfl : n = 0 := by omega
    simp [digsF]
  | f + 1, g + 1, n, h1, h2 => by
    unfold digsF
    by_cases h : n = 0
    · simp [h]
    · rw [if_neg h, if_neg h, digsF_fuel f g (n / 10) (by omega) (by omega)]
theorem digs_zero : digs 0 = [] := rfl
theorem digs_step (n : Nat) (h : n ≠ 0) : digs n = digs (n / 10) ++ [UInt8.ofNat (48 + n % 10)] := by
  unfold digs
  obtain ⟨m, rfl⟩ : ∃ m, n = m + 1 := ⟨n - 1, by omega⟩
  conv => lhs; unfold digsF
  rw [if_neg h, digsF_fuel m ((m + 1) / 10) ((m + 1) / 10) (by omega) (by omega)]
/-- the mark of number k (from 1) -/
def markT (k : Nat) : ByteArray := ⟨#[109]⟩ ++ ⟨(digs k).toArray⟩
theorem bytes_ext {a b : ByteArray} (h : a.data.toList = b.data.toList) : a = b := by
  cases a; cases b
  simp only [ByteArray.mk.injEq]
  exact Array.toList_inj.1 h
theorem digs_len : ∀ (f n : Nat), n ≤ f → n < 18446744073709551616 → (digs n).length ≤ 20 := by
  intro f n _ h
  have key : ∀ (j n : Nat), n < 10 ^ j → (digs n).length ≤ j := by
    intro j
    induction j with
    | zero => intro n hn; obtain rfl : n = 0 := by omega
              simp [digs_zero]
    | succ j ih =>
      intro n hn
      by_cases h0 : n = 0
      · subst h0; simp [digs_zero]
      · rw [digs_step n h0, List.length_append, List.length_singleton]
        have := ih (n / 10) (by rw [Nat.pow_succ] at hn; omega)
        omega
  exact key 20 n (by omega)

end Go.Proofs.Ytpbedpgikkkfcaa.Msg
