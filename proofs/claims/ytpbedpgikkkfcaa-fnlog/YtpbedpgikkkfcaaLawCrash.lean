import Derived.Test.YtpbedpgikkkfcaaCrashImpl
import Derived.Test.YtpbedpgikkkfcaaMsgTo
import Derived.Test.YtpbedpgikkkfcaaMsgEq
namespace Go.Proofs.Ytpbedpgikkkfcaa.Msg
open Go.ChangeShapes Go.WideShapes Go.ChangeAt Go.RowKit
set_option linter.unusedVariables false
set_option linter.unusedSimpArgs false

def intsRow (xs : List Int) (k : Nat) (j : Nat) : Value := .int .i64 ((xs.take k).getD j 0)
theorem intsRow_step (xs : List Int) (k : Nat) (h : k < xs.length) (j : Nat) : (if j = k then Value.int .i64 xs[k] else intsRow xs k j) = intsRow xs (k + 1) j := by
  unfold intsRow
  by_cases hj : j = k
  · subst hj
    rw [if_pos rfl]
    simp [List.getD_eq_getElem?_getD, List.getElem?_take, h]
  · rw [if_neg hj]
    by_cases hl : j < k
    · simp [List.getD_eq_getElem?_getD, List.getElem?_take, hl, Nat.lt_succ_of_lt hl]
    · have h2 : ¬ j < k + 1 := by omega
      simp [List.getD_eq_getElem?_getD, List.getElem?_take, hl, h2]
theorem intsRow_at (xs : List Int) (j : Nat) (h : j < xs.length) : intsRow xs xs.length j = .int .i64 xs[j] := by
  unfold intsRow
  simp [List.getD_eq_getElem?_getD, h]
theorem ints_of_row {w : World} {B : Nat} {t : TypeId} {xs : List Int} {cap : Nat} (hl : xs.length ≤ 9223372036854775807) (h : w.rowIs B t xs.length (intsRow xs xs.length)) : IntsAt B w (.slice (some ⟨B, 0, none⟩) xs.length cap) xs :=
  ⟨hl, .inr ⟨B, 0, cap, rfl, ⟨Nat.le_refl _, h.lt⟩, fun i hi => by have := h.cell hi; rw [intsRow_at xs i hi] at this; unfold IntR; simpa using this⟩⟩
theorem info_int : (Try.prog.info? 3).map (fun i => (i.zero, i.size, i.bytes)) = some (some (.int .i64 0), 1, 8) := by kernel_rfl

def diskV (S N : ByteArray) : Value := .agg #[.string S, .string N]
end Go.Proofs.Ytpbedpgikkkfcaa.Msg
