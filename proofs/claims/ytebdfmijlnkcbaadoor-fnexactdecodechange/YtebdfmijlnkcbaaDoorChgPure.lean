import Derived.Test.YtebdfmijlnkcbaaDoorRowsImpl
import Derived.Test.YtebdfmijlnkcbaaDoorQryNum
import Derived.Lib.Join
namespace Go.Proofs.YtebdfmijlnkcbaaDoor.Msg
open Go.ChangeShapes Go.WideShapes Go.ChangeAt Go.RowKit
set_option linter.unusedVariables false
set_option linter.unusedSimpArgs false

/-! changes, over lists -/
structure Chg where
  kind : Int
  client : Int
  tag : ByteArray
  query : ByteArray
  page : Int
  rows : List ByteArray
  n : Int
def chgV (c : Chg) (v : Value) : Value := .agg #[.int .i64 c.kind, .int .i64 c.client, .string c.tag, .string c.query, .int .i64 c.page, v, .int .i64 c.n]
def clientB (c : Int) : Bool := decide (0 ≤ c) && decide (c < 4)
def cursorB (n : Int) : Bool := decide (0 ≤ n) && decide (n ≤ 200)
def noQB (c : Chg) : Bool := decide (c.query.size = 0) && decide (c.page = 0)
def noRowsB (c : Chg) : Bool := decide (c.rows.length = 0)
def noNB (c : Chg) : Bool := decide (c.n = 0)
/-- what a kind asks for, and what it leaves empty -/
def kindB (c : Chg) : Bool :=
  if c.kind = 1 then (textB c.query && pageB c.page) && (noRowsB c && noNB c)
  else if c.kind = 2 then rowsB c.rows 200 && (noQB c && noNB c)
  else if c.kind = 4 then cursorB c.n && (noQB c && noRowsB c)
  else if c.kind = 3 ∨ c.kind = 5 ∨ c.kind = 6 then noQB c && (noRowsB c && noNB c)
  else false
def chgB (c : Chg) : Bool := (clientB c.client && tagB c.tag) && kindB c
/-- the parts behind the first -/
def chgMore (c : Chg) : List (List UInt8) :=
  if c.kind = 1 then [c.query.data.toList, Lib.decDigits c.page.toNat]
  else if c.kind = 2 then c.rows.map (·.data.toList)
  else if c.kind = 4 then [Lib.decDigits c.n.toNat]
  else []
def chgParts (c : Chg) : List (List UInt8) := Lib.decDigits c.kind.toNat :: Lib.decDigits c.client.toNat :: c.tag.data.toList :: chgMore c
def encL (c : Chg) : List UInt8 := Lib.join (chgParts c) [10]
/-- what EncodeChange gives -/
def encB (c : Chg) : ByteArray := if chgB c then ⟨(encL c).toArray⟩ else ⟨#[]⟩

def tailNL (ps : List (List UInt8)) : List UInt8 := Lib.joinTail [10] ps
theorem encL_eq (c : Chg) : encL c = Lib.decDigits c.kind.toNat ++ (10 :: Lib.decDigits c.client.toNat) ++ (10 :: c.tag.data.toList) ++ tailNL (chgMore c) := by
  unfold encL chgParts tailNL
  rw [Lib.join_cons]
  simp [Lib.joinTail]
theorem chgB_kind {c : Chg} (h : chgB c = true) : 1 ≤ c.kind ∧ c.kind ≤ 6 := by
  unfold chgB at h
  rw [Bool.and_eq_true] at h
  have h := h.2
  unfold kindB at h
  split at h
  · omega
  split at h
  · omega
  split at h
  · omega
  split at h
  · omega
  · cases h
theorem chgB_client {c : Chg} (h : chgB c = true) : 0 ≤ c.client ∧ c.client < 4 := by
  unfold chgB at h
  rw [Bool.and_eq_true, Bool.and_eq_true] at h
  have := h.1.1
  simpa [clientB] using this
theorem chgB_tag {c : Chg} (h : chgB c = true) : tagB c.tag = true := by
  unfold chgB at h
  rw [Bool.and_eq_true, Bool.and_eq_true] at h
  exact h.1.2
theorem textB_size {s : ByteArray} (h : textB s = true) : s.size ≤ 200 := by
  unfold textB boundB at h
  simp at h
  omega
theorem tagB_size {s : ByteArray} (h : tagB s = true) : s.size ≤ 16 := by
  unfold tagB boundB at h
  simp at h
  omega
theorem rowsB_size {rows : List ByteArray} {m : Nat} (h : rowsB rows m = true) : rows.length ≤ m ∧ ∀ r ∈ rows, r.size ≤ 200 := by
  unfold rowsB at h
  simp at h
  exact ⟨h.1, fun r hr => textB_size (h.2 r hr)⟩
/-- a change in order is one of four sorts -/
theorem chgB_cases {c : Chg} (h : chgB c = true) :
    (c.kind = 1 ∧ c.query.size ≤ 200 ∧ 1 ≤ c.page ∧ c.page ≤ 50 ∧ c.rows = [] ∧ c.n = 0) ∨
    (c.kind = 2 ∧ c.query.size = 0 ∧ c.page = 0 ∧ c.rows.length ≤ 200 ∧ (∀ r ∈ c.rows, r.size ≤ 200) ∧ c.n = 0) ∨
    (c.kind = 4 ∧ c.query.size = 0 ∧ c.page = 0 ∧ c.rows = [] ∧ 0 ≤ c.n ∧ c.n ≤ 200) ∨
    ((c.kind = 3 ∨ c.kind = 5 ∨ c.kind = 6) ∧ c.query.size = 0 ∧ c.page = 0 ∧ c.rows = [] ∧ c.n = 0) := by
  unfold chgB at h
  rw [Bool.and_eq_true] at h
  have h := h.2
  unfold kindB at h
  split at h
  · simp only [Bool.and_eq_true, pageB, noRowsB, noNB, decide_eq_true_eq] at h
    exact .inl ⟨by assumption, textB_size h.1.1, h.1.2.1, h.1.2.2, List.length_eq_zero_iff.1 h.2.1, h.2.2⟩
  split at h
  · simp only [Bool.and_eq_true, noQB, noNB, decide_eq_true_eq] at h
    exact .inr (.inl ⟨by assumption, h.2.1.1, h.2.1.2, (rowsB_size h.1).1, (rowsB_size h.1).2, h.2.2⟩)
  split at h
  · simp only [Bool.and_eq_true, cursorB, noQB, noRowsB, decide_eq_true_eq] at h
    exact .inr (.inr (.inl ⟨by assumption, h.2.1.1, h.2.1.2, List.length_eq_zero_iff.1 h.2.2, h.1.1, h.1.2⟩))
  split at h
  · simp only [Bool.and_eq_true, noQB, noRowsB, noNB, decide_eq_true_eq] at h
    exact .inr (.inr (.inr ⟨by assumption, h.1.1, h.1.2, List.length_eq_zero_iff.1 h.2.1, h.2.2⟩))
  · cases h
end Go.Proofs.YtebdfmijlnkcbaaDoor.Msg
