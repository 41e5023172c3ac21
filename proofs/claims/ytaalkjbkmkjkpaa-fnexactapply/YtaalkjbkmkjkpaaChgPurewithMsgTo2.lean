import Derived.Test.YtaalkjbkmkjkpaaRowsImplwithQryNum
import Derived.Lib.Join
import Derived.Test.YtaalkjbkmkjkpaaMsgEq2withMsgTo
namespace Go.Proofs.Ytaalkjbkmkjkpaa.Msg
open Go.ChangeShapes Go.WideShapes Go.ChangeAt Go.RowKit
set_option linter.unusedVariables false
set_option linter.unusedSimpArgs false

/-! changes, over lists -/
structure Chg where
  kind : Int
  client : Int
  tag : ByteArray
  query : ByteArray
  page : Int
  rows : List ByteArray
  n : Int
def chgV (c : Chg) (v : Value) : Value := .agg #[.int .i64 c.kind, .int .i64 c.client, .string c.tag, .string c.query, .int .i64 c.page, v, .int .i64 c.n]
def clientB (c : Int) : Bool := decide (0 ≤ c) && decide (c < 4)
def cursorB (n : Int) : Bool := decide (0 ≤ n) && decide (n ≤ 200)
def noQB (c : Chg) : Bool := decide (c.query.size = 0) && decide (c.page = 0)
def noRowsB (c : Chg) : Bool := decide (c.rows.length = 0)
def noNB (c : Chg) : Bool := decide (c.n = 0)
/-- what a kind asks for, and what it leaves empty -/
def kindB (c : Chg) : Bool :=
  if c.kind = 1 then (textB c.query && pageB c.page) && (noRowsB c && noNB c)
  else if c.kind = 2 then rowsB c.rows 200 && (noQB c && noNB c)
  else if c.kind = 4 then cursorB c.n && (noQB c && noRowsB c)
  else if c.kind = 3 ∨ c.kind = 5 ∨ c.kind = 6 then noQB c && (noRowsB c && noNB c)
  else false
def chgB (c : Chg) : Bool := (clientB c.client && tagB c.tag) && kindB c
/-- the parts behind the first -/
def chgMore (c : Chg) : List (List UInt8) :=
  if c.kind = 1 then [c.query.data.toList, Lib.decDigits c.page.toNat]
  else if c.kind = 2 then c.rows.map (·.data.toList)
  else if c.kind = 4 then [Lib.decDigits c.n.toNat]
  else []
def chgParts (c : Chg) : List (List UInt8) := Lib.decDigits c.kind.toNat :: Lib.decDigits c.client.toNat :: c.tag.data.toList :: chgMore c
def encL (c : Chg) : List UInt8 := Lib.join (chgParts c) [10]
/-- what EncodeChange gives -/
def encB (c : Chg) : ByteArray := if chgB c then ⟨(encL c).toArray⟩ else ⟨#[]⟩

def tailNL (ps : List (List UInt8)) : List UInt8 := Lib.joinTail [10] ps
theorem encL_eq (c : Chg) : encL c = Lib.decDigits c.kind.toNat ++ (10 :: Lib.decDigits c.client.toNat) ++ (10 :: c.tag.data.toList) ++ tailNL (chgMore c) := by
  unfold encL chgParts tailNL
  rw [Lib.join_cons]
  simp [Lib.joinTail]
theorem chgB_kind {c : Chg} (h : chgB c = true) : 1 ≤ c.kind ∧ c.kind ≤ 6 := by
  unfold chgB at h
  rw [Bool.and_eq_true] at h
  have h := h.2
  unfold kindB at h
  split at h
  · omega
  split at h
  · omega
  split at h
  · omega
  split at h
  · omega
  · cases h
theorem chgB_client {c : Chg} (h : chgB c = true) : 0 ≤ c.client ∧ c.client < 4 := by
  unfold chgB at h
  rw [Bool.and_eq_true, Bool.and_eq_true] at h
  have := h.1.1
  simpa [clientB] using this
theorem chgB_tag {c : Chg} (h : chgB c = true) : tagB c.tag = true := by
  unfold chgB at h
  rw [Bool.and_eq_true, Bool.and_eq_true] at h
  exact h.1.2
theorem textB_size {s : ByteArray} (h : textB s = true) : s.size ≤ 200 := by
  unfold textB boundB at h
  simp at h
  omega
theorem tagB_size {s : ByteArray} (h : tagB s = true) : s.size ≤ 16 := by
  unfold tagB boundB at h
  simp at h
  omega
theorem rowsB_size {rows : List ByteArray} {m : Nat} (h : rowsB rows m = true) : rows.length ≤ m ∧ ∀ r ∈ rows, r.size ≤ 200 := by
  unfold rowsB at h
  simp at h
  exact ⟨h.1, fun r hr => textB_size (h.2 r hr)⟩
/-- a change in order is one of four sorts -/
theorem chgB_cases {c : Chg} (h : chgB c = true) :
    (c.kind = 1 ∧ c.query.size ≤ 200 ∧ 1 ≤ c.page ∧ c.page ≤ 50 ∧ c.rows = [] ∧ c.n = 0) ∨
    (c.kind = 2 ∧ c.query.size = 0 ∧ c.page = 0 ∧ c.rows.length ≤ 200 ∧ (∀ r ∈ c.rows, r.size ≤ 200) ∧ c.n = 0) ∨
    (c.kind = 4 ∧ c.query.size = 0 ∧ c.page = 0 ∧ c.rows = [] ∧ 0 ≤ c.n ∧ c.n ≤ 200) ∨
    ((c.kind = 3 ∨ c.kind = 5 ∨ c.kind = 6) ∧ c.query.size = 0 ∧ c.page = 0 ∧ c.rows = [] ∧ c.n = 0) := by
  unfold chgB at h
  rw [Bool.and_eq_true] at h
  have h := h.2
  unfold kindB at h
  split at h
  · simp only [Bool.and_eq_true, pageB, noRowsB, noNB, decide_eq_true_eq] at h
    exact .inl ⟨by assumption, textB_size h.1.1, h.1.2.1, h.1.2.2, List.length_eq_zero_iff.1 h.2.1, h.2.2⟩
  split at h
  · simp only [Bool.and_eq_true, noQB, noNB, decide_eq_true_eq] at h
    exact .inr (.inl ⟨by assumption, h.2.1.1, h.2.1.2, (rowsB_size h.1).1, (rowsB_size h.1).2, h.2.2⟩)
  split at h
  · simp only [Bool.and_eq_true, cursorB, noQB, noRowsB, decide_eq_true_eq] at h
    exact .inr (.inr (.inl ⟨by assumption, h.2.1.1, h.2.1.2, List.length_eq_zero_iff.1 h.2.2, h.1.1, h.1.2⟩))
  split at h
  · simp only [Bool.and_eq_true, noQB, noRowsB, noNB, decide_eq_true_eq] at h
    exact .inr (.inr (.inr ⟨by assumption, h.1.1, h.1.2, List.length_eq_zero_iff.1 h.2.1, h.2.2⟩))
  · cases h
end Go.Proofs.Ytaalkjbkmkjkpaa.Msg

namespace Go.Proofs.Ytaalkjbkmkjkpaa.Msg
open Go.ChangeShapes Go.WideShapes Go.ChangeAt Go.RowKit
set_option linter.unusedVariables false
set_option linter.unusedSimpArgs false

theorem bcells {W w1 : World} (hb : Below W.heap.size W w1) : (∀ b o, b < W.heap.size → w1.cell? ⟨b, o, none⟩ = W.cell? ⟨b, o, none⟩) ∧ (∀ b o, b < W.heap.size → w1.frozen? ⟨b, o, none⟩ = W.frozen? ⟨b, o, none⟩) :=
  ⟨fun b o h => hb.cell (p := ⟨b, o, none⟩) h, fun b o h => hb.frozen (p := ⟨b, o, none⟩) h⟩

theorem Same.setCell {lo : Nat} {w w' : World} (h : Same lo w w') {b o : Nat} (hb : b < lo) (v : Value) : Same lo w (w'.setCell ⟨b, o, none⟩ v) :=
  ⟨by rw [Deep.nblk_setCell]; exact h.1, fun k h1 h2 => by rw [Deep.blk_setCell_other _ _ _ _ (by simp; omega)]; exact h.2 k h1 h2⟩
theorem Same.drew {lo : Nat} {w w' : World} (h : Same lo w w') : Same lo w w'.drew := h

/-- the state of a loop that fills a row of new elements, one cell each -/
def Filling {α : Type} (A : Nat → World → Value → α → Prop) (w : World) (t : TypeId) (xs : List α) (k : Nat) (w1 : World) : Prop :=
  (∃ f, w1.rowIs w.heap.size t xs.length f ∧ ∀ j (h : j < xs.length), j < k → A (w.heap.size + 1) w1 (f j) xs[j]) ∧ Below w.heap.size w w1

theorem filling_step {α : Type} {A : Nat → World → Value → α → Prop} (hsame : ∀ lo w w' v x, A lo w v x → Same lo w w' → A lo w' v x) (hmono : ∀ lo lo' w v x, A lo w v x → lo' ≤ lo → A lo' w v x)
    {w wr w2 : World} {t : TypeId} {xs : List α} {k : Nat} (h : Filling A w t xs k wr) (hb2 : Below wr.heap.size wr w2) (hk : k < xs.length) {u : Value} (hu : A wr.heap.size w2 u xs[k]) :
    Filling A w t xs (k + 1) (w2.setCell ⟨w.heap.size, k, none⟩ u) := by
  obtain ⟨⟨f, hrow, hel⟩, hb⟩ := h
  have hlt := hrow.lt
  have hrow2 := hrow.of_block (hb2.block _ hlt)
  refine ⟨⟨_, hrow2.set k u, fun j hj hjk => ?_⟩, (hb.trans (hb2.mono hb.size)).setCell (by simp) _⟩
  by_cases e : j = k
  · subst e
    rw [if_pos rfl]
    exact hsame _ _ _ _ _ (hmono _ (w.heap.size + 1) _ _ _ hu (by omega)) ((Same.refl _ _).setCell (by omega) _)
  · rw [if_neg e]
    have h1 := hel j hj (by omega)
    exact hsame _ _ _ _ _ (hsame _ _ _ _ _ h1 (Same.of_below hb2)) ((Same.refl _ _).setCell (by omega) _)

theorem reps_of_filling {w w1 : World} {t : TypeId} {xs : List Rep} {cap : Nat} (hl : xs.length ≤ 9223372036854775807) (h : Filling StrsAt w t xs xs.length w1) :
    RepsAt w.heap.size w1 (.slice (some ⟨w.heap.size, 0, none⟩) xs.length cap) xs := by
  obtain ⟨⟨f, hrow, hel⟩, hb⟩ := h
  exact ⟨hl, .inr ⟨_, 0, cap, rfl, ⟨Nat.le_refl _, hrow.lt⟩, fun i hi => ⟨f i, by have := hrow.cell hi; simpa using this, At.mono mono_str (hel i hi hi) (by omega)⟩⟩⟩

end Go.Proofs.Ytaalkjbkmkjkpaa.Msg
