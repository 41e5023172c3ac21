import Derived.Test.YtpmnepalchgcbaaGreatDoorRows
import Derived.WalkKit
import Derived.ProofKit
import Derived.OpenShut
import Derived.Below
namespace Go.Proofs.YtpmnepalchgcbaaGreatDoor.Msg
open Go.ChangeShapes Go.WideShapes Go.ChangeAt Go.RowKit

theorem hide {p : Prop} (h : p) : Hid p := h
theorem ret_int {k : IntKind} {a b : Int} (h : a = b) : Ending.returned (.int k a) = .returned (.int k b) := by rw [h]
theorem ret_bool {a b : Bool} (h : a = b) : Ending.returned (.bool a) = .returned (.bool b) := by rw [h]
theorem ret_string {a b : ByteArray} (h : a = b) : Ending.returned (.string a) = .returned (.string b) := by rw [h]

abbrev Rep := List ByteArray
abbrev Field := List Rep
structure Seg where
  name : ByteArray
  fields : List Field

/-- A slice that reads as a list: nil, or a row of 'n' cells an element, each element read by 'R'; its blocks have numbers from 'lo' on. -/
def At {α : Type} (n : Nat) (R : Nat → World → Nat → Nat → α → Prop) (lo : Nat) (w : World) (v : Value) (xs : List α) : Prop :=
  xs.length ≤ 9223372036854775807 ∧ ((∃ a cap, v = .slice a 0 cap ∧ xs = []) ∨
    ∃ b off cap, v = .slice (some ⟨b, off, none⟩) xs.length cap ∧ (lo ≤ b ∧ b < w.heap.size) ∧ ∀ i (h : i < xs.length), R lo w b (off + i * n) xs[i])

def StrR (_ : Nat) (w : World) (b off : Nat) (x : ByteArray) : Prop := w.cell? ⟨b, off, none⟩ = some (.string x) ∧ x.size ≤ 9223372036854775807
def StrsAt : Nat → World → Value → List ByteArray → Prop := At 1 StrR
def RepR (lo : Nat) (w : World) (b off : Nat) (x : Rep) : Prop := ∃ v, w.cell? ⟨b, off, none⟩ = some v ∧ StrsAt lo w v x
def RepsAt : Nat → World → Value → List Rep → Prop := At 1 RepR
def FieldR (lo : Nat) (w : World) (b off : Nat) (x : Field) : Prop := ∃ v, w.cell? ⟨b, off, none⟩ = some v ∧ RepsAt lo w v x
def FieldsAt : Nat → World → Value → List Field → Prop := At 1 FieldR
def SegR (lo : Nat) (w : World) (b off : Nat) (x : Seg) : Prop :=
  w.cell? ⟨b, off, none⟩ = some (.string x.name) ∧ x.name.size ≤ 9223372036854775807 ∧ ∃ v, w.cell? ⟨b, off + 1, none⟩ = some v ∧ FieldsAt lo w v x.fields
def SegsAt : Nat → World → Value → List Seg → Prop := At 2 SegR

/-- The blocks from lo on that were there are as they were. -/
def Same (lo : Nat) (w w' : World) : Prop := w.heap.size ≤ w'.heap.size ∧ ∀ b, lo ≤ b → b < w.heap.size → w'.heap[b]? = w.heap[b]?
theorem Same.cell {lo : Nat} {w w' : World} (h : Same lo w w') {b o : Nat} (h1 : lo ≤ b) (h2 : b < w.heap.size) : w'.cell? ⟨b, o, none⟩ = w.cell? ⟨b, o, none⟩ := by
  have e := h.2 b h1 h2
  simp only [World.cell?, e]
theorem Same.of_below {lo : Nat} {w w' : World} (h : Below w.heap.size w w') : Same lo w w' := ⟨h.size, fun b _ h2 => h.block b h2⟩
theorem Same.refl (lo : Nat) (w : World) : Same lo w w := ⟨Nat.le_refl _, fun _ _ _ => rfl⟩
theorem Same.trans {lo : Nat} {a b c : World} (h : Same lo a b) (k : Same lo b c) : Same lo a c :=
  ⟨Nat.le_trans h.1 k.1, fun x h1 h2 => (k.2 x h1 (Nat.lt_of_lt_of_le h2 h.1)).trans (h.2 x h1 h2)⟩
theorem Same.mono {lo lo' : Nat} {w w' : World} (h : Same lo w w') (hl : lo ≤ lo') : Same lo' w w' := ⟨h.1, fun b h1 h2 => h.2 b (Nat.le_trans hl h1) h2⟩

/-- What is read from lo on stays read. -/
def Kept {α : Type} (R : Nat → World → Nat → Nat → α → Prop) : Prop := ∀ lo w w' b off x, R lo w b off x → lo ≤ b → b < w.heap.size → Same lo w w' → R lo w' b off x
def Mono {α : Type} (R : Nat → World → Nat → Nat → α → Prop) : Prop := ∀ lo lo' w b off x, R lo w b off x → lo' ≤ lo → R lo' w b off x

theorem At.same {α : Type} {n : Nat} {R : Nat → World → Nat → Nat → α → Prop} (K : Kept R) {lo : Nat} {w w' : World} {v : Value} {xs : List α} (h : At n R lo w v xs) (hb : Same lo w w') : At n R lo w' v xs := by
  obtain ⟨hl, h⟩ := h
  refine ⟨hl, ?_⟩
  rcases h with h | ⟨b, off, cap, rfl, hlt, h⟩
  · exact .inl h
  · exact .inr ⟨b, off, cap, rfl, ⟨hlt.1, Nat.lt_of_lt_of_le hlt.2 hb.1⟩, fun i hi => K _ _ _ _ _ _ (h i hi) hlt.1 hlt.2 hb⟩
theorem At.kept {α : Type} {n : Nat} {R : Nat → World → Nat → Nat → α → Prop} (K : Kept R) {lo : Nat} {w w' : World} {v : Value} {xs : List α} (h : At n R lo w v xs) (hb : Below w.heap.size w w') : At n R lo w' v xs :=
  At.same K h (Same.of_below hb)
theorem At.mono {α : Type} {n : Nat} {R : Nat → World → Nat → Nat → α → Prop} (K : Mono R) {lo lo' : Nat} {w : World} {v : Value} {xs : List α} (h : At n R lo w v xs) (hl : lo' ≤ lo) : At n R lo' w v xs := by
  obtain ⟨hs, h⟩ := h
  refine ⟨hs, ?_⟩
  rcases h with h | ⟨b, off, cap, rfl, hlt, h⟩
  · exact .inl h
  · exact .inr ⟨b, off, cap, rfl, ⟨Nat.le_trans hl hlt.1, hlt.2⟩, fun i hi => K _ _ _ _ _ _ (h i hi) hl⟩

theorem kept_str : Kept StrR := fun lo w w' b off x h h1 h2 hb => ⟨by rw [hb.cell h1 h2]; exact h.1, h.2⟩
theorem kept_rep : Kept RepR := fun lo w w' b off x h h1 h2 hb => by
  obtain ⟨v, g1, g2⟩ := h
  exact ⟨v, by rw [hb.cell h1 h2]; exact g1, At.same kept_str g2 hb⟩
theorem kept_field : Kept FieldR := fun lo w w' b off x h h1 h2 hb => by
  obtain ⟨v, g1, g2⟩ := h
  exact ⟨v, by rw [hb.cell h1 h2]; exact g1, At.same kept_rep g2 hb⟩
theorem kept_seg : Kept SegR := fun lo w w' b off x h h1 h2 hb => by
  obtain ⟨g0, hs, v, g1, g2⟩ := h
  exact ⟨by rw [hb.cell h1 h2]; exact g0, hs, v, by rw [hb.cell h1 h2]; exact g1, At.same kept_field g2 hb⟩
theorem mono_str : Mono StrR := fun _ _ _ _ _ _ h _ => h
theorem mono_rep : Mono RepR := fun _ _ _ _ _ _ h hl => let ⟨v, g1, g2⟩ := h; ⟨v, g1, At.mono mono_str g2 hl⟩
theorem mono_field : Mono FieldR := fun _ _ _ _ _ _ h hl => let ⟨v, g1, g2⟩ := h; ⟨v, g1, At.mono mono_rep g2 hl⟩
theorem mono_seg : Mono SegR := fun _ _ _ _ _ _ h hl => let ⟨g0, hs, v, g1, g2⟩ := h; ⟨g0, hs, v, g1, At.mono mono_field g2 hl⟩

/-! sizes, as the laws count them -/
def sumOf {α : Type} (f : α → Nat) (xs : List α) : Nat := (xs.map f).sum
def lenSum {α : Type} (f : α → Nat) (xs : List α) : Nat := xs.length + sumOf f xs
def strSz (x : ByteArray) : Nat := x.size
def repSz (x : Rep) : Nat := lenSum strSz x
def fieldSz (x : Field) : Nat := lenSum repSz x
def segSz (x : Seg) : Nat := x.name.size + lenSum fieldSz x.fields
def msgSz (x : List Seg) : Nat := lenSum segSz x
/-- what is left of 'left' behind n, -1 if nothing is -/
def rest (left : Int) (n : Nat) : Int := if (n : Int) ≤ left then left - n else -1
theorem rest_yes {left : Int} {n : Nat} (h : (n : Int) ≤ left) : rest left n = left - n := if_pos h
theorem rest_no {left : Int} {n : Nat} (h : ¬ (n : Int) ≤ left) : rest left n = -1 := if_neg h
theorem rest_le {left : Int} {n : Nat} (h0 : 0 ≤ left) : rest left n ≤ left := by unfold rest; split <;> omega
theorem rest_ge (left : Int) (n : Nat) : -1 ≤ rest left n := by unfold rest; split <;> omega

theorem sum_take {α : Type} (f : α → Nat) (xs : List α) (k : Nat) (h : k < xs.length) : sumOf f (xs.take (k + 1)) = sumOf f (xs.take k) + f xs[k] := by
  unfold sumOf
  rw [List.take_succ_eq_append_getElem h, List.map_append, List.sum_append]
  simp
theorem sum_le {α : Type} (f : α → Nat) (xs : List α) (k : Nat) : sumOf f (xs.take k) ≤ sumOf f xs := by
  unfold sumOf
  conv => rhs; rw [← List.take_append_drop k xs]
  rw [List.map_append, List.sum_append]
  omega
theorem sum_all {α : Type} (f : α → Nat) (xs : List α) (k : Nat) (h : xs.length ≤ k) : sumOf f (xs.take k) = sumOf f xs := by rw [List.take_of_length_le h]
end Go.Proofs.YtpmnepalchgcbaaGreatDoor.Msg

namespace Go.Proofs.YtpmnepalchgcbaaGreatDoor.Msg
open Go.ChangeShapes Go.WideShapes Go.ChangeAt Go.RowKit

end Go.Proofs.YtpmnepalchgcbaaGreatDoor.Msg

namespace Go.Proofs.YtpmnepalchgcbaaGreatDoor.Msg
open Go.ChangeShapes Go.WideShapes Go.ChangeAt Go.RowKit

theorem bcell {W w1 : World} (hb : Below W.heap.size W w1) : (∀ b o, b < W.heap.size → w1.cell? ⟨b, o, none⟩ = W.cell? ⟨b, o, none⟩) :=
  fun b o h => hb.cell (p := ⟨b, o, none⟩) h

end Go.Proofs.YtpmnepalchgcbaaGreatDoor.Msg
