import Derived.Test.YtodpipjfdaapaaaBufEscwithMsgText
import Derived.Test.YtodpipjfdaapaaaMsgEq2withMsgTo
import Derived.Deep.LoopGhost
import Derived.Deep.DeepCutAuto
namespace Go.Proofs.Ytodpipjfdaapaaa.Msg
open Go.ChangeShapes Go.WideShapes Go.ChangeAt Go.RowKit
set_option linter.unusedVariables false
set_option linter.unusedSimpArgs false

theorem Buf.empty (base : Nat) (w : World) (hb : base ≤ w.heap.size) : Buf base (w.alloc (.cells #[] 5)) (.slice (some ⟨w.heap.size, 0, none⟩) 0 0) [] := by
  have := World.ownsRow_lit (base := base) (e := 5) (size := 1) w #[] 0 hb (by unfold maxLen; omega) rfl
  exact this
theorem Buf.lt {base : Nat} {w : World} {v : Value} {bs : List UInt8} (h : Buf base w v bs) {b : Nat} (hb : w.heap.size ≤ b) : v.ownBlock ≠ some b := by
  obtain ⟨_, ⟨rfl, _⟩ | ⟨g, cap, cur, rfl, hg, hs, _⟩⟩ := h
  · simp [Value.ownBlock]
  · have : g < w.heap.size := by
      rw [Array.getElem?_eq_some_iff] at hs
      exact hs.1
    simp only [Value.ownBlock, ne_eq, Option.some.injEq]
    omega

/-- the delimiters behind the name of the first segment -/
def dl (k : Nat) : List UInt8 := if k = 0 then [124, 94, 126, 92, 38] else []

theorem escs_ge (l : List UInt8) : l.length ≤ (escs l).length := by
  induction l with
  | nil => simp [escs]
  | cons c l ih =>
    have h : 1 ≤ (esc c).length := by
      unfold esc
      repeat (split; · decide)
      simp
    simp only [escs, List.flatMap_cons, List.length_append, List.length_cons] at ih ⊢
    omega

theorem Buf.snocC {base : Nat} {w wr w' : World} {v0 v v' : Value} {bs : List UInt8} (c : UInt8) (z : Int) (hz : (c.toNat : Int) = z) (o : Obj) (hb : Grew w v0 wr v)
    {n : Nat} (hl : n = bs.length) (h : w'.ownsRow base 5 1 v' (n + 1) (u8s bs ++ [.int .u8 z])) (hg : (wr.alloc o).grownBy w' v.ownBlock) (hat : v'.ownBlock = v.ownBlock ∨ v'.ownBlock = some (wr.heap.size + 1)) :
    Buf base w' v' (bs ++ [c]) ∧ Grew w v0 w' v' := by
  subst hz
  exact Buf.snoc c o hb hl h hg hat

/-- the byte ahead of an element that is not the first -/
def sp (c : UInt8) (k : Nat) : List UInt8 := if k = 0 then [] else [c]
theorem sp_len (c : UInt8) (k : Nat) : (sp c k).length = if k = 0 then 0 else 1 := by unfold sp; split <;> rfl

end Go.Proofs.Ytodpipjfdaapaaa.Msg

namespace Go.Proofs.Ytodpipjfdaapaaa.Msg
set_option linter.unusedVariables false
set_option linter.unusedSimpArgs false

/-- B with W written behind it, or, where that is too long, a text that is too long as well -/
def Wr (B W R : List UInt8) : Prop := ((B ++ W).length ≤ 40000 ∧ R = B ++ W) ∨ (40000 < (B ++ W).length ∧ 40000 < R.length ∧ R.length ≤ (B ++ W).length)
theorem Wr.le {B W R : List UInt8} (h : Wr B W R) : R.length ≤ (B ++ W).length := by
  rcases h with ⟨_, rfl⟩ | ⟨_, _, h⟩
  · exact Nat.le_refl _
  · exact h
theorem Wr.eq {B W R : List UInt8} (h : Wr B W R) (hl : (B ++ W).length ≤ 40000) : R = B ++ W := by
  rcases h with ⟨_, h⟩ | ⟨h, _⟩
  · exact h
  · omega
theorem Wr.long {B W R : List UInt8} (h : Wr B W R) (hl : 40000 < (B ++ W).length) : 40000 < R.length := by
  rcases h with ⟨h, _⟩ | ⟨_, h, _⟩
  · omega
  · exact h
theorem Wr.nil (B : List UInt8) : Wr B [] B := by
  unfold Wr
  rw [List.append_nil]
  by_cases h : B.length ≤ 40000
  · exact .inl ⟨h, rfl⟩
  · exact .inr ⟨by omega, by omega, Nat.le_refl _⟩
theorem Wr.full (B W : List UInt8) : Wr B W (B ++ W) := by
  unfold Wr
  by_cases h : (B ++ W).length ≤ 40000
  · exact .inl ⟨h, rfl⟩
  · exact .inr ⟨by omega, by omega, Nat.le_refl _⟩
theorem Wr.stay (B W : List UInt8) (h : 40000 < B.length) : Wr B W B := by
  refine .inr ⟨?_, h, ?_⟩ <;> rw [List.length_append] <;> omega
theorem Wr.trans {B W1 R1 W2 R2 : List UInt8} (h1 : Wr B W1 R1) (h2 : Wr R1 W2 R2) : Wr B (W1 ++ W2) R2 := by
  rcases h1 with ⟨a, rfl⟩ | ⟨a, b, c⟩
  · unfold Wr at h2 ⊢
    rw [List.append_assoc] at h2
    exact h2
  · have hl : 40000 < (R1 ++ W2).length := by rw [List.length_append]; omega
    have h3 := h2.long hl
    have h4 := h2.le
    rw [List.length_append] at h4 a c
    refine .inr ⟨?_, h3, ?_⟩ <;> rw [List.length_append, List.length_append] <;> omega
theorem Wr.cast {B W W' R : List UInt8} (h : Wr B W R) (e : W = W') : Wr B W' R := e ▸ h
end Go.Proofs.Ytodpipjfdaapaaa.Msg
