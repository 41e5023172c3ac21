import Derived.Test.YtpmnepalchgcbaaGreatDoorBufZerowithBufFzwithRecPure
import Derived.BigQuiet
import Derived.Deep.RegionHeld3
namespace Go.Proofs.YtpmnepalchgcbaaGreatDoor.Msg
set_option linter.unusedVariables false
set_option linter.unusedSimpArgs false

/-! what a crash leaves, byte by byte -/
def keptB (f : Nat) (ps : List Int) (i : Nat) : Bool := decide (((i - max (i / 32 * 32) f : Nat) : Int) < ps.getD (i / 32 - f / 32) 0)
def crashT (S N : List UInt8) (ps : List Int) : Nat → List UInt8
  | 0 => S
  | k + 1 => if keptB S.length ps (S.length + k) then crashT S N ps k ++ List.replicate (S.length + k - (crashT S N ps k).length) 0 ++ [N.getD (S.length + k) 0] else crashT S N ps k
theorem crashT_len (S N : List UInt8) (ps : List Int) : ∀ k, S.length ≤ (crashT S N ps k).length ∧ (crashT S N ps k).length ≤ S.length + k
  | 0 => ⟨Nat.le_refl _, Nat.le_refl _⟩
  | k + 1 => by
    have ih := crashT_len S N ps k
    unfold crashT
    split
    · simp only [List.length_append, List.length_replicate, List.length_cons, List.length_nil]
      omega
    · omega
/-- what the specification has built, and where its end lies -/
def crashO (S N : List UInt8) (ps : List Int) (k : Nat) : List UInt8 := crashT S N ps k ++ List.replicate (S.length + k - (crashT S N ps k).length) 0
theorem crashO_len (S N : List UInt8) (ps : List Int) (k : Nat) : (crashO S N ps k).length = S.length + k := by
  have := crashT_len S N ps k
  unfold crashO
  simp only [List.length_append, List.length_replicate]
  omega
theorem crashO_yes {S N : List UInt8} {ps : List Int} {k : Nat} (h : keptB S.length ps (S.length + k) = true) :
    crashO S N ps (k + 1) = crashO S N ps k ++ [N.getD (S.length + k) 0] ∧ (crashT S N ps (k + 1)).length = S.length + k + 1 := by
  have hl := crashT_len S N ps k
  have e : crashT S N ps (k + 1) = crashT S N ps k ++ List.replicate (S.length + k - (crashT S N ps k).length) 0 ++ [N.getD (S.length + k) 0] := by
    conv => lhs; unfold crashT
    rw [if_pos h]
  have hlen : (crashT S N ps (k + 1)).length = S.length + k + 1 := by
    rw [e]
    simp only [List.length_append, List.length_replicate, List.length_cons, List.length_nil]
    omega
  refine ⟨?_, hlen⟩
  unfold crashO
  rw [hlen, show S.length + (k + 1) - (S.length + k + 1) = 0 by omega, List.replicate_zero, List.append_nil, e]
theorem crashO_no {S N : List UInt8} {ps : List Int} {k : Nat} (h : keptB S.length ps (S.length + k) = false) :
    crashO S N ps (k + 1) = crashO S N ps k ++ [0] ∧ crashT S N ps (k + 1) = crashT S N ps k := by
  have hl := crashT_len S N ps k
  have e : crashT S N ps (k + 1) = crashT S N ps k := by
    conv => lhs; unfold crashT
    rw [if_neg (by rw [h]; decide)]
  refine ⟨?_, e⟩
  unfold crashO
  rw [e, List.append_assoc, ← List.replicate_succ']
  congr 2
  omega
/-- at the end: what is kept -/
theorem crashO_take (S N : List UInt8) (ps : List Int) (k : Nat) : (crashO S N ps k).take (crashT S N ps k).length = crashT S N ps k := by
  unfold crashO
  rw [List.take_append_of_le_length (Nat.le_refl _), List.take_length]

/-! what the program puts, sector by sector -/
def putL (T : List UInt8) (b : Nat) (s : List UInt8) : List UInt8 := if s.length = 0 then T else T ++ List.replicate (b - T.length) 0 ++ s
def sectEnd (b n : Nat) : Nat := min (b - b % 32 + 32) n
def keepM (p : Int) (n : Nat) : Nat := min (max p 0).toNat n
theorem crash_sector {S N : List UInt8} {ps : List Int} {b j : Nat} (hS : S.length ≤ b) (hb : b < N.length) (hj : b / 32 = S.length / 32 + j) (hat : b = S.length ∨ b % 32 = 0) :
    ∀ c, c ≤ sectEnd b N.length - b → crashT S N ps (b - S.length + c) = putL (crashT S N ps (b - S.length)) b ((N.drop b).take (keepM (ps.getD j 0) c))
  | 0, _ => by
    have : keepM (ps.getD j 0) 0 = 0 := by unfold keepM; omega
    rw [this]
    simp [putL]
  | c + 1, hc => by
    have ih := crash_sector (ps := ps) hS hb hj hat c (by omega)
    have hse : sectEnd b N.length ≤ b - b % 32 + 32 ∧ sectEnd b N.length ≤ N.length := by unfold sectEnd; omega
    have hi : (b + c) / 32 = b / 32 := by omega
    have hmx : max ((b + c) / 32 * 32) S.length = b := by rw [hi]; omega
    have hk : keptB S.length ps (b + c) = decide ((c : Int) < ps.getD j 0) := by
      unfold keptB
      rw [hmx, hi, hj, show b + c - b = c by omega, show S.length / 32 + j - S.length / 32 = j by omega]
    have hix : S.length + (b - S.length + c) = b + c := by omega
    have hlT := crashT_len S N ps (b - S.length)
    generalize hT : crashT S N ps (b - S.length) = T at *
    generalize hp : ps.getD j 0 = p at *
    have hlen : ∀ m, m ≤ c + 1 → ((N.drop b).take m).length = m := fun m hm => by rw [List.length_take, List.length_drop]; omega
    by_cases hkept : (c : Int) < p
    · have hkm : keepM p (c + 1) = c + 1 := by unfold keepM; omega
      have hkm0 : keepM p c = c := by unfold keepM; omega
      have e : crashT S N ps (b - S.length + (c + 1)) = crashT S N ps (b - S.length + c) ++ List.replicate (b + c - (crashT S N ps (b - S.length + c)).length) 0 ++ [N.getD (b + c) 0] := by
        show crashT S N ps (b - S.length + c + 1) = _
        conv => lhs; unfold crashT
        rw [hix, if_pos (by rw [hk]; exact decide_eq_true hkept)]
      have hget : N.getD (b + c) 0 = N[b + c]'(by omega) := by rw [List.getD_eq_getElem?_getD, List.getElem?_eq_getElem (by omega)]; rfl
      have hsn : (N.drop b).take (c + 1) = (N.drop b).take c ++ [N.getD (b + c) 0] := by
        rw [List.take_succ_eq_append_getElem (by rw [List.length_drop]; omega), List.getElem_drop, hget]
      rw [e, ih, hkm, hkm0, hsn]
      unfold putL
      rw [hlen c (by omega)]
      by_cases h0 : c = 0
      · subst h0
        simp
      · rw [if_neg h0, if_neg (by simp)]
        have hl2 : (T ++ List.replicate (b - T.length) 0 ++ (N.drop b).take c).length = b + c := by
          simp only [List.length_append, List.length_replicate, hlen c (by omega)]
          omega
        rw [hl2, Nat.sub_self, List.replicate_zero, List.append_nil, List.append_assoc]
    · have hkm : keepM p (c + 1) = keepM p c := by unfold keepM; omega
      have e : crashT S N ps (b - S.length + (c + 1)) = crashT S N ps (b - S.length + c) := by
        show crashT S N ps (b - S.length + c + 1) = _
        conv => lhs; unfold crashT
        rw [hix, if_neg (by rw [hk]; simpa using hkept)]
      rw [e, ih, hkm]
end Go.Proofs.YtpmnepalchgcbaaGreatDoor.Msg

namespace Go.Proofs.YtpmnepalchgcbaaGreatDoor.Msg
open Go.ChangeShapes Go.WideShapes Go.ChangeAt Go.RowKit
set_option linter.unusedVariables false
set_option linter.unusedSimpArgs false

/-! a list of numbers, read -/
def IntR (_ : Nat) (w : World) (b off : Nat) (x : Int) : Prop := w.cell? ⟨b, off, none⟩ = some (.int .i64 x)
def IntsAt : Nat → World → Value → List Int → Prop := At 1 IntR
theorem kept_int : Kept IntR := fun lo w w' b off x h h1 h2 hb => by unfold IntR at *; rw [hb.cell h1 h2]; exact h
theorem ints_form {lo : Nat} {w : World} {v : Value} {xs : List Int} (h : IntsAt lo w v xs) : ∃ a cap, v = .slice a xs.length cap ∧ ∀ i (hi : i < xs.length), ∃ b off, a = some ⟨b, off, none⟩ ∧ b < w.heap.size ∧ w.cell? ⟨b, off + i, none⟩ = some (.int .i64 xs[i]) := by
  obtain ⟨hl, h⟩ := h
  rcases h with ⟨a, cap, rfl, rfl⟩ | ⟨b, off, cap, rfl, hlt, h⟩
  · exact ⟨a, cap, rfl, fun i hi => absurd hi (by simp)⟩
  · exact ⟨_, cap, rfl, fun i hi => ⟨b, off, rfl, hlt.2, by have := h i hi; unfold IntR at this; simpa using this⟩⟩

def okD (S N : ByteArray) : Bool := decide (S.size ≤ N.size) && ((N.extract 0 S.size).toList == S.toList)

end Go.Proofs.YtpmnepalchgcbaaGreatDoor.Msg

namespace Go.Proofs.YtpmnepalchgcbaaGreatDoor.Msg
open Go.ChangeShapes Go.WideShapes Go.ChangeAt Go.RowKit
set_option linter.unusedVariables false
set_option linter.unusedSimpArgs false

end Go.Proofs.YtpmnepalchgcbaaGreatDoor.Msg
