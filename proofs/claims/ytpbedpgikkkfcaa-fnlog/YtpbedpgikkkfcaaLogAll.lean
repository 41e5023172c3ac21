import Derived.Test.YtpbedpgikkkfcaaLogSpec
import Derived.Test.YtpbedpgikkkfcaaMarkData
import Derived.Test.YtpbedpgikkkfcaaMsgTo
namespace Go.Proofs.Ytpbedpgikkkfcaa.Msg
open Go.ChangeShapes Go.WideShapes Go.ChangeAt Go.RowKit Go.Shelf
set_option linter.unusedVariables false
set_option linter.unusedSimpArgs false

/-- a slice of texts that the call owns -/
def TBuf (base : Nat) (w : World) (v : Value) (xs : List ByteArray) : Prop := w.ownsRow base 9 1 v xs.length (xs.map Value.string)
theorem TBuf.form {base : Nat} {w : World} {v : Value} {xs : List ByteArray} (h : TBuf base w v xs) : ∃ a c, v = .slice a xs.length c ∧ xs.length ≤ c ∧ c ≤ 9223372036854775807 := by
  obtain ⟨_, ⟨rfl, h0⟩ | ⟨g, cap, cur, rfl, hg, _, hc, hm, _⟩⟩ := h
  · exact ⟨none, 0, by rw [h0], by omega, by omega⟩
  · exact ⟨_, _, rfl, hc, by unfold maxLen at hm; omega⟩
theorem TBuf.keep {base : Nat} {w w' : World} {v : Value} {xs : List ByteArray} (h : TBuf base w v xs) (hb : Below w.heap.size w w') : TBuf base w' v xs := by
  unfold TBuf at *
  obtain ⟨h0, ⟨rfl, h1⟩ | ⟨g, cap, cur, rfl, hg, hh, rest⟩⟩ := h
  · exact ⟨h0, .inl ⟨rfl, h1⟩⟩
  · exact ⟨h0, .inr ⟨g, cap, cur, rfl, hg, by rw [hb.block g (by rw [Array.getElem?_eq_some_iff] at hh; exact hh.1)]; exact hh, rest⟩⟩
theorem TBuf.empty_lit (w : World) : TBuf w.heap.size (w.alloc (Obj.cells #[] 9)) (.slice (some ⟨w.heap.size, 0, none⟩) 0 0) [] :=
  World.ownsRow_lit w #[] 0 (Nat.le_refl _) (by unfold maxLen; omega) rfl
theorem TBuf.ownB {base : Nat} {w : World} {v : Value} {xs : List ByteArray} (h : TBuf base w v xs) : base ≤ v.ownBlock.getD base := by
  obtain ⟨_, ⟨rfl, _⟩ | ⟨g, cap, cur, rfl, hg, _⟩⟩ := h
  · simp [Value.ownBlock]
  · simpa [Value.ownBlock] using hg
theorem TBuf.more {base : Nat} {w w' : World} {v v' : Value} {xs : List ByteArray} {x : ByteArray} {o : Obj} (hv : TBuf base w v xs) (hbase : base ≤ w.heap.size) {n : Nat} (hl : n = xs.length) (h : w'.ownsRow base 9 1 v' (n + 1) (xs.map Value.string ++ [.string x])) (hg : (w.alloc o).grownBy w' v.ownBlock) :
    TBuf base w' v' (xs ++ [x]) ∧ Below base w w' := by
  subst hl
  refine ⟨by unfold TBuf; simpa using h, ((Below.refl base w).alloc hbase o).trans ⟨hg.os, hg.tape, hg.output, hg.size, fun k hk => hg.block k (by rw [Deep.nblk_alloc]; omega) ?_⟩⟩
  have := hv.ownB
  intro e
  rw [← e] at this
  simp at this
  omega
theorem TBuf.owned {base : Nat} {w : World} {v : Value} {xs : List ByteArray} (h : TBuf base w v xs) (hx : ∀ x ∈ xs, x.size ≤ 9223372036854775807) : ∃ bs, OStrs w v xs bs ∧ ∀ b ∈ bs, base ≤ b := by
  have h' := h
  obtain ⟨_, ⟨rfl, h0⟩ | ⟨g, cap, cur, rfl, hg, hh, hc, hm, hsz, htk⟩⟩ := h
  · have : xs = [] := List.length_eq_zero_iff.1 h0
    subst this
    exact ⟨[], ⟨by simp, .inl ⟨_, _, rfl, rfl, rfl⟩⟩, fun b hb => by simp at hb⟩
  · refine ⟨g :: (List.replicate xs.length []).flatten, ⟨by unfold maxLen at hm; omega, .inr ⟨g, 0, cap, List.replicate xs.length [], rfl, by rw [Array.getElem?_eq_some_iff] at hh; exact hh.1, rfl, by simp, fun i h1 h2 => ?_⟩⟩, fun b hb => ?_⟩
    · refine ⟨?_, ?_, hx _ (List.getElem_mem _), by simp⟩
      · have := World.ownsRow.cellAt h' i (by omega)
        rw [show 0 + i * 1 = i by omega, this]
        simp [h1]
      · simp [World.frozen?, hh]
    · simp at hb
      omega

def logTexts (img : ByteArray) : List ByteArray := (recsA img).map (·.1)
theorem texts_small (img : ByteArray) (k : Nat) : ∀ x ∈ (recsK img k).map (·.1), x.size ≤ 9223372036854775807 := fun x hx => by
  obtain ⟨p, hp, rfl⟩ := List.mem_map.1 hx
  have := (recsK_len img k).2.2.2 p hp
  omega
theorem texts_len (img : ByteArray) (k : Nat) : ((recsK img k).map (·.1)).length ≤ img.size := by
  have := recsK_len img k
  rw [List.length_map]
  omega

end Go.Proofs.Ytpbedpgikkkfcaa.Msg
