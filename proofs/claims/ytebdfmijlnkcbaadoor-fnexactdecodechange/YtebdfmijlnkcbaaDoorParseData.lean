import Derived.Test.YtebdfmijlnkcbaaDoorMsgTo
import Derived.Test.YtebdfmijlnkcbaaDoorBufPut
namespace Go.Proofs.YtebdfmijlnkcbaaDoor.Msg
open Go.ChangeShapes Go.WideShapes Go.ChangeAt Go.RowKit
set_option linter.unusedVariables false
set_option linter.unusedSimpArgs false

/-- a text out of bytes -/
def txt (l : List UInt8) : ByteArray := ⟨l.toArray⟩
theorem txt_data (l : List UInt8) : (txt l).data.toList = l := by simp [txt]
theorem txt_size (l : List UInt8) : (txt l).size = l.length := by simp [txt, ByteArray.size]
theorem txt_of (s : ByteArray) : txt s.data.toList = s := by cases s; simp [txt]
theorem txt_extract (s : ByteArray) (a b : Nat) : s.extract a b = txt ((s.data.toList.take b).drop a) := by
  have : (s.extract a b).data.toList = (s.data.toList.take b).drop a := by
    rw [ByteArray.data_extract, Array.toList_extract]
    simp [List.extract, List.drop_take]
  rw [← this, txt_of]

/-- a text cut at every byte c: the pieces, 'cur' being what stands of the first -/
def cutGo (c : UInt8) (cur : List UInt8) : List UInt8 → List (List UInt8)
  | [] => [cur]
  | x :: xs => if x = c then cur :: cutGo c [] xs else cutGo c (cur ++ [x]) xs
def cutL (c : UInt8) (l : List UInt8) : List (List UInt8) := cutGo c [] l

/-- a slice of texts that the call owns -/
def SBuf (base : Nat) (w : World) (v : Value) (xs : List ByteArray) : Prop := w.ownsRow base 9 1 v xs.length (xs.map Value.string)
theorem str_facts : ∃ i, Tryd.prog.info? 9 = some i ∧ i.zero = some (.string ByteArray.empty) ∧ i.size = 1 ∧ i.bytes = 16 := by
  have h := info_string
  cases hi : Tryd.prog.info? 9 with
  | none => rw [hi] at h; cases h
  | some i =>
    rw [hi] at h
    simp only [Option.map_some, Option.some.injEq, Prod.mk.injEq] at h
    exact ⟨i, rfl, h.1, h.2.1, h.2.2⟩
theorem SBuf.empty (base : Nat) (w : World) (hb : base ≤ w.heap.size) : SBuf base (w.alloc (.cells #[] 9)) (.slice (some ⟨w.heap.size, 0, none⟩) 0 0) [] :=
  World.ownsRow_lit (base := base) (e := 9) (size := 1) w #[] 0 hb (by unfold maxLen; omega) rfl
theorem SBuf.snoc {base : Nat} {w wr w' : World} {v0 v v' : Value} {xs : List ByteArray} (x : ByteArray) (o : Obj) (hb : Grew w v0 wr v)
    {n : Nat} (hl : n = xs.length) (h : w'.ownsRow base 9 1 v' (n + 1) (xs.map Value.string ++ [.string x])) (hg : (wr.alloc o).grownBy w' v.ownBlock) (hat : v'.ownBlock = v.ownBlock ∨ v'.ownBlock = some (wr.heap.size + 1)) :
    SBuf base w' v' (xs ++ [x]) ∧ Grew w v0 w' v' := by
  subst hl
  refine ⟨by unfold SBuf; simpa using h, (hb.alloc o).trans ⟨hg, ?_⟩⟩
  rcases hat with hat | hat
  · exact .inl hat
  · exact .inr ⟨_, hat, by rw [Deep.nblk_alloc]; exact Nat.le_refl _⟩
theorem one_str (s : ByteArray) : ∀ u ∈ [Value.string s], u.oneCell' = true := by
  intro u hu
  simp at hu
  subst hu
  rfl
/-- the first n of an owned row of one-cell elements -/
theorem own_cells {base : Nat} {e : TypeId} {w : World} {v : Value} {cs : List Value} (h : w.ownsRow base e 1 v cs.length cs) :
    (cs = [] ∧ v = .slice none 0 0) ∨ ∃ g cap, v = .slice (some ⟨g, 0, none⟩) cs.length cap ∧ base ≤ g ∧ g < w.heap.size ∧ (∀ i (hi : i < cs.length), w.cell? ⟨g, i, none⟩ = some cs[i] ∧ w.frozen? ⟨g, i, none⟩ = false) := by
  obtain ⟨hlen, ⟨rfl, h0⟩ | ⟨g, cap, cur, rfl, hg, hs, hcap, hm, hsz, htk⟩⟩ := h
  · exact .inl ⟨List.length_eq_zero_iff.1 h0, rfl⟩
  · refine .inr ⟨g, cap, rfl, hg, ?_, fun i hi => ⟨?_, ?_⟩⟩
    · rw [Array.getElem?_eq_some_iff] at hs; exact hs.1
    · have h3 : (cur.toList.take (cs.length * 1))[i]? = some cs[i] := by rw [htk]; simp [hi]
      rw [List.getElem?_take, if_pos (by omega)] at h3
      simp only [World.cell?, hs]
      rw [← Array.getElem?_toList, h3]
      rfl
    · simp [World.frozen?, hs]
theorem SBuf.toStrs {base : Nat} {w : World} {v : Value} {xs : List ByteArray} (h : SBuf base w v xs) (hl : xs.length ≤ 9223372036854775807) (hs : ∀ i (h : i < xs.length), xs[i].size ≤ 9223372036854775807) {n : Nat} (hn : n ≤ xs.length) :
    ∃ a cap, v = .slice a xs.length cap ∧ StrsAt base w (.slice a n cap) (xs.take n) := by
  have h' : w.ownsRow base 9 1 v (xs.map Value.string).length (xs.map Value.string) := by rw [List.length_map]; exact h
  rcases own_cells h' with ⟨h0, rfl⟩ | ⟨g, cap, rfl, hg, hlt, hc⟩
  · have hx : xs = [] := List.map_eq_nil_iff.1 h0
    subst hx
    have : n = 0 := by simpa using hn
    subst this
    exact ⟨none, 0, rfl, by simp, .inl ⟨none, 0, rfl, rfl⟩⟩
  · refine ⟨_, cap, by rw [List.length_map], by rw [List.length_take]; omega, .inr ⟨g, 0, cap, by rw [List.length_take, Nat.min_eq_left hn], ⟨hg, hlt⟩, fun i hi => ?_⟩⟩
    have hi' : i < xs.length := by rw [List.length_take] at hi; omega
    have := (hc i (by rw [List.length_map]; exact hi')).1
    simp only [List.getElem_map] at this
    exact ⟨by simpa [List.getElem_take] using this, by simpa [List.getElem_take] using hs i hi'⟩
end Go.Proofs.YtebdfmijlnkcbaaDoor.Msg
