import Derived.Test.YtjpdgcodjnnljaaLogLaw
namespace Go.Proofs.Ytjpdgcodjnnljaa.Msg
open Go.ChangeShapes Go.WideShapes Go.ChangeAt Go.RowKit Go.Shelf
set_option linter.unusedVariables false
set_option linter.unusedSimpArgs false

/-! the texts that the law draws -/
def textOf (code more : List UInt8) (i : Nat) : List UInt8 := (List.range (pickN code i % 90)).map fun j => UInt8.ofNat (pickN more (i * 7 + j))
def textsOf (code more : List UInt8) (n : Nat) : List (List UInt8) := (List.range n).map (textOf code more)
theorem textOf_len (code more : List UInt8) (i : Nat) : (textOf code more i).length ≤ 89 := by unfold textOf; rw [List.length_map, List.length_range]; omega
theorem textsOf_small (code more : List UInt8) (n : Nat) : ∀ t ∈ textsOf code more n, t.length ≤ 60000 := fun t ht => by
  obtain ⟨i, _, rfl⟩ := List.mem_map.1 ht
  have := textOf_len code more i
  omega
theorem textsOf_len (code more : List UInt8) (n : Nat) : (textsOf code more n).length = n := by simp [textsOf]
theorem textsOf_get (code more : List UInt8) (n i : Nat) (h : i < n) : (textsOf code more n)[i]'(by rw [textsOf_len]; exact h) = textOf code more i := by simp [textsOf]
theorem endL_bound (code more : List UInt8) (n : Nat) : ∀ i, i ≤ n → endL (textsOf code more n) i ≤ 96 * i
  | 0, _ => by rw [endL_zero]; omega
  | i + 1, h => by
    have ih := endL_bound code more n i (by omega)
    rw [endL_succ _ i (by rw [textsOf_len]; omega), textsOf_get code more n i (by omega)]
    have := textOf_len code more i
    unfold sectN
    omega
def bsOf (l : List UInt8) : ByteArray := ⟨l.toArray⟩
theorem bsOf_append (a b : List UInt8) : bsOf a ++ bsOf b = bsOf (a ++ b) := by
  apply bytes_ext
  show (bsOf a ++ bsOf b).data.toList = a ++ b
  rw [ByteArray.data_append, Array.toList_append]
  rfl
theorem bsOf_size (l : List UInt8) : (bsOf l).size = l.length := by show l.toArray.size = _; simp
theorem recB_bs (l : List UInt8) (h : l.length ≤ 60000) : recB (bsOf l) = bsOf (recL l) := by unfold recB; rw [if_pos (by rw [bsOf_size]; exact h)]; rfl

/-! two slices that grow side by side -/
def IBuf (base : Nat) (w : World) (v : Value) (xs : List Int) : Prop := w.ownsRow base 3 1 v xs.length (xs.map (Value.int .i64))
theorem IBuf.form {base : Nat} {w : World} {v : Value} {xs : List Int} (h : IBuf base w v xs) : ∃ a c, v = .slice a xs.length c ∧ xs.length ≤ c ∧ c ≤ 9223372036854775807 := by
  obtain ⟨_, ⟨rfl, h0⟩ | ⟨g, cap, cur, rfl, hg, _, hc, hm, _⟩⟩ := h
  · exact ⟨none, 0, by rw [h0], by omega, by omega⟩
  · exact ⟨_, _, rfl, hc, by unfold maxLen at hm; omega⟩
theorem IBuf.empty_lit (w : World) {base : Nat} (hb : base ≤ w.heap.size) : IBuf base (w.alloc (Obj.cells #[] 3)) (.slice (some ⟨w.heap.size, 0, none⟩) 0 0) [] :=
  World.ownsRow_lit w #[] 0 hb (by unfold maxLen; omega) rfl
theorem TBuf.empty_at (w : World) {base : Nat} (hb : base ≤ w.heap.size) : TBuf base (w.alloc (Obj.cells #[] 9)) (.slice (some ⟨w.heap.size, 0, none⟩) 0 0) [] :=
  World.ownsRow_lit w #[] 0 hb (by unfold maxLen; omega) rfl
theorem IBuf.ints {base : Nat} {w : World} {v : Value} {xs : List Int} (h : IBuf base w v xs) (hl : xs.length ≤ 9223372036854775807) : IntsAt base w v xs := by
  have h' := h
  obtain ⟨_, ⟨rfl, h0⟩ | ⟨g, cap, cur, rfl, hg, hh, hc, hm, hsz, htk⟩⟩ := h
  · have : xs = [] := List.length_eq_zero_iff.1 h0
    subst this
    exact ⟨by simp, .inl ⟨_, _, rfl, rfl⟩⟩
  · refine ⟨hl, .inr ⟨g, 0, cap, rfl, ⟨hg, by rw [Array.getElem?_eq_some_iff] at hh; exact hh.1⟩, fun i hi => ?_⟩⟩
    unfold IntR
    have := World.ownsRow.cellAt h' i (by omega)
    rw [show 0 + i * 1 = i by omega, this]
    simp [hi]
theorem rows_ne {w : World} {b1 b2 : Nat} {e1 e2 : TypeId} {v1 v2 : Value} {n1 n2 : Nat} {x1 x2 : List Value} (h1 : w.ownsRow b1 e1 1 v1 n1 x1) (h2 : w.ownsRow b2 e2 1 v2 n2 x2) (hne : e1 ≠ e2) : v1.ownBlock = none ∨ v1.ownBlock ≠ v2.ownBlock := by
  obtain ⟨_, ⟨rfl, _⟩ | ⟨g, cap, cur, rfl, _, hg, _⟩⟩ := h1
  · exact .inl rfl
  · right
    obtain ⟨_, ⟨rfl, _⟩ | ⟨g', cap', cur', rfl, _, hg', _⟩⟩ := h2
    · simp [Value.ownBlock]
    · intro e
      simp only [Value.ownBlock, Option.some.injEq] at e
      subst e
      rw [hg] at hg'
      injection hg' with hg'
      injection hg' with _ h3
      exact hne h3
structure TwoBuf (w : World) (xs : List ByteArray) (es : List Int) (W : World) (v6 v8 : Value) : Prop where
  texts : TBuf w.heap.size W v6 xs
  ends : IBuf w.heap.size W v8 es
  below : Below w.heap.size w W
theorem grown_below {w W W' : World} {v : Value} {e : TypeId} {n : Nat} {x : List Value} (hb : Below w.heap.size w W) (hr : W.ownsRow w.heap.size e 1 v n x) (hg : W.grownBy W' v.ownBlock) : Below w.heap.size w W' :=
  hb.trans ⟨hg.os, hg.tape, hg.output, hg.size, fun k hk => hg.block k (by have := hb.size; omega) (fun e' => by
    obtain ⟨_, ⟨rfl, _⟩ | ⟨g, cap, cur, rfl, hgb, _⟩⟩ := hr
    · simp [Value.ownBlock] at e'
    · simp only [Value.ownBlock, Option.some.injEq] at e'; omega)⟩
theorem TwoBuf.alloc {w : World} {xs : List ByteArray} {es : List Int} {W : World} {v6 v8 : Value} (h : TwoBuf w xs es W v6 v8) (o : Obj) : TwoBuf w xs es (W.alloc o) v6 v8 :=
  ⟨World.ownsRow.alloc h.texts o, World.ownsRow.alloc h.ends o, h.below.alloc h.below.size o⟩
theorem TwoBuf.keep {w : World} {xs : List ByteArray} {es : List Int} {W W' : World} {v6 v8 : Value} (h : TwoBuf w xs es W v6 v8) (hb : Below W.heap.size W W') : TwoBuf w xs es W' v6 v8 :=
  ⟨h.texts.keep hb, by
    have := h.ends
    unfold IBuf at *
    obtain ⟨h0, ⟨rfl, h1⟩ | ⟨g, cap, cur, rfl, hg, hh, rest⟩⟩ := this
    · exact ⟨h0, .inl ⟨rfl, h1⟩⟩
    · exact ⟨h0, .inr ⟨g, cap, cur, rfl, hg, by rw [hb.block g (by rw [Array.getElem?_eq_some_iff] at hh; exact hh.1)]; exact hh, rest⟩⟩, bj hb h.below⟩
theorem TwoBuf.text {w : World} {xs : List ByteArray} {es : List Int} {W w1 : World} {v6 v8 v' : Value} {t : ByteArray} (h : TwoBuf w xs es W v6 v8) {n : Nat} (hn : n = xs.length) (ho : w1.ownsRow w.heap.size 9 1 v' (n + 1) (xs.map Value.string ++ [.string t])) (hg : W.grownBy w1 v6.ownBlock) : TwoBuf w (xs ++ [t]) es w1 v' v8 := by
  subst hn
  refine ⟨by unfold TBuf; simpa using ho, World.ownsRow.kept h.ends hg ?_, grown_below h.below h.texts hg⟩
  rcases rows_ne h.ends h.texts (by decide) with e | e
  · obtain ⟨_, ⟨rfl, _⟩ | ⟨g, cap, cur, rfl, _⟩⟩ := h.ends
    · exact .inl rfl
    · simp [Value.ownBlock] at e
  · exact .inr e
theorem TwoBuf.ended {w : World} {xs : List ByteArray} {es : List Int} {W w1 : World} {v6 v8 v' : Value} {x : Int} (h : TwoBuf w xs es W v6 v8) {n : Nat} (hn : n = es.length) (ho : w1.ownsRow w.heap.size 3 1 v' (n + 1) (es.map (Value.int .i64) ++ [.int .i64 x])) (hg : W.grownBy w1 v8.ownBlock) : TwoBuf w xs (es ++ [x]) w1 v6 v' := by
  subst hn
  refine ⟨World.ownsRow.kept h.texts hg ?_, by unfold IBuf; simpa using ho, grown_below h.below h.ends hg⟩
  rcases rows_ne h.texts h.ends (by decide) with e | e
  · obtain ⟨_, ⟨rfl, _⟩ | ⟨g, cap, cur, rfl, _⟩⟩ := h.texts
    · exact .inl rfl
    · simp [Value.ownBlock] at e
  · exact .inr e
end Go.Proofs.Ytjpdgcodjnnljaa.Msg
