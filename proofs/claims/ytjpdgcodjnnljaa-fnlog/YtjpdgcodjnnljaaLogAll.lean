import Derived.Test.YtjpdgcodjnnljaaLogSpec
import Derived.Test.YtjpdgcodjnnljaaMarkData
import Derived.Test.YtjpdgcodjnnljaaMsgTo
namespace Go.Proofs.Ytjpdgcodjnnljaa.Msg
open Go.ChangeShapes Go.WideShapes Go.ChangeAt Go.RowKit Go.Shelf
set_option linter.unusedVariables false
set_option linter.unusedSimpArgs false

/-- a slice of texts that the call owns -/
def TBuf (base : Nat) (w : World) (v : Value) (xs : List ByteArray) : Prop := w.ownsRow base 9 1 v xs.length (xs.map Value.string)
theorem TBuf.form {base : Nat} {w : World} {v : Value} {xs : List ByteArray} (h : TBuf base w v xs) : ∃ a c, v = .slice a xs.length c ∧ xs.length ≤ c ∧ c ≤ 9223372036854775807 := by
  obtain ⟨_, ⟨rfl, h0⟩ | ⟨g, cap, cur, rfl, hg, _, hc, hm, _⟩⟩ := h
  · exact ⟨none, 0, by rw [h0], by omega, by omega⟩
  · exact ⟨_, _, rfl, hc, by unfold maxLen at hm; omega⟩
theorem TBuf.keep {base : Nat} {w w' : World} {v : Value} {xs : List ByteArray} (h : TBuf base w v xs) (hb : Below w.heap.size w w') : TBuf base w' v xs := by
  unfold TBuf at *
  obtain ⟨h0, ⟨rfl, h1⟩ | ⟨g, cap, cur, rfl, hg, hh, rest⟩⟩ := h
  · exact ⟨h0, .inl ⟨rfl, h1⟩⟩
  · exact ⟨h0, .inr ⟨g, cap, cur, rfl, hg, by rw [hb.block g (by rw [Array.getElem?_eq_some_iff] at hh; exact hh.1)]; exact hh, rest⟩⟩
theorem TBuf.empty_lit (w : World) : TBuf w.heap.size (w.alloc (Obj.cells #[] 9)) (.slice (some ⟨w.heap.size, 0, none⟩) 0 0) [] :=
  World.ownsRow_lit w #[] 0 (Nat.le_refl _) (by unfold maxLen; omega) rfl
theorem TBuf.ownB {base : Nat} {w : World} {v : Value} {xs : List ByteArray} (h : TBuf base w v xs) : base ≤ v.ownBlock.getD base := by
  obtain ⟨_, ⟨rfl, _⟩ | ⟨g, cap, cur, rfl, hg, _⟩⟩ := h
  · simp [Value.ownBlock]
  · simpa [Value.ownBlock] using hg
theorem TBuf.more {base : Nat} {w w' : World} {v v' : Value} {xs : List ByteArray} {x : ByteArray} {o : Obj} (hv : TBuf base w v xs) (hbase : base ≤ w.heap.size) {n : Nat} (hl : n = xs.length) (h : w'.ownsRow base 9 1 v' (n + 1) (xs.map Value.string ++ [.string x])) (hg : (w.alloc o).grownBy w' v.ownBlock) :
    TBuf base w' v' (xs ++ [x]) ∧ Below base w w' := by
  subst hl
  refine ⟨by unfold TBuf; simpa using h, ((Below.refl base w).alloc hbase o).trans ⟨hg.os, hg.tape, hg.output, hg.size, fun k hk => hg.block k (by rw [Deep.nblk_alloc]; omega) ?_⟩⟩
  have := hv.ownB
  intro e
  rw [← e] at this
  simp at this
  omega
theorem TBuf.owned {base : Nat} {w : World} {v : Value} {xs : List ByteArray} (h : TBuf base w v xs) (hx : ∀ x ∈ xs, x.size ≤ 9223372036854775807) : ∃ bs, OStrs w v xs bs ∧ ∀ b ∈ bs, base ≤ b := by
  have h' := h
  obtain ⟨_, ⟨rfl, h0⟩ | ⟨g, cap, cur, rfl, hg, hh, hc, hm, hsz, htk⟩⟩ := h
  · have : xs = [] := List.length_eq_zero_iff.1 h0
    subst this
    exact ⟨[], ⟨by simp, .inl ⟨_, _, rfl, rfl, rfl⟩⟩, fun b hb => by simp at hb⟩
  · refine ⟨g :: (List.replicate xs.length []).flatten, ⟨by unfold maxLen at hm; omega, .inr ⟨g, 0, cap, List.replicate xs.length [], rfl, by rw [Array.getElem?_eq_some_iff] at hh; exact hh.1, rfl, by simp, fun i h1 h2 => ?_⟩⟩, fun b hb => ?_⟩
    · refine ⟨?_, ?_, hx _ (List.getElem_mem _), by simp⟩
      · have := World.ownsRow.cellAt h' i (by omega)
        rw [show 0 + i * 1 = i by omega, this]
        simp [h1]
      · simp [World.frozen?, hh]
    · simp at hb
      omega

def logTexts (img : ByteArray) : List ByteArray := (recsA img).map (·.1)
theorem texts_small (img : ByteArray) (k : Nat) : ∀ x ∈ (recsK img k).map (·.1), x.size ≤ 9223372036854775807 := fun x hx => by
  obtain ⟨p, hp, rfl⟩ := List.mem_map.1 hx
  have := (recsK_len img k).2.2.2 p hp
  omega
theorem texts_len (img : ByteArray) (k : Nat) : ((recsK img k).map (·.1)).length ≤ img.size := by
  have := recsK_len img k
  rw [List.length_map]
  omega

set_option maxRecDepth 100000 in
set_option maxHeartbeats 4000000 in
theorem readLogS_any (img : ByteArray) (w : World) (hI : img.size ≤ 1048576) :
    Calls Try.prog 42 #[.string img] w fun e w' => ∃ v, e = .returned (.tuple #[v, .int .i64 ((endOf (recsA img) : Nat) : Int)]) ∧ TBuf w.heap.size w' v (logTexts img) ∧ Below w.heap.size w w' := by
  obtain ⟨i0, hi, hz0, hz1, hz2⟩ := info_parts info_string
  have HE0 := hide (TBuf.empty_lit w)
  obtain ⟨w1, hw1⟩ : ∃ w1, w.alloc (Obj.cells #[] 9) = w1 := ⟨_, rfl⟩
  have bel1 : Below w.heap.size w w1 := by rw [← hw1]; exact (Below.refl _ _).alloc (Nat.le_refl _) _
  rw [hw1] at HE0
  have HB1 := hide bel1
  have hnot : ¬ (4194304 : Int) < (img.size : Int) := by omega
  clear bel1
  go_enter Try.func42, Try.ntmps42
  go_wp2_with fail
  go_loopg [4, 5] (img.size + 1) (fun q v4 a wx => ∃ k : Nat, (recsK img k).length = k ∧ q = img.size + 1 - endOf (recsK img k) ∧ a = .int .i64 ((endOf (recsK img k) : Nat) : Int) ∧ TBuf w.heap.size wx v4 ((recsK img k).map (·.1)) ∧ Below w.heap.size w wx)
  case atStart => exact ⟨0, rfl, rfl, rfl, HE0.out, HB1.out⟩
  case round =>
    obtain ⟨k, hk, rfl, rfl, hO, hb⟩ := hrel
    obtain ⟨W5, rfl⟩ : ∃ x, x = wr := ⟨_, rfl⟩
    have hfx := hO.form
    have HO := hide hO
    have HB := hide hb
    have hwx := hb.size
    have hk6 : k ≤ img.size := by have := recsK_full hk; omega
    have hlens := recsK_len img k
    have HK := hide hk
    obtain ⟨xs, hxs⟩ : ∃ xs, (recsK img k).map (·.1) = xs := ⟨_, rfl⟩
    have hxl : xs.length ≤ 1048576 := by rw [← hxs]; have := texts_len img k; omega
    obtain ⟨a, haE⟩ : ∃ a, endOf (recsK img k) = a := ⟨_, rfl⟩
    have ha : a ≤ img.size := by rw [← haE]; exact hlens.2.2.1
    rw [hxs] at hfx HO
    rw [haE]
    have HXS := hide hxs
    have HAE := hide haE
    obtain ⟨V4, rfl⟩ : ∃ x, x = u4 := ⟨_, rfl⟩
    obtain ⟨a4, c4, rfl, _, _⟩ := hfx
    have HDONE : Hid (firstB (img.extract a img.size) = none → TBuf w.heap.size W5 (.slice a4 xs.length c4) (logTexts img) ∧ endOf (recsA img) = a) := fun h => by
      have e := recsA_of (k := k) hk6 (by rw [HAE.out]; exact h)
      unfold logTexts
      rw [e, HXS.out, HAE.out]
      exact ⟨HO.out, rfl⟩
    clear hO hb hk hlens haE hxs hk6
    by_cases hlt : (a : Int) < (img.size : Int)
    · cases hf : firstB (img.extract a img.size) with
      | none =>
        have HRV : Hid (readV img a = .tuple #[.string ⟨#[]⟩, .int .i64 (-1)]) := by unfold readV; rw [hf]; exact rfl
        have HF := hide (HDONE.out hf)
        go_wp2_with fail
        refine (l4Read_any img a _ hI ha).mono ?_
        rintro e W6 ⟨rfl, hb6⟩
        rw [HRV.out]
        have HO6 : Hid (TBuf w.heap.size W6 (.slice a4 xs.length c4) (logTexts img) ∧ Below w.heap.size w W6) := ⟨HF.out.1.keep hb6, bj hb6 HB.out⟩
        clear hb6
        go_wp2_with fail
        go_ret2
        rw [HF.out.2]
        exact ⟨_, rfl, HO6.out.1, HO6.out.2⟩
      | some p =>
        obtain ⟨t, n⟩ := p
        have hs := firstB_some hf
        rw [ByteArray.size_extract] at hs
        obtain ⟨y, hy⟩ : ∃ y, a + n = y := ⟨_, rfl⟩
        have HRV : Hid (readV img a = .tuple #[.string t, .int .i64 (y : Int)]) := by unfold readV; rw [hf, ← hy]; exact rfl
        have hy0 : ¬ (y : Int) < 0 := by omega
        have HNX : Hid ((recsK img (k + 1)).length = k + 1 ∧ endOf (recsK img (k + 1)) = y ∧ (recsK img (k + 1)).map (·.1) = xs ++ [t]) := by
          have e := recsK_yes (img := img) (k := k) (t := t) (n := n) (by rw [HAE.out]; exact hf)
          rw [e, endOf_snoc, List.length_append, HK.out, List.map_append, HXS.out, HAE.out]
          exact ⟨rfl, hy, rfl⟩
        have hya : a + 32 ≤ y ∧ y ≤ img.size := by omega
        clear hy hf hs
        go_wp2_with fail
        refine (l4Read_any img a _ hI ha).mono ?_
        rintro e W6 ⟨rfl, hb6⟩
        rw [HRV.out]
        have hO6 := HO.out.keep hb6
        have HO6 : Hid (TBuf w.heap.size W6 (.slice a4 xs.length c4) xs) := hO6
        have HB6 := hide (bj hb6 HB.out)
        have HBA := hide (World.ownsRow.alloc hO6 (Obj.cells #[.string t] 9))
        have hw6 := (bj hb6 HB.out).size
        clear hb6 hO6
        go_wp2_with (first
          | (at_builtin; refine wpList_append_own_at _ rfl _ _ 24 rfl w.heap.size 9 i0 (.string ByteArray.empty) 1 16 Try.underlying24 hi hz0 hz1 hz2 rfl (by decide) _ _ _ rfl HBA.out ⟨W6.heap.size, 0, none⟩ 1 1 [.string t] rfl rfl (new_cell _ _ _) (by intro u hu; simp at hu; subst hu; rfl) (by unfold maxLen; omega) (by omega) (by simp; omega) ?_)
          | fail)
        intro v7 w7 hown7 hgrow7 _ _
        have R7 := TBuf.more (x := t) HO6.out hw6 rfl hown7 hgrow7
        have HR7 : Hid (TBuf w.heap.size w7 v7 ((recsK img (k + 1)).map (·.1)) ∧ Below w.heap.size w w7) := by rw [HNX.out.2.2]; exact ⟨R7.1, HB6.out.trans R7.2⟩
        clear hown7 hgrow7 R7
        go_wp2_with fail
        go_roundg (img.size + 1 - endOf (recsK img (k + 1)))
        case measure => rw [HNX.out.2.1, HAE.out]; omega
        case rel => exact ⟨k + 1, HNX.out.1, rfl, by rw [HNX.out.2.1], HR7.out.1, HR7.out.2⟩
    · have hf : firstB (img.extract a img.size) = none := firstB_at_end img a (by omega)
      have HF := hide (HDONE.out hf)
      go_wp2_with fail
      go_ret2
      rw [HF.out.2]
      exact ⟨_, rfl, HF.out.1, HB.out⟩
end Go.Proofs.Ytjpdgcodjnnljaa.Msg
