import Derived.Test.YtfcmhnfdbobnlaaGreatDoorParseSegswithImplCswithImplShort
import Derived.Lib.Strings
import Derived.Test.YtfcmhnfdbobnlaaGreatDoorWRequestwithWReqAllwithSpecWReq
import Derived.Deep.DeepCutAuto
namespace Go.Proofs.YtfcmhnfdbobnlaaGreatDoor.Msg
set_option linter.unusedVariables false
set_option linter.unusedSimpArgs false

theorem piecesL_yes (l : List UInt8) (h : (cutL 13 l)[(cutL 13 l).length - 1]'(by have := cutL_pos 13 l; omega) = []) : piecesL l = (cutL 13 l).dropLast := by
  unfold piecesL
  rw [if_pos]
  rw [List.getLast?_eq_getElem?, List.getElem?_eq_getElem (by have := cutL_pos 13 l; omega), h]
theorem piecesL_no (l : List UInt8) (h : (cutL 13 l)[(cutL 13 l).length - 1]'(by have := cutL_pos 13 l; omega) ≠ []) : piecesL l = cutL 13 l := by
  unfold piecesL
  rw [if_neg]
  rw [List.getLast?_eq_getElem?, List.getElem?_eq_getElem (by have := cutL_pos 13 l; omega)]
  intro e
  injection e with e
  exact h e
theorem piecesL_at (l : List UInt8) (i : Nat) (h : i < (piecesL l).length) : ∃ h2 : i < (cutL 13 l).length, (piecesL l)[i] = (cutL 13 l)[i] := by
  by_cases hl : (cutL 13 l)[(cutL 13 l).length - 1]'(by have := cutL_pos 13 l; omega) = []
  · have e := piecesL_yes l hl
    have h' : i < ((cutL 13 l).dropLast).length := by rw [← e]; exact h
    refine ⟨by rw [List.length_dropLast] at h'; omega, ?_⟩
    have : (piecesL l)[i] = ((cutL 13 l).dropLast)[i] := by simp only [e]
    rw [this, List.getElem_dropLast]
  · have e := piecesL_no l hl
    have h' : i < (cutL 13 l).length := by rw [← e]; exact h
    exact ⟨h', by simp only [e]⟩
theorem piecesL_le (l : List UInt8) : (piecesL l).length ≤ (cutL 13 l).length := by
  unfold piecesL
  split
  · rw [List.length_dropLast]; omega
  · exact Nat.le_refl _
/-- the first piece has the whole head -/
theorem piece_first {s : ByteArray} (h : headB s = true) (h0 : 0 < (piecesL s.data.toList).length) : 8 ≤ ((piecesL s.data.toList)[0]).length := by
  obtain ⟨h2, e⟩ := piecesL_at s.data.toList 0 h0
  rw [e]
  unfold headB at h
  simp only [Bool.and_eq_true, decide_eq_true_eq] at h
  obtain ⟨h8, hm, hd, _⟩ := h
  have hl : 8 ≤ s.data.toList.length := by simpa using h8
  have hno : ∀ x ∈ s.data.toList.take 8, x ≠ 13 := by
    intro x hx
    obtain ⟨i, hi, rfl⟩ := List.getElem_of_mem hx
    have hi8 : i < 8 := by rw [List.length_take] at hi; omega
    rw [List.getElem_take]
    by_cases h3 : i < 3
    · have hm' : s.data.toList.take 3 = [77, 83, 72] := by
        have := beq_iff_eq.1 hm
        rw [ByteArray.toList_eq, Lib.extract_data] at this
        simpa using this
      have : (s.data.toList.take 3)[i]'(by rw [List.length_take]; omega) = ([77, 83, 72] : List UInt8)[i]'(by simpa using h3) := by simp only [hm']
      rw [List.getElem_take] at this
      rw [this]
      match i, h3 with
      | 0, _ => exact (by decide : (77 : UInt8) ≠ 13)
      | 1, _ => exact (by decide : (83 : UInt8) ≠ 13)
      | 2, _ => exact (by decide : (72 : UInt8) ≠ 13)
    · unfold delimsB at hd
      rw [List.all_eq_true] at hd
      have := hd (i - 3) (by simp; omega)
      have hg : (s.extract 3 8).data.toList[i - 3]? = some s.data.toList[i] := by
        rw [Lib.extract_data, List.getElem?_take, if_pos (by omega), List.getElem?_drop, show 3 + (i - 3) = i by omega, List.getElem?_eq_getElem (by omega)]
      intro hx13
      rw [hx13] at hg
      unfold newAt at this
      rw [hg] at this
      have hb : badB 13 = true := by decide
      simp [hb] at this
  obtain ⟨t, ts, hc⟩ := cutL_head 13 (s.data.toList.take 8) (s.data.toList.drop 8) hno
  rw [List.take_append_drop] at hc
  have : (cutL 13 s.data.toList)[0] = s.data.toList.take 8 ++ t := by simp only [hc, List.getElem_cons_zero]
  rw [this, List.length_append, List.length_take]
  omega

/-! one piece, case by case -/
theorem seg_4a {d : ByteArray} {hd : d.size = 5} {i : Nat} {p : List UInt8} (h : p.length < 3 ∨ nameB (txt (p.take 3)) = false ∨ (0 < i ∧ p.take 3 = [77, 83, 72])) : segL d hd i p = .error 4 := by
  unfold segL; rw [if_pos h]
theorem seg_4b {d : ByteArray} {hd : d.size = 5} {i : Nat} {p : List UInt8} (h : ¬ (p.length < 3 ∨ nameB (txt (p.take 3)) = false ∨ (0 < i ∧ p.take 3 = [77, 83, 72]))) (h2 : (restL i p).head?.any (fun c => c != d[0]) = true) : segL d hd i p = .error 4 := by
  unfold segL; rw [if_neg h, if_pos h2]
theorem seg_5 {d : ByteArray} {hd : d.size = 5} {i : Nat} {p : List UInt8} (h : ¬ (p.length < 3 ∨ nameB (txt (p.take 3)) = false ∨ (0 < i ∧ p.take 3 = [77, 83, 72]))) (h2 : (restL i p).head?.any (fun c => c != d[0]) = false)
    (h3 : 250 ≤ i ∨ longB (fieldsT d hd (restL i p)) = true) : segL d hd i p = .error 5 := by
  unfold segL; rw [if_neg h, if_neg (by rw [h2]; decide), if_pos h3]
theorem seg_6 {d : ByteArray} {hd : d.size = 5} {i : Nat} {p : List UInt8} (h : ¬ (p.length < 3 ∨ nameB (txt (p.take 3)) = false ∨ (0 < i ∧ p.take 3 = [77, 83, 72]))) (h2 : (restL i p).head?.any (fun c => c != d[0]) = false)
    (h3 : ¬ (250 ≤ i ∨ longB (fieldsT d hd (restL i p)) = true)) (h4 : allO (allO (allO (plainO d hd))) (fieldsT d hd (restL i p)) = none) : segL d hd i p = .error 6 := by
  unfold segL; rw [if_neg h, if_neg (by rw [h2]; decide), if_neg h3, h4]
theorem seg_ok {d : ByteArray} {hd : d.size = 5} {i : Nat} {p : List UInt8} (h : ¬ (p.length < 3 ∨ nameB (txt (p.take 3)) = false ∨ (0 < i ∧ p.take 3 = [77, 83, 72]))) (h2 : (restL i p).head?.any (fun c => c != d[0]) = false)
    (h3 : ¬ (250 ≤ i ∨ longB (fieldsT d hd (restL i p)) = true)) {g : List Field} (h4 : allO (allO (allO (plainO d hd))) (fieldsT d hd (restL i p)) = some g) : segL d hd i p = .ok ⟨txt (p.take 3), g⟩ := by
  unfold segL; rw [if_neg h, if_neg (by rw [h2]; decide), if_neg h3, h4]
theorem segs_start (d : ByteArray) (hd : d.size = 5) (ps : List (List UInt8)) : segsGo d hd 0 ps = (segsGo d hd 0 (ps.drop 0)).map (([] : List Seg) ++ ·) := by
  rw [List.drop_zero]
  cases segsGo d hd 0 ps <;> rfl
theorem txt_name (p : List UInt8) : (txt p).extract 0 3 = txt (p.take 3) := by rw [txt_extract, txt_data]; rfl
theorem txt_from (p : List UInt8) (a : Nat) : (txt p).extract a (txt p).size = txt (p.drop a) := by
  rw [txt_extract, txt_data, txt_size, List.take_length]
theorem txt_at0 (l : List UInt8) (h : 0 < (txt l).size) : l.head? = some ((txt l)[0]) := by
  cases l with
  | nil => simp [txt_size] at h
  | cons x l => rfl
theorem restL_len (i : Nat) (p : List UInt8) : (restL i p).length ≤ p.length := by
  unfold restL
  split <;> simp
theorem new_cells2 (w : World) (x y : Value) (t : TypeId) : ∀ (j : Nat) (u : Value), [x, y][j]? = some u → (w.alloc (.cells #[x, y] t)).cell? ((⟨w.heap.size, 0, none⟩ : Addr).add j) = some u := by
  intro j u hj
  match j with
  | 0 => simp at hj; subst hj; simp [Addr.add]
  | 1 => simp at hj; subst hj; simp [Addr.add]
  | j + 2 => simp at hj
theorem info_Seg2 : (Tryz.prog.info? 45).map (fun i => (i.zero, i.size, i.bytes)) = some (some (.agg #[.string ByteArray.empty, .slice none 0 0]), 2, 40) := by kernel_rfl
theorem one_cells2 (s : ByteArray) (a : Option Addr) (n c : Nat) : ∀ u ∈ [Value.string s, Value.slice a n c], u.oneCell' = true := by
  intro u hu
  simp only [List.mem_cons, List.not_mem_nil, or_false] at hu
  rcases hu with rfl | rfl <;> rfl
end Go.Proofs.YtfcmhnfdbobnlaaGreatDoor.Msg

namespace Go.Proofs.YtfcmhnfdbobnlaaGreatDoor.Msg
open Go.ChangeShapes Go.WideShapes Go.ChangeAt Go.RowKit
set_option linter.unusedVariables false
set_option linter.unusedSimpArgs false

theorem words2_at (w : World) (s t : ByteArray) (hs : s.size ≤ 1048576) (ht : t.size ≤ 1048576) : StrsAt 0 (w.alloc (Obj.cells #[.string s, .string t] 9)) (.slice (some ⟨w.heap.size, 0, none⟩) 2 2) [s, t] :=
  words_at w [s, t] (by intro x hx; simp at hx; rcases hx with rfl | rfl <;> omega) (by simp)
theorem words3_at (w : World) (s t q : ByteArray) (hs : s.size ≤ 1048576) (ht : t.size ≤ 1048576) (hq : q.size ≤ 1048576) : StrsAt 0 (w.alloc (Obj.cells #[.string s, .string t, .string q] 9)) (.slice (some ⟨w.heap.size, 0, none⟩) 3 3) [s, t, q] :=
  words_at w [s, t, q] (by intro x hx; simp at hx; rcases hx with rfl | rfl | rfl <;> omega) (by simp)
theorem two_le {s t : ByteArray} : [s, t].length ≤ 1000 := by simp
theorem three_le {s t q : ByteArray} : [s, t, q].length ≤ 1000 := by simp
theorem two_sz {s t : ByteArray} (h : s.size ≤ 1048576) (h2 : t.size ≤ 1048576) : ∀ x ∈ [s, t], x.size ≤ 1048576 := fun x hx => by
  simp at hx; rcases hx with rfl | rfl <;> assumption
theorem three_sz {s t q : ByteArray} (h : s.size ≤ 1048576) (h2 : t.size ≤ 1048576) (h3 : q.size ≤ 1048576) : ∀ x ∈ [s, t, q], x.size ≤ 1048576 := fun x hx => by
  simp at hx; rcases hx with rfl | rfl | rfl <;> assumption
/-- a third segment behind two -/
theorem three_segs {lo : Nat} {w3 w5 w6 : World} {x y z : Seg} {a b c v' : Value} (hlo : lo ≤ w3.heap.size) (ha : FieldsAt lo w3 a x.fields) (hb : FieldsAt lo w3 b y.fields) {l5 : Nat} (hc : FieldsAt l5 w5 c z.fields) (hl5 : w3.heap.size + 1 ≤ l5)
    (hb5 : Below (w3.heap.size + 1) (w3.alloc (Obj.cells #[.string x.name, a, .string y.name, b] 45)) w5) (o : Obj)
    (hown : w6.ownsRow lo 45 2 v' 3 (segCells [x, y] [a, b] ++ [.string z.name, c])) (hg : (w5.alloc o).grownBy w6 (some w3.heap.size))
    (hx : x.name.size ≤ 9223372036854775807) (hy : y.name.size ≤ 9223372036854775807) (hz : z.name.size ≤ 9223372036854775807) : SegsAt lo w6 v' [x, y, z] := by
  have s5 := hb5.size
  rw [Deep.nblk_alloc] at s5
  have s6 := hg.size
  rw [Deep.nblk_alloc] at s6
  have q : Below w3.heap.size w3 w5 := ⟨hb5.os, hb5.tape, hb5.output, by omega, fun k hk => (hb5.block k (by omega)).trans (Deep.blk_alloc_lt _ _ _ hk)⟩
  have q6 : ∀ k, k < w5.heap.size → k ≠ w3.heap.size → w6.heap[k]? = w5.heap[k]? := fun k hk hne => (hg.block k (by rw [Deep.nblk_alloc]; omega) (by intro e; injection e with e; exact hne e)).trans (Deep.blk_alloc_lt _ _ _ hk)
  have hs3 : Same lo w3 w6 := ⟨by omega, fun k _ hk => (q6 k (by omega) (by omega)).trans (q.block k hk)⟩
  have hs5 : Same l5 w5 w6 := ⟨by omega, fun k h1 hk => q6 k hk (by omega)⟩
  refine segs_of_row [x, y, z] [a, b, c] rfl hown (Nat.le_refl _) ?_ (by simp) ?_
  · intro s hs
    simp only [List.mem_cons, List.not_mem_nil, or_false] at hs
    rcases hs with rfl | rfl | rfl <;> assumption
  · intro i h h'
    match i, h with
    | 0, _ => exact At.same kept_field ha hs3
    | 1, _ => exact At.same kept_field hb hs3
    | 2, _ => exact low_at (At.same kept_field hc hs5) (by omega)

end Go.Proofs.YtfcmhnfdbobnlaaGreatDoor.Msg
