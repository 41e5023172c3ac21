import Derived.Test.YtpdnocolmghnbaaDoorParseSegs
import Derived.Lib.Strings
namespace Go.Proofs.YtpdnocolmghnbaaDoor.Msg
set_option linter.unusedVariables false
set_option linter.unusedSimpArgs false

theorem piecesL_yes (l : List UInt8) (h : (cutL 13 l)[(cutL 13 l).length - 1]'(by have := cutL_pos 13 l; omega) = []) : piecesL l = (cutL 13 l).dropLast := by
  unfold piecesL
  rw [if_pos]
  rw [List.getLast?_eq_getElem?, List.getElem?_eq_getElem (by have := cutL_pos 13 l; omega), h]
theorem piecesL_no (l : List UInt8) (h : (cutL 13 l)[(cutL 13 l).length - 1]'(by have := cutL_pos 13 l; omega) ≠ []) : piecesL l = cutL 13 l := by
  unfold piecesL
  rw [if_neg]
  rw [List.getLast?_eq_getElem?, List.getElem?_eq_getElem (by have := cutL_pos 13 l; omega)]
  intro e
  injection e with e
  exact h e
theorem piecesL_at (l : List UInt8) (i : Nat) (h : i < (piecesL l).length) : ∃ h2 : i < (cutL 13 l).length, (piecesL l)[i] = (cutL 13 l)[i] := by
  by_cases hl : (cutL 13 l)[(cutL 13 l).length - 1]'(by have := cutL_pos 13 l; omega) = []
  · have e := piecesL_yes l hl
    have h' : i < ((cutL 13 l).dropLast).length := by rw [← e]; exact h
    refine ⟨by rw [List.length_dropLast] at h'; omega, ?_⟩
    have : (piecesL l)[i] = ((cutL 13 l).dropLast)[i] := by simp only [e]
    rw [this, List.getElem_dropLast]
  · have e := piecesL_no l hl
    have h' : i < (cutL 13 l).length := by rw [← e]; exact h
    exact ⟨h', by simp only [e]⟩
theorem piecesL_le (l : List UInt8) : (piecesL l).length ≤ (cutL 13 l).length := by
  unfold piecesL
  split
  · rw [List.length_dropLast]; omega
  · exact Nat.le_refl _
/-- the first piece has the whole head -/
theorem piece_first {s : ByteArray} (h : headB s = true) (h0 : 0 < (piecesL s.data.toList).length) : 8 ≤ ((piecesL s.data.toList)[0]).length := by
  obtain ⟨h2, e⟩ := piecesL_at s.data.toList 0 h0
  rw [e]
  unfold headB at h
  simp only [Bool.and_eq_true, decide_eq_true_eq] at h
  obtain ⟨h8, hm, hd, _⟩ := h
  have hl : 8 ≤ s.data.toList.length := by simpa using h8
  have hno : ∀ x ∈ s.data.toList.take 8, x ≠ 13 := by
    intro x hx
    obtain ⟨i, hi, rfl⟩ := List.getElem_of_mem hx
    have hi8 : i < 8 := by rw [List.length_take] at hi; omega
    rw [List.getElem_take]
    by_cases h3 : i < 3
    · have hm' : s.data.toList.take 3 = [77, 83, 72] := by
        have := beq_iff_eq.1 hm
        rw [ByteArray.toList_eq, Lib.extract_data] at this
        simpa using this
      have : (s.data.toList.take 3)[i]'(by rw [List.length_take]; omega) = ([77, 83, 72] : List UInt8)[i]'(by simpa using h3) := by simp only [hm']
      rw [List.getElem_take] at this
      rw [this]
      match i, h3 with
      | 0, _ => exact (by decide : (77 : UInt8) ≠ 13)
      | 1, _ => exact (by decide : (83 : UInt8) ≠ 13)
      | 2, _ => exact (by decide : (72 : UInt8) ≠ 13)
    · unfold delimsB at hd
      rw [List.all_eq_true] at hd
      have := hd (i - 3) (by simp; omega)
      have hg : (s.extract 3 8).data.toList[i - 3]? = some s.data.toList[i] := by
        rw [Lib.extract_data, List.getElem?_take, if_pos (by omega), List.getElem?_drop, show 3 + (i - 3) = i by omega, List.getElem?_eq_getElem (by omega)]
      intro hx13
      rw [hx13] at hg
      unfold newAt at this
      rw [hg] at this
      have hb : badB 13 = true := by decide
      simp [hb] at this
  obtain ⟨t, ts, hc⟩ := cutL_head 13 (s.data.toList.take 8) (s.data.toList.drop 8) hno
  rw [List.take_append_drop] at hc
  have : (cutL 13 s.data.toList)[0] = s.data.toList.take 8 ++ t := by simp only [hc, List.getElem_cons_zero]
  rw [this, List.length_append, List.length_take]
  omega

/-! one piece, case by case -/
theorem seg_4a {d : ByteArray} {hd : d.size = 5} {i : Nat} {p : List UInt8} (h : p.length < 3 ∨ nameB (txt (p.take 3)) = false ∨ (0 < i ∧ p.take 3 = [77, 83, 72])) : segL d hd i p = .error 4 := by
  unfold segL; rw [if_pos h]
theorem seg_4b {d : ByteArray} {hd : d.size = 5} {i : Nat} {p : List UInt8} (h : ¬ (p.length < 3 ∨ nameB (txt (p.take 3)) = false ∨ (0 < i ∧ p.take 3 = [77, 83, 72]))) (h2 : (restL i p).head?.any (fun c => c != d[0]) = true) : segL d hd i p = .error 4 := by
  unfold segL; rw [if_neg h, if_pos h2]
theorem seg_5 {d : ByteArray} {hd : d.size = 5} {i : Nat} {p : List UInt8} (h : ¬ (p.length < 3 ∨ nameB (txt (p.take 3)) = false ∨ (0 < i ∧ p.take 3 = [77, 83, 72]))) (h2 : (restL i p).head?.any (fun c => c != d[0]) = false)
    (h3 : 250 ≤ i ∨ longB (fieldsT d hd (restL i p)) = true) : segL d hd i p = .error 5 := by
  unfold segL; rw [if_neg h, if_neg (by rw [h2]; decide), if_pos h3]
theorem seg_6 {d : ByteArray} {hd : d.size = 5} {i : Nat} {p : List UInt8} (h : ¬ (p.length < 3 ∨ nameB (txt (p.take 3)) = false ∨ (0 < i ∧ p.take 3 = [77, 83, 72]))) (h2 : (restL i p).head?.any (fun c => c != d[0]) = false)
    (h3 : ¬ (250 ≤ i ∨ longB (fieldsT d hd (restL i p)) = true)) (h4 : allO (allO (allO (plainO d hd))) (fieldsT d hd (restL i p)) = none) : segL d hd i p = .error 6 := by
  unfold segL; rw [if_neg h, if_neg (by rw [h2]; decide), if_neg h3, h4]
theorem seg_ok {d : ByteArray} {hd : d.size = 5} {i : Nat} {p : List UInt8} (h : ¬ (p.length < 3 ∨ nameB (txt (p.take 3)) = false ∨ (0 < i ∧ p.take 3 = [77, 83, 72]))) (h2 : (restL i p).head?.any (fun c => c != d[0]) = false)
    (h3 : ¬ (250 ≤ i ∨ longB (fieldsT d hd (restL i p)) = true)) {g : List Field} (h4 : allO (allO (allO (plainO d hd))) (fieldsT d hd (restL i p)) = some g) : segL d hd i p = .ok ⟨txt (p.take 3), g⟩ := by
  unfold segL; rw [if_neg h, if_neg (by rw [h2]; decide), if_neg h3, h4]
theorem segs_start (d : ByteArray) (hd : d.size = 5) (ps : List (List UInt8)) : segsGo d hd 0 ps = (segsGo d hd 0 (ps.drop 0)).map (([] : List Seg) ++ ·) := by
  rw [List.drop_zero]
  cases segsGo d hd 0 ps <;> rfl
theorem txt_name (p : List UInt8) : (txt p).extract 0 3 = txt (p.take 3) := by rw [txt_extract, txt_data]; rfl
theorem txt_from (p : List UInt8) (a : Nat) : (txt p).extract a (txt p).size = txt (p.drop a) := by
  rw [txt_extract, txt_data, txt_size, List.take_length]
theorem txt_at0 (l : List UInt8) (h : 0 < (txt l).size) : l.head? = some ((txt l)[0]) := by
  cases l with
  | nil => simp [txt_size] at h
  | cons x l => rfl
theorem restL_len (i : Nat) (p : List UInt8) : (restL i p).length ≤ p.length := by
  unfold restL
  split <;> simp
theorem new_cells2 (w : World) (x y : Value) (t : TypeId) : ∀ (j : Nat) (u : Value), [x, y][j]? = some u → (w.alloc (.cells #[x, y] t)).cell? ((⟨w.heap.size, 0, none⟩ : Addr).add j) = some u := by
  intro j u hj
  match j with
  | 0 => simp at hj; subst hj; simp [Addr.add]
  | 1 => simp at hj; subst hj; simp [Addr.add]
  | j + 2 => simp at hj
theorem info_Seg2 : (Tryd.prog.info? 38).map (fun i => (i.zero, i.size, i.bytes)) = some (some (.agg #[.string ByteArray.empty, .slice none 0 0]), 2, 40) := by kernel_rfl
theorem one_cells2 (s : ByteArray) (a : Option Addr) (n c : Nat) : ∀ u ∈ [Value.string s, Value.slice a n c], u.oneCell' = true := by
  intro u hu
  simp only [List.mem_cons, List.not_mem_nil, or_false] at hu
  rcases hu with rfl | rfl <;> rfl
end Go.Proofs.YtpdnocolmghnbaaDoor.Msg
