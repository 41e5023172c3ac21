import Derived.Test.YtcphfhfockjljaaGreatDoorSegBufwithParseSegswithImplOk
import Derived.Lib.Strings
import Derived.Test.YtcphfhfockjljaaGreatDoorImplSegCut
import Derived.Test.YtcphfhfockjljaaGreatDoorImplSegWwithImplInwithImplSegIn
namespace Go.Proofs.YtcphfhfockjljaaGreatDoor.Msg
set_option linter.unusedVariables false
set_option linter.unusedSimpArgs false

theorem piecesL_yes (l : List UInt8) (h : (cutL 13 l)[(cutL 13 l).length - 1]'(by have := cutL_pos 13 l; omega) = []) : piecesL l = (cutL 13 l).dropLast := by
  unfold piecesL
  rw [if_pos]
  rw [List.getLast?_eq_getElem?, List.getElem?_eq_getElem (by have := cutL_pos 13 l; omega), h]
theorem piecesL_no (l : List UInt8) (h : (cutL 13 l)[(cutL 13 l).length - 1]'(by have := cutL_pos 13 l; omega) ≠ []) : piecesL l = cutL 13 l := by
  unfold piecesL
  rw [if_neg]
  rw [List.getLast?_eq_getElem?, List.getElem?_eq_getElem (by have := cutL_pos 13 l; omega)]
  intro e
  injection e with e
  exact h e
theorem piecesL_at (l : List UInt8) (i : Nat) (h : i < (piecesL l).length) : ∃ h2 : i < (cutL 13 l).length, (piecesL l)[i] = (cutL 13 l)[i] := by
  by_cases hl : (cutL 13 l)[(cutL 13 l).length - 1]'(by have := cutL_pos 13 l; omega) = []
  · have e := piecesL_yes l hl
    have h' : i < ((cutL 13 l).dropLast).length := by rw [← e]; exact h
    refine ⟨by rw [List.length_dropLast] at h'; omega, ?_⟩
    have : (piecesL l)[i] = ((cutL 13 l).dropLast)[i] := by simp only [e]
    rw [this, List.getElem_dropLast]
  · have e := piecesL_no l hl
    have h' : i < (cutL 13 l).length := by rw [← e]; exact h
    exact ⟨h', by simp only [e]⟩
theorem piecesL_le (l : List UInt8) : (piecesL l).length ≤ (cutL 13 l).length := by
  unfold piecesL
  split
  · rw [List.length_dropLast]; omega
  · exact Nat.le_refl _
/-- the first piece has the whole head -/
theorem piece_first {s : ByteArray} (h : headB s = true) (h0 : 0 < (piecesL s.data.toList).length) : 8 ≤ ((piecesL s.data.toList)[0]).length := by
  obtain ⟨h2, e⟩ := piecesL_at s.data.toList 0 h0
  rw [e]
  unfold headB at h
  simp only [Bool.and_eq_true, decide_eq_true_eq] at h
  obtain ⟨h8, hm, hd, _⟩ := h
  have hl : 8 ≤ s.data.toList.length := by simpa using h8
  have hno : ∀ x ∈ s.data.toList.take 8, x ≠ 13 := by
    intro x hx
    obtain ⟨i, hi, rfl⟩ := List.getElem_of_mem hx
    have hi8 : i < 8 := by rw [List.length_take] at hi; omega
    rw [List.getElem_take]
    by_cases h3 : i < 3
    · have hm' : s.data.toList.take 3 = [77, 83, 72] := by
        have := beq_iff_eq.1 hm
        rw [ByteArray.toList_eq, Lib.extract_data] at this
        simpa using this
      have : (s.data.toList.take 3)[i]'(by rw [List.length_take]; omega) = ([77, 83, 72] : List UInt8)[i]'(by simpa using h3) := by simp only [hm']
      rw [List.getElem_take] at this
      rw [this]
      match i, h3 with
      | 0, _ => exact (by decide : (77 : UInt8) ≠ 13)
      | 1, _ => exact (by decide : (83 : UInt8) ≠ 13)
      | 2, _ => exact (by decide : (72 : UInt8) ≠ 13)
    · unfold delimsB at hd
      rw [List.all_eq_true] at hd
      have := hd (i - 3) (by simp; omega)
      have hg : (s.extract 3 8).data.toList[i - 3]? = some s.data.toList[i] := by
        rw [Lib.extract_data, List.getElem?_take, if_pos (by omega), List.getElem?_drop, show 3 + (i - 3) = i by omega, List.getElem?_eq_getElem (by omega)]
      intro hx13
      rw [hx13] at hg
      unfold newAt at this
      rw [hg] at this
      have hb : badB 13 = true := by decide
      simp [hb] at this
  obtain ⟨t, ts, hc⟩ := cutL_head 13 (s.data.toList.take 8) (s.data.toList.drop 8) hno
  rw [List.take_append_drop] at hc
  have : (cutL 13 s.data.toList)[0] = s.data.toList.take 8 ++ t := by simp only [hc, List.getElem_cons_zero]
  rw [this, List.length_append, List.length_take]
  omega

/-! one piece, case by case -/
theorem seg_4a {d : ByteArray} {hd : d.size = 5} {i : Nat} {p : List UInt8} (h : p.length < 3 ∨ nameB (txt (p.take 3)) = false ∨ (0 < i ∧ p.take 3 = [77, 83, 72])) : segL d hd i p = .error 4 := by
  unfold segL; rw [if_pos h]
theorem seg_4b {d : ByteArray} {hd : d.size = 5} {i : Nat} {p : List UInt8} (h : ¬ (p.length < 3 ∨ nameB (txt (p.take 3)) = false ∨ (0 < i ∧ p.take 3 = [77, 83, 72]))) (h2 : (restL i p).head?.any (fun c => c != d[0]) = true) : segL d hd i p = .error 4 := by
  unfold segL; rw [if_neg h, if_pos h2]
theorem seg_5 {d : ByteArray} {hd : d.size = 5} {i : Nat} {p : List UInt8} (h : ¬ (p.length < 3 ∨ nameB (txt (p.take 3)) = false ∨ (0 < i ∧ p.take 3 = [77, 83, 72]))) (h2 : (restL i p).head?.any (fun c => c != d[0]) = false)
    (h3 : 250 ≤ i ∨ longB (fieldsT d hd (restL i p)) = true) : segL d hd i p = .error 5 := by
  unfold segL; rw [if_neg h, if_neg (by rw [h2]; decide), if_pos h3]
theorem seg_6 {d : ByteArray} {hd : d.size = 5} {i : Nat} {p : List UInt8} (h : ¬ (p.length < 3 ∨ nameB (txt (p.take 3)) = false ∨ (0 < i ∧ p.take 3 = [77, 83, 72]))) (h2 : (restL i p).head?.any (fun c => c != d[0]) = false)
    (h3 : ¬ (250 ≤ i ∨ longB (fieldsT d hd (restL i p)) = true)) (h4 : allO (allO (allO (plainO d hd))) (fieldsT d hd (restL i p)) = none) : segL d hd i p = .error 6 := by
  unfold segL; rw [if_neg h, if_neg (by rw [h2]; decide), if_neg h3, h4]
theorem seg_ok {d : ByteArray} {hd : d.size = 5} {i : Nat} {p : List UInt8} (h : ¬ (p.length < 3 ∨ nameB (txt (p.take 3)) = false ∨ (0 < i ∧ p.take 3 = [77, 83, 72]))) (h2 : (restL i p).head?.any (fun c => c != d[0]) = false)
    (h3 : ¬ (250 ≤ i ∨ longB (fieldsT d hd (restL i p)) = true)) {g : List Field} (h4 : allO (allO (allO (plainO d hd))) (fieldsT d hd (restL i p)) = some g) : segL d hd i p = .ok ⟨txt (p.take 3), g⟩ := by
  unfold segL; rw [if_neg h, if_neg (by rw [h2]; decide), if_neg h3, h4]
theorem segs_start (d : ByteArray) (hd : d.size = 5) (ps : List (List UInt8)) : segsGo d hd 0 ps = (segsGo d hd 0 (ps.drop 0)).map (([] : List Seg) ++ ·) := by
  rw [List.drop_zero]
  cases segsGo d hd 0 ps <;> rfl
theorem txt_name (p : List UInt8) : (txt p).extract 0 3 = txt (p.take 3) := by rw [txt_extract, txt_data]; rfl
theorem txt_from (p : List UInt8) (a : Nat) : (txt p).extract a (txt p).size = txt (p.drop a) := by
  rw [txt_extract, txt_data, txt_size, List.take_length]
theorem txt_at0 (l : List UInt8) (h : 0 < (txt l).size) : l.head? = some ((txt l)[0]) := by
  cases l with
  | nil => simp [txt_size] at h
  | cons x l => rfl
theorem restL_len (i : Nat) (p : List UInt8) : (restL i p).length ≤ p.length := by
  unfold restL
  split <;> simp
theorem new_cells2 (w : World) (x y : Value) (t : TypeId) : ∀ (j : Nat) (u : Value), [x, y][j]? = some u → (w.alloc (.cells #[x, y] t)).cell? ((⟨w.heap.size, 0, none⟩ : Addr).add j) = some u := by
  intro j u hj
  match j with
  | 0 => simp at hj; subst hj; simp [Addr.add]
  | 1 => simp at hj; subst hj; simp [Addr.add]
  | j + 2 => simp at hj
theorem info_Seg2 : (Tryz.prog.info? 41).map (fun i => (i.zero, i.size, i.bytes)) = some (some (.agg #[.string ByteArray.empty, .slice none 0 0]), 2, 40) := by kernel_rfl
theorem one_cells2 (s : ByteArray) (a : Option Addr) (n c : Nat) : ∀ u ∈ [Value.string s, Value.slice a n c], u.oneCell' = true := by
  intro u hu
  simp only [List.mem_cons, List.not_mem_nil, or_false] at hu
  rcases hu with rfl | rfl <;> rfl
end Go.Proofs.YtcphfhfockjljaaGreatDoor.Msg

namespace Go.Proofs.YtcphfhfockjljaaGreatDoor.Msg
set_option linter.unusedVariables false
set_option linter.unusedSimpArgs false

theorem all_same {α : Type} {p q : α → Bool} : ∀ (xs : List α), (∀ x ∈ xs, p x = q x) → xs.all p = xs.all q
  | [], _ => rfl
  | x :: xs, h => by
    rw [List.all_cons, List.all_cons, h x (by simp), all_same xs (fun y hy => h y (by simp [hy]))]
theorem keepN_last {α : Type} (p : α → Bool) : ∀ (xs : List α) (n : Nat), keepN p xs = n + 1 → ∃ h : n < xs.length, p xs[n] = false
  | [], n, h => by simp [keepN] at h
  | x :: xs, n, h => by
    simp only [keepN] at h
    cases hk : keepN p xs with
    | zero =>
      rw [hk] at h
      by_cases hp : p x = true
      · simp [hp] at h
      · have : n = 0 := by simp [hp] at h; omega
        subst this
        exact ⟨by simp, by simpa using hp⟩
    | succ m =>
      rw [hk] at h
      have : n = m + 1 := by simp at h; omega
      subst this
      obtain ⟨h1, h2⟩ := keepN_last p xs m hk
      exact ⟨by simp; omega, by simpa using h2⟩
theorem endB_trim {α β : Type} (f : List α → β) (g : β → Nat) (hg : ∀ x, x.isEmpty = false → 0 < g (f x)) (xs : List (List α)) : endB g ((trimE List.isEmpty xs).map f) = true := by
  unfold trimE
  cases hk : keepN List.isEmpty xs with
  | zero => rw [List.take_zero]; rfl
  | succ n =>
    obtain ⟨h1, h2⟩ := keepN_last _ xs n hk
    have hl : ((xs.take (n + 1)).map f).length = n + 1 := by rw [List.length_map, List.length_take]; omega
    rw [endB_at _ _ (by rw [hl]; omega)]
    have e : ((xs.take (n + 1)).map f)[((xs.take (n + 1)).map f).length - 1]'(by rw [hl]; omega) = f xs[n] := by
      simp only [hl, Nat.add_sub_cancel, List.getElem_map, List.getElem_take]
    rw [e]
    exact decide_eq_true (hg _ h2)
theorem csB_trim {α β : Type} (lim : Nat) (f : List α → β) (g : β → Nat) (hg : ∀ x, x.isEmpty = false → 0 < g (f x)) (xs : List (List α)) : csB lim g ((trimE List.isEmpty xs).map f) = decide (((trimE List.isEmpty xs).map f).length ≤ lim) := by
  unfold csB
  rw [endB_trim f g hg xs, Bool.and_true]

theorem cutGo_mem (c : UInt8) : ∀ (l cur p : List UInt8), p ∈ cutGo c cur l → ∀ x ∈ p, x ∈ cur ∨ x ∈ l
  | [], cur, p, h, x, hx => by
    simp only [cutGo, List.mem_singleton] at h
    subst h
    exact .inl hx
  | y :: l, cur, p, h, x, hx => by
    unfold cutGo at h
    split at h
    · rw [List.mem_cons] at h
      rcases h with rfl | h
      · exact .inl hx
      · rcases cutGo_mem c l [] p h x hx with h1 | h1
        · cases h1
        · exact .inr (by simp [h1])
    · rcases cutGo_mem c l (cur ++ [y]) p h x hx with h1 | h1
      · rw [List.mem_append, List.mem_singleton] at h1
        rcases h1 with h1 | h1
        · exact .inl h1
        · exact .inr (by simp [h1])
      · exact .inr (by simp [h1])
theorem cutL_mem (c : UInt8) (l p : List UInt8) (h : p ∈ cutL c l) : ∀ x ∈ p, x ∈ l := fun x hx => by
  rcases cutGo_mem c l [] p h x hx with h1 | h1
  · cases h1
  · exact h1

theorem fieldsI_eq (d0 d1 d2 : UInt8) (l : List UInt8) (h : l.head?.any (fun c => c != d0) = false) : fieldsI d0 d1 d2 l = fieldsL d0 d1 d2 l := by
  cases l with
  | nil => rfl
  | cons x l =>
    have hx : x = d0 := by simpa using h
    subst hx
    show trimE List.isEmpty (((cutL x (x :: l)).drop 1).map (repsL d1 d2)) = trimE List.isEmpty ((cutL x l).map (repsL d1 d2))
    have e : cutL x (x :: l) = [] :: cutL x l := by
      unfold cutL
      conv => lhs; unfold cutGo
      rw [if_pos rfl]
    rw [e]
    rfl

/-- inOrder of a segment that was cut, where all of it is plain -/
theorem segI_cut (name : ByteArray) (hn : nameB name = true) (d0 d1 d2 : UInt8) (l : List UInt8) (hl : l.length ≤ 40000) (hp : ∀ x ∈ l, plainC x = true) :
    segI ⟨name, (fieldsI d0 d1 d2 l).map fieldT⟩ = !longB ((fieldsI d0 d1 d2 l).map fieldT) := by
  have hcomp : ∀ p, (∀ x ∈ p, x ∈ l) → p.length ≤ 40000 → ∀ t ∈ compsL d1 p, compI (txt t) = true := fun p h1 h2 t ht => by
    have hm : t ∈ cutL d1 p := trimE_mem ht
    have h3 := cutL_sz d1 p t hm
    unfold compI plainB
    rw [txt_size, decide_eq_true (by omega), Bool.true_and, txt_data, List.all_eq_true]
    intro x hx
    exact hp x (h1 x (cutL_mem d1 p t hm x hx))
  have hrep : ∀ p, (∀ x ∈ p, x ∈ l) → p.length ≤ 40000 → repI (repT (compsL d1 p)) = repLB (repT (compsL d1 p)) := fun p h1 h2 => by
    unfold repI repLB
    have hc : csB 20 ByteArray.size (repT (compsL d1 p)) = decide ((repT (compsL d1 p)).length ≤ 20) := csB_trim 20 txt ByteArray.size (fun x hx => by
      rw [txt_size]
      cases x with
      | nil => cases hx
      | cons y x => simp) (cutL d1 p)
    rw [hc]
    have ha : (repT (compsL d1 p)).all compI = true := by
      rw [List.all_eq_true]
      intro c hc
      unfold repT at hc
      rw [List.mem_map] at hc
      obtain ⟨t, ht, rfl⟩ := hc
      exact hcomp p h1 h2 t ht
    rw [ha, Bool.and_true]
  have hfield : ∀ p, (∀ x ∈ p, x ∈ l) → p.length ≤ 40000 → fieldI (fieldT (repsL d1 d2 p)) = fldLB (fieldT (repsL d1 d2 p)) := fun p h1 h2 => by
    unfold fieldI fldLB
    have hc : csB 30 List.length (fieldT (repsL d1 d2 p)) = decide ((fieldT (repsL d1 d2 p)).length ≤ 30) := csB_trim 30 repT List.length (fun x hx => by
      cases x with
      | nil => cases hx
      | cons y x => simp [repT]) ((cutL d2 p).map (compsL d1))
    rw [hc]
    congr 1
    have ha : ∀ r ∈ fieldT (repsL d1 d2 p), repI r = repLB r := fun r hr => by
      unfold fieldT at hr
      rw [List.mem_map] at hr
      obtain ⟨y, hy, rfl⟩ := hr
      have hy := trimE_mem hy
      rw [List.mem_map] at hy
      obtain ⟨z, hz, rfl⟩ := hy
      exact hrep z (fun x hx => h1 x (cutL_mem d2 p z hz x hx)) (by have := cutL_sz d2 p z hz; omega)
    exact all_same _ ha
  unfold segI longB
  have hc : csB 30 List.length ((fieldsI d0 d1 d2 l).map fieldT) = decide (((fieldsI d0 d1 d2 l).map fieldT).length ≤ 30) := csB_trim 30 fieldT List.length (fun x hx => by
    cases x with
    | nil => cases hx
    | cons y x => simp [fieldT]) (((cutL d0 l).drop 1).map (repsL d1 d2))
  have ha : ∀ f ∈ (fieldsI d0 d1 d2 l).map fieldT, fieldI f = fldLB f := fun f hf => by
    rw [List.mem_map] at hf
    obtain ⟨y, hy, rfl⟩ := hf
    have hy := trimE_mem hy
    rw [List.mem_map] at hy
    obtain ⟨z, hz, rfl⟩ := hy
    have hz := List.mem_of_mem_drop hz
    exact hfield z (fun x hx => cutL_mem d0 l z hz x hx) (by have := cutL_sz d0 l z hz; omega)
  have hb : ((fieldsI d0 d1 d2 l).map fieldT).all fieldI = ((fieldsI d0 d1 d2 l).map fieldT).all fldLB := all_same _ ha
  show (nameB name && (csB 30 List.length ((fieldsI d0 d1 d2 l).map fieldT) && ((fieldsI d0 d1 d2 l).map fieldT).all fieldI)) = _
  rw [hn, hc, hb, Bool.true_and, Bool.not_or, Bool.not_not]
  congr 1
  by_cases h : ((fieldsI d0 d1 d2 l).map fieldT).length ≤ 30
  · rw [decide_eq_true h, decide_eq_false (by omega)]; rfl
  · rw [decide_eq_false h, decide_eq_true (by omega)]; rfl
end Go.Proofs.YtcphfhfockjljaaGreatDoor.Msg

namespace Go.Proofs.YtcphfhfockjljaaGreatDoor.Msg
open Go.ChangeShapes Go.WideShapes Go.ChangeAt Go.RowKit
set_option linter.unusedVariables false
set_option linter.unusedSimpArgs false

/-- what startsSegment says of a piece that is not the first -/
def startB (p : List UInt8) (m : UInt8) : Bool := decide (3 ≤ p.length) && (nameB (txt (p.take 3)) && (!(p.take 3 == [77, 83, 72]) && !((p.drop 3).head?.any (fun c => c != m))))

theorem txt_at (p : List UInt8) (i : Nat) (h : i < (txt p).size) (h2 : i < p.length) : (txt p)[i]'h = p[i]'h2 := by
  show (txt p).data[i]'h = p[i]
  simp [txt]
theorem start_cmp (p : List UInt8) (m : UInt8) (h : 3 < (txt p).size) : (!((p.drop 3).head?.any (fun c => c != m))) = ((((txt p)[3]'h).toNat : Int) == (m.toNat : Int)) := by
  have hp : 3 < p.length := by rw [txt_size] at h; exact h
  have e : (p.drop 3).head? = some (p[3]'hp) := by rw [List.head?_drop, List.getElem?_eq_getElem hp]
  rw [e, txt_at p 3 h hp]
  generalize p[3]'hp = x
  show (!(x != m)) = _
  by_cases hx : x = m
  · rw [hx]; simp
  · have h1 : (x != m) = true := by rw [bne_iff_ne]; exact hx
    rw [h1]
    symm
    show _ = false
    rw [beq_eq_false_iff_ne]
    intro h2
    exact hx (UInt8.toNat_inj.1 (by omega))
set_option maxHeartbeats 2000000 in
theorem starts_any (p : List UInt8) (i : Nat) (m : UInt8) (w : World) (hp : p.length ≤ 40000) (hi : i ≤ 1048576) :
    Calls Tryz.prog 47 #[.string (txt p), .int .i64 (i : Int), .int .u8 (m.toNat : Int)] w fun e w' => e = .returned (.bool (decide (i = 0) || startB p m)) ∧ w' = w := by
  have HTS := hide (txt_size p)
  have hps : (txt p).size ≤ 40000 := by rw [txt_size]; exact hp
  have HSB : Hid (startB p m = (decide (3 ≤ p.length) && (nameB (txt (p.take 3)) && (!(p.take 3 == [77, 83, 72]) && !((p.drop 3).head?.any (fun c => c != m)))))) := rfl
  by_cases hi0 : i = 0
  · have hi' : ((i : Int) == 0) = true := by rw [beq_iff_eq]; omega
    have HX : Hid ((decide (i = 0) || startB p m) = true) := by rw [decide_eq_true hi0]; rfl
    clear hi0
    go_enter Tryz.func47, Tryz.ntmps47
    go_wp2_with fail
    go_ret
    exact ⟨ret_bool HX.out.symm, rfl⟩
  have hi' : ((i : Int) == 0) = false := by rw [beq_eq_false_iff_ne]; omega
  have HX0 : Hid ((decide (i = 0) || startB p m) = startB p m) := by rw [decide_eq_false hi0]; rfl
  clear hi0
  by_cases h3 : ((txt p).size : Int) < 3
  · have HX : Hid (startB p m = false) := by rw [HSB.out, decide_eq_false (p := 3 ≤ p.length) (by have := HTS.out; omega)]; rfl
    go_enter Tryz.func47, Tryz.ntmps47
    go_wp2_with fail
    go_ret
    exact ⟨ret_bool (by rw [HX0.out, HX.out]), rfl⟩
  have h3' : (3 : Int) ≤ ((txt p).size : Int) := by omega
  have HTN := hide (txt_name p)
  have hns : ((txt p).extract 0 3).size ≤ 9223372036854775807 := by rw [ByteArray.size_extract]; omega
  have HS1 : Hid (startB p m = (nameB ((txt p).extract 0 3) && (!(((txt p).extract 0 3).toList == [77, 83, 72]) && !((p.drop 3).head?.any (fun c => c != m))))) := by
    rw [HSB.out, decide_eq_true (p := 3 ≤ p.length) (by have := HTS.out; omega), Bool.true_and, HTN.out, txt_toList]; trivial
  cases hnb : nameB ((txt p).extract 0 3)
  · have HX : Hid (startB p m = false) := by rw [HS1.out, hnb]; rfl
    have HNB := hide hnb
    clear hnb
    go_enter Tryz.func47, Tryz.ntmps47
    go_wp2_with fail
    refine (isSegmentName_any _ _ hns).mono ?_
    rintro e w2 ⟨rfl, rfl⟩
    rw [HNB.out]
    go_wp2_with fail
    go_ret
    exact ⟨ret_bool (by rw [HX0.out, HX.out]), rfl⟩
  have HNB := hide hnb
  cases hmm : (((txt p).extract 0 3).toList == [77, 83, 72])
  · have HS2 : Hid (startB p m = !((p.drop 3).head?.any (fun c => c != m))) := by rw [HS1.out, hnb, hmm]; rfl
    clear hnb
    by_cases h33 : (txt p).size = 3
    · have h33' : (((txt p).size : Int) == 3) = true := by rw [beq_iff_eq]; omega
      have HX : Hid (startB p m = true) := by
        rw [HS2.out, List.drop_eq_nil_of_le (by have := HTS.out; omega)]; rfl
      clear h33
      go_enter Tryz.func47, Tryz.ntmps47
      go_wp2_with fail
      refine (isSegmentName_any _ _ hns).mono ?_
      rintro e w2 ⟨rfl, rfl⟩
      rw [HNB.out]
      go_wp2_with fail
      go_ret
      exact ⟨ret_bool (by rw [HX0.out, HX.out]), rfl⟩
    · have h33' : (((txt p).size : Int) == 3) = false := by rw [beq_eq_false_iff_ne]; omega
      have h34 : (3 : Int) < ((txt p).size : Int) := by omega
      have h34n : 3 < (txt p).size := by omega
      have HX : Hid (startB p m = ((((txt p)[3]'h34n).toNat : Int) == (m.toNat : Int))) := by rw [HS2.out]; exact start_cmp p m h34n
      clear h33
      go_enter Tryz.func47, Tryz.ntmps47
      go_wp2_with fail
      refine (isSegmentName_any _ _ hns).mono ?_
      rintro e w2 ⟨rfl, rfl⟩
      rw [HNB.out]
      go_wp2_with fail
      go_ret
      exact ⟨ret_bool (by rw [HX0.out, HX.out]), rfl⟩
  · have HX : Hid (startB p m = false) := by rw [HS1.out, hnb, hmm]; rfl
    clear hnb
    go_enter Tryz.func47, Tryz.ntmps47
    go_wp2_with fail
    refine (isSegmentName_any _ _ hns).mono ?_
    rintro e w2 ⟨rfl, rfl⟩
    rw [HNB.out]
    go_wp2_with fail
    go_ret
    exact ⟨ret_bool (by rw [HX0.out, HX.out]), rfl⟩
end Go.Proofs.YtcphfhfockjljaaGreatDoor.Msg
