import Derived.Test.YtjpdgcodjnnljaaParseSegswithImplOk
import Derived.Lib.Strings
import Derived.Test.YtjpdgcodjnnljaaWReqAllwithSpecWReq
import Derived.Deep.DeepCutAuto
namespace Go.Proofs.Ytjpdgcodjnnljaa.Msg
set_option linter.unusedVariables false
set_option linter.unusedSimpArgs false

theorem piecesL_yes (l : List UInt8) (h : (cutL 13 l)[(cutL 13 l).length - 1]'(by have := cutL_pos 13 l; omega) = []) : piecesL l = (cutL 13 l).dropLast := by
  unfold piecesL
  rw [if_pos]
  rw [List.getLast?_eq_getElem?, List.getElem?_eq_getElem (by have := cutL_pos 13 l; omega), h]
theorem piecesL_no (l : List UInt8) (h : (cutL 13 l)[(cutL 13 l).length - 1]'(by have := cutL_pos 13 l; omega) ≠ []) : piecesL l = cutL 13 l := by
  unfold piecesL
  rw [if_neg]
  rw [List.getLast?_eq_getElem?, List.getElem?_eq_getElem (by have := cutL_pos 13 l; omega)]
  intro e
  injection e with e
  exact h e
theorem piecesL_at (l : List UInt8) (i : Nat) (h : i < (piecesL l).length) : ∃ h2 : i < (cutL 13 l).length, (piecesL l)[i] = (cutL 13 l)[i] := by
  by_cases hl : (cutL 13 l)[(cutL 13 l).length - 1]'(by have := cutL_pos 13 l; omega) = []
  · have e := piecesL_yes l hl
    have h' : i < ((cutL 13 l).dropLast).length := by rw [← e]; exact h
    refine ⟨by rw [List.length_dropLast] at h'; omega, ?_⟩
    have : (piecesL l)[i] = ((cutL 13 l).dropLast)[i] := by simp only [e]
    rw [this, List.getElem_dropLast]
  · have e := piecesL_no l hl
    have h' : i < (cutL 13 l).length := by rw [← e]; exact h
    exact ⟨h', by simp only [e]⟩
theorem piecesL_le (l : List UInt8) : (piecesL l).length ≤ (cutL 13 l).length := by
  unfold piecesL
  split
  · rw [List.length_dropLast]; omega
  · exact Nat.le_refl _
/-- the first piece has the whole head -/
theorem piece_first {s : ByteArray} (h : headB s = true) (h0 : 0 < (piecesL s.data.toList).length) : 8 ≤ ((piecesL s.data.toList)[0]).length := by
  obtain ⟨h2, e⟩ := piecesL_at s.data.toList 0 h0
  rw [e]
  unfold headB at h
  simp only [Bool.and_eq_true, decide_eq_true_eq] at h
  obtain ⟨h8, hm, hd, _⟩ := h
  have hl : 8 ≤ s.data.toList.length := by simpa using h8
  have hno : ∀ x ∈ s.data.toList.take 8, x ≠ 13 := by
    intro x hx
    obtain ⟨i, hi, rfl⟩ := List.getElem_of_mem hx
    have hi8 : i < 8 := by rw [List.length_take] at hi; omega
    rw [List.getElem_take]
    by_cases h3 : i < 3
    · have hm' : s.data.toList.take 3 = [77, 83, 72] := by
        have := beq_iff_eq.1 hm
        rw [ByteArray.toList_eq, Lib.extract_data] at this
        simpa using this
      have : (s.data.toList.take 3)[i]'(by rw [List.length_take]; omega) = ([77, 83, 72] : List UInt8)[i]'(by simpa using h3) := by simp only [hm']
      rw [List.getElem_take] at this
      rw [this]
      match i, h3 with
      | 0, _ => exact (by decide : (77 : UInt8) ≠ 13)
      | 1, _ => exact (by decide : (83 : UInt8) ≠ 13)
      | 2, _ => exact (by decide : (72 : UInt8) ≠ 13)
    · unfold delimsB at hd
      rw [List.all_eq_true] at hd
      have := hd (i - 3) (by simp; omega)
      have hg : (s.extract 3 8).data.toList[i - 3]? = some s.data.toList[i] := by
        rw [Lib.extract_data, List.getElem?_take, if_pos (by omega), List.getElem?_drop, show 3 + (i - 3) = i by omega, List.getElem?_eq_getElem (by omega)]
      intro hx13
      rw [hx13] at hg
      unfold newAt at this
      rw [hg] at this
      have hb : badB 13 = true := by decide
      simp [hb] at this
  obtain ⟨t, ts, hc⟩ := cutL_head 13 (s.data.toList.take 8) (s.data.toList.drop 8) hno
  rw [List.take_append_drop] at hc
  have : (cutL 13 s.data.toList)[0] = s.data.toList.take 8 ++ t := by simp only [hc, List.getElem_cons_zero]
  rw [this, List.length_append, List.length_take]
  omega

/-! one piece, case by case -/
theorem seg_4a {d : ByteArray} {hd : d.size = 5} {i : Nat} {p : List UInt8} (h : p.length < 3 ∨ nameB (txt (p.take 3)) = false ∨ (0 < i ∧ p.take 3 = [77, 83, 72])) : segL d hd i p = .error 4 := by
  unfold segL; rw [if_pos h]
theorem seg_4b {d : ByteArray} {hd : d.size = 5} {i : Nat} {p : List UInt8} (h : ¬ (p.length < 3 ∨ nameB (txt (p.take 3)) = false ∨ (0 < i ∧ p.take 3 = [77, 83, 72]))) (h2 : (restL i p).head?.any (fun c => c != d[0]) = true) : segL d hd i p = .error 4 := by
  unfold segL; rw [if_neg h, if_pos h2]
theorem seg_5 {d : ByteArray} {hd : d.size = 5} {i : Nat} {p : List UInt8} (h : ¬ (p.length < 3 ∨ nameB (txt (p.take 3)) = false ∨ (0 < i ∧ p.take 3 = [77, 83, 72]))) (h2 : (restL i p).head?.any (fun c => c != d[0]) = false)
    (h3 : 250 ≤ i ∨ longB (fieldsT d hd (restL i p)) = true) : segL d hd i p = .error 5 := by
  unfold segL; rw [if_neg h, if_neg (by rw [h2]; decide), if_pos h3]
theorem seg_6 {d : ByteArray} {hd : d.size = 5} {i : Nat} {p : List UInt8} (h : ¬ (p.length < 3 ∨ nameB (txt (p.take 3)) = false ∨ (0 < i ∧ p.take 3 = [77, 83, 72]))) (h2 : (restL i p).head?.any (fun c => c != d[0]) = false)
    (h3 : ¬ (250 ≤ i ∨ longB (fieldsT d hd (restL i p)) = true)) (h4 : allO (allO (allO (plainO d hd))) (fieldsT d hd (restL i p)) = none) : segL d hd i p = .error 6 := by
  unfold segL; rw [if_neg h, if_neg (by rw [h2]; decide), if_neg h3, h4]
theorem seg_ok {d : ByteArray} {hd : d.size = 5} {i : Nat} {p : List UInt8} (h : ¬ (p.length < 3 ∨ nameB (txt (p.take 3)) = false ∨ (0 < i ∧ p.take 3 = [77, 83, 72]))) (h2 : (restL i p).head?.any (fun c => c != d[0]) = false)
    (h3 : ¬ (250 ≤ i ∨ longB (fieldsT d hd (restL i p)) = true)) {g : List Field} (h4 : allO (allO (allO (plainO d hd))) (fieldsT d hd (restL i p)) = some g) : segL d hd i p = .ok ⟨txt (p.take 3), g⟩ := by
  unfold segL; rw [if_neg h, if_neg (by rw [h2]; decide), if_neg h3, h4]
theorem segs_start (d : ByteArray) (hd : d.size = 5) (ps : List (List UInt8)) : segsGo d hd 0 ps = (segsGo d hd 0 (ps.drop 0)).map (([] : List Seg) ++ ·) := by
  rw [List.drop_zero]
  cases segsGo d hd 0 ps <;> rfl
theorem txt_name (p : List UInt8) : (txt p).extract 0 3 = txt (p.take 3) := by rw [txt_extract, txt_data]; rfl
theorem txt_from (p : List UInt8) (a : Nat) : (txt p).extract a (txt p).size = txt (p.drop a) := by
  rw [txt_extract, txt_data, txt_size, List.take_length]
theorem txt_at0 (l : List UInt8) (h : 0 < (txt l).size) : l.head? = some ((txt l)[0]) := by
  cases l with
  | nil => simp [txt_size] at h
  | cons x l => rfl
theorem restL_len (i : Nat) (p : List UInt8) : (restL i p).length ≤ p.length := by
  unfold restL
  split <;> simp
theorem new_cells2 (w : World) (x y : Value) (t : TypeId) : ∀ (j : Nat) (u : Value), [x, y][j]? = some u → (w.alloc (.cells #[x, y] t)).cell? ((⟨w.heap.size, 0, none⟩ : Addr).add j) = some u := by
  intro j u hj
  match j with
  | 0 => simp at hj; subst hj; simp [Addr.add]
  | 1 => simp at hj; subst hj; simp [Addr.add]
  | j + 2 => simp at hj
theorem info_Seg2 : (Try.prog.info? 111).map (fun i => (i.zero, i.size, i.bytes)) = some (some (.agg #[.string ByteArray.empty, .slice none 0 0]), 2, 40) := by kernel_rfl
theorem one_cells2 (s : ByteArray) (a : Option Addr) (n c : Nat) : ∀ u ∈ [Value.string s, Value.slice a n c], u.oneCell' = true := by
  intro u hu
  simp only [List.mem_cons, List.not_mem_nil, or_false] at hu
  rcases hu with rfl | rfl <;> rfl
end Go.Proofs.Ytjpdgcodjnnljaa.Msg

namespace Go.Proofs.Ytjpdgcodjnnljaa.Msg
open Go.ChangeShapes Go.WideShapes Go.ChangeAt Go.RowKit
set_option linter.unusedVariables false
set_option linter.unusedSimpArgs false

theorem words2_at (w : World) (s t : ByteArray) (hs : s.size ≤ 1048576) (ht : t.size ≤ 1048576) : StrsAt 0 (w.alloc (Obj.cells #[.string s, .string t] 9)) (.slice (some ⟨w.heap.size, 0, none⟩) 2 2) [s, t] :=
  words_at w [s, t] (by intro x hx; simp at hx; rcases hx with rfl | rfl <;> omega) (by simp)
theorem words3_at (w : World) (s t q : ByteArray) (hs : s.size ≤ 1048576) (ht : t.size ≤ 1048576) (hq : q.size ≤ 1048576) : StrsAt 0 (w.alloc (Obj.cells #[.string s, .string t, .string q] 9)) (.slice (some ⟨w.heap.size, 0, none⟩) 3 3) [s, t, q] :=
  words_at w [s, t, q] (by intro x hx; simp at hx; rcases hx with rfl | rfl | rfl <;> omega) (by simp)
theorem two_le {s t : ByteArray} : [s, t].length ≤ 1000 := by simp
theorem three_le {s t q : ByteArray} : [s, t, q].length ≤ 1000 := by simp
theorem two_sz {s t : ByteArray} (h : s.size ≤ 1048576) (h2 : t.size ≤ 1048576) : ∀ x ∈ [s, t], x.size ≤ 1048576 := fun x hx => by
  simp at hx; rcases hx with rfl | rfl <;> assumption
theorem three_sz {s t q : ByteArray} (h : s.size ≤ 1048576) (h2 : t.size ≤ 1048576) (h3 : q.size ≤ 1048576) : ∀ x ∈ [s, t, q], x.size ≤ 1048576 := fun x hx => by
  simp at hx; rcases hx with rfl | rfl | rfl <;> assumption
/-- a third segment behind two -/
theorem three_segs {lo : Nat} {w3 w5 w6 : World} {x y z : Seg} {a b c v' : Value} (hlo : lo ≤ w3.heap.size) (ha : FieldsAt lo w3 a x.fields) (hb : FieldsAt lo w3 b y.fields) {l5 : Nat} (hc : FieldsAt l5 w5 c z.fields) (hl5 : w3.heap.size + 1 ≤ l5)
    (hb5 : Below (w3.heap.size + 1) (w3.alloc (Obj.cells #[.string x.name, a, .string y.name, b] 111)) w5) (o : Obj)
    (hown : w6.ownsRow lo 111 2 v' 3 (segCells [x, y] [a, b] ++ [.string z.name, c])) (hg : (w5.alloc o).grownBy w6 (some w3.heap.size))
    (hx : x.name.size ≤ 9223372036854775807) (hy : y.name.size ≤ 9223372036854775807) (hz : z.name.size ≤ 9223372036854775807) : SegsAt lo w6 v' [x, y, z] := by
  have s5 := hb5.size
  rw [Deep.nblk_alloc] at s5
  have s6 := hg.size
  rw [Deep.nblk_alloc] at s6
  have q : Below w3.heap.size w3 w5 := ⟨hb5.os, hb5.tape, hb5.output, by omega, fun k hk => (hb5.block k (by omega)).trans (Deep.blk_alloc_lt _ _ _ hk)⟩
  have q6 : ∀ k, k < w5.heap.size → k ≠ w3.heap.size → w6.heap[k]? = w5.heap[k]? := fun k hk hne => (hg.block k (by rw [Deep.nblk_alloc]; omega) (by intro e; injection e with e; exact hne e)).trans (Deep.blk_alloc_lt _ _ _ hk)
  have hs3 : Same lo w3 w6 := ⟨by omega, fun k _ hk => (q6 k (by omega) (by omega)).trans (q.block k hk)⟩
  have hs5 : Same l5 w5 w6 := ⟨by omega, fun k h1 hk => q6 k hk (by omega)⟩
  refine segs_of_row [x, y, z] [a, b, c] rfl hown (Nat.le_refl _) ?_ (by simp) ?_
  · intro s hs
    simp only [List.mem_cons, List.not_mem_nil, or_false] at hs
    rcases hs with rfl | rfl | rfl <;> assumption
  · intro i h h'
    match i, h with
    | 0, _ => exact At.same kept_field ha hs3
    | 1, _ => exact At.same kept_field hb hs3
    | 2, _ => exact low_at (At.same kept_field hc hs5) (by omega)

set_option maxRecDepth 100000 in
set_option maxHeartbeats 4000000 in
theorem writeS_next (control tag query pointer : ByteArray) (page : Int) (w : World) (h1 : control.size ≤ 1048576) (h2 : tag.size ≤ 1048576) (h3 : query.size ≤ 1048576) (h4 : pointer.size ≤ 1048576) (hok : okR ⟨2, control, tag, query, page, pointer⟩ = true) :
    Calls Try.prog 36 #[reqV ⟨2, control, tag, query, page, pointer⟩] w (ReadPost w (nextM control tag query pointer)) := by
  unfold reqV
  obtain ⟨iS, hiS, hS0, hS1, hS2⟩ := info_facts info_Seg2
  obtain ⟨x1, hx1⟩ : ∃ x1, w.alloc (Obj.cells #[.int .i64 2, .string control, .string tag, .string query, .int .i64 page, .string pointer] 65) = x1 := ⟨_, rfl⟩
  obtain ⟨w1, hw1⟩ : ∃ w1, x1.alloc (Obj.cells #[.slice none 0 0] 55) = w1 := ⟨_, rfl⟩
  have sx1 : x1.heap.size = w.heap.size + 1 := by rw [← hx1]; simp
  have sw1 : w1.heap.size = w.heap.size + 1 + 1 := by rw [← hw1]; simp [sx1]
  have bx1 : Below w.heap.size w x1 := by rw [← hx1]; exact (Below.refl _ _).alloc (Nat.le_refl _) _
  have bw1 : Below x1.heap.size x1 w1 := by rw [← hw1]; exact (Below.refl _ _).alloc (Nat.le_refl _) _
  have HC : Hid (w1.cell? ⟨w.heap.size, 0, none⟩ = some (.int .i64 2) ∧ w1.cell? ⟨w.heap.size, 1, none⟩ = some (.string control) ∧ w1.cell? ⟨w.heap.size, 2, none⟩ = some (.string tag) ∧ w1.cell? ⟨w.heap.size, 3, none⟩ = some (.string query) ∧ w1.cell? ⟨w.heap.size, 4, none⟩ = some (.int .i64 page) ∧ w1.cell? ⟨w.heap.size, 5, none⟩ = some (.string pointer)) := by
    refine ⟨?_, ?_, ?_, ?_, ?_, ?_⟩ <;> exact (bw1.cell (by rw [sx1]; simp)).trans (by rw [← hx1]; simp)
  obtain ⟨k0, k1, k2, k3, k4, k5⟩ := HC.out
  have c2 : w1.cell? ⟨w.heap.size + 1, 0, none⟩ = some (.slice none 0 0) := by rw [← hw1, ← sx1]; simp
  have f2 : w1.frozen? ⟨w.heap.size + 1, 0, none⟩ = false := by rw [← hw1, ← sx1]; simp
  have HB1 := hide (bjoin' bw1 bx1)
  go_enter Try.func36, Try.ntmps36
  go_wp2_with fail
  refine (l3Ok_any ⟨2, control, tag, query, page, pointer⟩ _ (by simp only; omega) (by simp only; omega) (by simp only; omega) (by simp only; omega)).mono ?_
  rintro e W ⟨rfl, hb⟩
  rw [hok]
  have rl : w.heap.size + 1 < W.heap.size := by have := hb.size; omega
  have hlt0 : w.heap.size < w1.heap.size := by rw [sw1]; omega
  have g0 : W.cell? ⟨w.heap.size, 0, none⟩ = some (.int .i64 2) := (hb.cell (p := ⟨w.heap.size, 0, none⟩) hlt0).trans k0
  have r0 : W.cell? ⟨w.heap.size + 1, 0, none⟩ = some (.slice none 0 0) := (hb.cell (p := ⟨w.heap.size + 1, 0, none⟩) (by rw [sw1]; simp)).trans c2
  have rf : W.frozen? ⟨w.heap.size + 1, 0, none⟩ = false := (hb.frozen (p := ⟨w.heap.size + 1, 0, none⟩) (by rw [sw1]; simp)).trans f2
  have KALL : Hid (∀ X, Below W.heap.size W X → X.cell? ⟨w.heap.size, 0, none⟩ = some (.int .i64 2) ∧ X.cell? ⟨w.heap.size, 4, none⟩ = some (.int .i64 page) ∧ X.cell? ⟨w.heap.size, 5, none⟩ = some (.string pointer)) := fun X h =>
    ⟨(h.cell (p := ⟨w.heap.size, 0, none⟩) (by dsimp only; omega)).trans g0, (h.cell (p := ⟨w.heap.size, 4, none⟩) (by dsimp only; omega)).trans ((hb.cell (p := ⟨w.heap.size, 4, none⟩) hlt0).trans k4), (h.cell (p := ⟨w.heap.size, 5, none⟩) (by dsimp only; omega)).trans ((hb.cell (p := ⟨w.heap.size, 5, none⟩) hlt0).trans k5)⟩
  have KEEP : Hid (∀ X, Below W.heap.size W X → X.cell? ⟨w.heap.size, 1, none⟩ = some (.string control) ∧ X.cell? ⟨w.heap.size, 2, none⟩ = some (.string tag) ∧ X.cell? ⟨w.heap.size, 3, none⟩ = some (.string query) ∧ Below w.heap.size w X) := fun X h =>
    ⟨(h.cell (p := ⟨w.heap.size, 1, none⟩) (by dsimp only; omega)).trans ((hb.cell (p := ⟨w.heap.size, 1, none⟩) hlt0).trans k1), (h.cell (p := ⟨w.heap.size, 2, none⟩) (by dsimp only; omega)).trans ((hb.cell (p := ⟨w.heap.size, 2, none⟩) hlt0).trans k2), (h.cell (p := ⟨w.heap.size, 3, none⟩) (by dsimp only; omega)).trans ((hb.cell (p := ⟨w.heap.size, 3, none⟩) hlt0).trans k3), bjoin' h (bjoin' hb HB1.out)⟩
  have KRES : Hid (∀ X, Below W.heap.size W X → X.cell? ⟨w.heap.size + 1, 0, none⟩ = some (.slice none 0 0) ∧ X.frozen? ⟨w.heap.size + 1, 0, none⟩ = false ∧ w.heap.size + 1 < X.heap.size) := fun X h =>
    ⟨(h.cell (p := ⟨w.heap.size + 1, 0, none⟩) rl).trans r0, (h.frozen (p := ⟨w.heap.size + 1, 0, none⟩) rl).trans rf, by have := h.size; omega⟩
  obtain ⟨wd, hwd⟩ : ∃ wd, W.drew = wd := ⟨_, rfl⟩
  have hbd : Below W.heap.size W wd := by rw [← hwd]; exact (Below.refl _ _).drew
  have HSD : Hid (wd.heap.size = W.heap.size) := by rw [← hwd]; exact rfl
  have HRL := hide rl
  have HWD := hide hwd
  have hbd0 := (Below.refl W.heap.size W).drew
  have HBW := hide (bjoin' hb HB1.out)
  clear k0 k1 k2 k3 k4 k5 hx1 hw1 sx1 sw1 bx1 bw1 c2 f2 hb r0 rf hwd hok HC rl hlt0
  go_upto_region 5 with fail
  go_cut [3] (fun v3 wx => ∃ (w3 : World) (a1 : Option Addr) (c1 : Nat) (a2 : Option Addr) (c2 : Nat), v3 = .slice (some ⟨w3.heap.size, 0, none⟩) 2 2 ∧ wx = w3.alloc (Obj.cells #[.string ⟨#[77, 83, 72]⟩, .slice a1 (headF [⟨#[81, 66, 80]⟩, ⟨#[90, 48, 49]⟩] control).length c1, .string ⟨#[81, 80, 68]⟩, .slice a2 (trimE List.isEmpty [wordF ⟨#[81]⟩, wordF tag, wordF query]).length c2] 111) ∧ FieldsAt W.heap.size w3 (.slice a1 (headF [⟨#[81, 66, 80]⟩, ⟨#[90, 48, 49]⟩] control).length c1) (headF [⟨#[81, 66, 80]⟩, ⟨#[90, 48, 49]⟩] control) ∧ FieldsAt W.heap.size w3 (.slice a2 (trimE List.isEmpty [wordF ⟨#[81]⟩, wordF tag, wordF query]).length c2) (trimE List.isEmpty [wordF ⟨#[81]⟩, wordF tag, wordF query]) ∧ Below W.heap.size W w3)
  case first =>
    clear g0
    have hwd := HWD.out
    go_region_held3 (fun X => X.cell? ⟨w.heap.size, 1, none⟩ = some (.string control) ∧ X.cell? ⟨w.heap.size, 2, none⟩ = some (.string tag) ∧ X.cell? ⟨w.heap.size, 3, none⟩ = some (.string query) ∧ Below w.heap.size w X)
      (first | with_reducible exact KEEP.out _ hbd0 | with_reducible exact KEEP.out _ hbd | with_reducible exact KEEP.out _ (hbd.alloc hbd.size _) | with_reducible exact KEEP.out _ hbA | with_reducible exact KEEP.out _ (hbA.alloc hbA.size _) | with_reducible exact KEEP.out _ hbB | with_reducible exact KEEP.out _ (hbB.alloc hbB.size _))
      (first
        | (go_at_call 80; refine (headS_any ⟨#[81, 66, 80]⟩ ⟨#[90, 48, 49]⟩ control _ (by decide) (by decide) h1).mono ?_; rintro e w2 ⟨u1, rfl, hF1, hb2⟩; obtain ⟨a1, c1, rfl⟩ := form_at hF1;
            first
            | (have hbA : Below W.heap.size W w2 := by with_reducible exact bjoin hb2 hbd
               have hG1 : FieldsAt W.heap.size w2 _ _ := low_at hF1 (by rw [HSD.out]; exact Nat.le_succ _))
            | (have hbA : Below W.heap.size W w2 := by with_reducible exact bjoin hb2 (hbd.alloc hbd.size _)
               have hG1 : FieldsAt W.heap.size w2 _ _ := low_at hF1 (by rw [Deep.nblk_alloc, HSD.out]; omega)))
        | (go_at_call 81;
            first
            | (with_reducible refine (seg_any ⟨#[81, 80, 68]⟩ [⟨#[81]⟩, tag, query] (.slice (some ⟨w2.heap.size, 0, none⟩) 3 3) (w2.alloc (Obj.cells #[.string ⟨#[81]⟩, .string tag, .string query] 9)) (words3_at w2 ⟨#[81]⟩ tag query (by decide) h2 h3) three_le (three_sz (by decide) h2 h3)).mono ?_; rintro e w3 ⟨u2, rfl, hR2, hb3⟩
               have hF2 : FieldsAt W.heap.size w3 u2 (trimE List.isEmpty [wordF ⟨#[81]⟩, wordF tag, wordF query]) := low_at (seg_read [⟨#[81]⟩, tag, query] hR2 three_le) (by rw [Deep.nblk_alloc]; have := hbA.size; omega)
               have hbB := bjoin hb3 (hbA.alloc hbA.size _)
               have hG2 : FieldsAt W.heap.size w3 _ _ := At.kept kept_field (At.kept kept_field hG1 ((Below.refl _ _).alloc (Nat.le_refl _) _)) hb3
               clear hR2; obtain ⟨a2, c2, rfl⟩ := form_at hF2)
            | (with_reducible refine (seg_any ⟨#[81, 80, 68]⟩ [⟨#[81]⟩, tag, query] (.slice (some ⟨wd.heap.size, 0, none⟩) 3 3) w2 (keep_strs (words3_at wd ⟨#[81]⟩ tag query (by decide) h2 h3) hb2) three_le (three_sz (by decide) h2 h3)).mono ?_; rintro e w3 ⟨u2, rfl, hR2, hb3⟩
               have hF2 : FieldsAt W.heap.size w3 u2 (trimE List.isEmpty [wordF ⟨#[81]⟩, wordF tag, wordF query]) := low_at (seg_read [⟨#[81]⟩, tag, query] hR2 three_le) (by have := hbA.size; omega)
               have hbB := bjoin hb3 hbA
               have hG2 : FieldsAt W.heap.size w3 _ _ := At.kept kept_field hG1 hb3
               clear hR2; obtain ⟨a2, c2, rfl⟩ := form_at hF2)))
    all_goals
      have HREL := hide (And.intro hG2 (And.intro hF2 hbB))
      clear hG1 hG2 hF1 hF2 hb2 hb3 hbA hbB
      go_wp2_with fail
      go_meet
      case rel => exact ⟨w3, a1, c1, a2, c2, rfl, rfl, HREL.out.1, HREL.out.2.1, HREL.out.2.2⟩
  case rest =>
    obtain ⟨w3, a1, c1, a2, c2, rfl, rfl, hG, hF, hb3⟩ := hcut
    have hb3a := hb3.alloc hb3.size (Obj.cells #[.string ⟨#[77, 83, 72]⟩, .slice a1 (headF [⟨#[81, 66, 80]⟩, ⟨#[90, 48, 49]⟩] control).length c1, .string ⟨#[81, 80, 68]⟩, .slice a2 (trimE List.isEmpty [wordF ⟨#[81]⟩, wordF tag, wordF query]).length c2] 111)
    obtain ⟨W4, hW4⟩ : ∃ W4, w3.alloc (Obj.cells #[.string ⟨#[77, 83, 72]⟩, .slice a1 (headF [⟨#[81, 66, 80]⟩, ⟨#[90, 48, 49]⟩] control).length c1, .string ⟨#[81, 80, 68]⟩, .slice a2 (trimE List.isEmpty [wordF ⟨#[81]⟩, wordF tag, wordF query]).length c2] 111) = W4 := ⟨_, rfl⟩
    have hs4 : W4.heap.size = w3.heap.size + 1 := by rw [← hW4]; simp
    have HROW4 : Hid (W4.ownsRow W.heap.size 111 2 (.slice (some ⟨w3.heap.size, 0, none⟩) 2 2) 2 (segCells [⟨⟨#[77, 83, 72]⟩, (headF [⟨#[81, 66, 80]⟩, ⟨#[90, 48, 49]⟩] control)⟩, ⟨⟨#[81, 80, 68]⟩, (trimE List.isEmpty [wordF ⟨#[81]⟩, wordF tag, wordF query])⟩] [.slice a1 (headF [⟨#[81, 66, 80]⟩, ⟨#[90, 48, 49]⟩] control).length c1, .slice a2 (trimE List.isEmpty [wordF ⟨#[81]⟩, wordF tag, wordF query]).length c2])) := by
      rw [← hW4]; exact two_row W.heap.size w3 ⟨⟨#[77, 83, 72]⟩, (headF [⟨#[81, 66, 80]⟩, ⟨#[90, 48, 49]⟩] control)⟩ ⟨⟨#[81, 80, 68]⟩, (trimE List.isEmpty [wordF ⟨#[81]⟩, wordF tag, wordF query])⟩ _ _ hb3.size
    rw [hW4] at hb3a
    obtain ⟨m0, m4, m5⟩ := KALL.out W4 hb3a
    have HB4 := hide hb3a
    have HB3 := hide hb3
    have HG := hide hG
    have HF := hide hF
    have HW4 := hide hW4
    have HS4 := hide hs4
    clear hG hF hb3 hb3a g0 hs4
    rw [hW4]
    clear hW4
    go_wp2_with fail
    refine (seg_any ⟨#[68, 83, 67]⟩ [pointer] _ _ (word1_at W4 pointer h4) one_le (one_sz h4)).mono ?_
    rintro e W5 ⟨u5, rfl, hR5, hb5⟩
    have hF5 : FieldsAt _ W5 u5 (trimE List.isEmpty [wordF pointer]) := seg_read [pointer] hR5 one_le
    obtain ⟨a5, c5, rfl⟩ := form_at hF5
    have hb45 : Below W4.heap.size W4 W5 := bjoin' hb5 ((Below.refl _ _).alloc (Nat.le_refl _) _)
    have HB45 := hide hb45
    have hs5 := hb45.size
    have hbA : Below W4.heap.size W4 (W5.alloc (Obj.cells #[.string ⟨#[68, 83, 67]⟩, .slice a5 (trimE List.isEmpty [wordF pointer]).length c5] 111)) := hb45.alloc hb45.size _
    have hownA := own_below2 HROW4.out hbA
    have HF5 : Hid (FieldsAt (W4.heap.size + 1) W5 (.slice a5 (trimE List.isEmpty [wordF pointer]).length c5) (trimE List.isEmpty [wordF pointer])) := low_at hF5 (by rw [Deep.nblk_alloc]; omega)
    have hbase : W.heap.size ≤ W5.heap.size := by have := HB4.out.size; omega
    clear hF5 hR5 hb5 hb45 hbA m0 m4 m5
    go_wp2_with (first
      | (at_builtin; refine wpList_append_own_at _ rfl _ _ 53 rfl W.heap.size 111 iS (.agg #[.string ByteArray.empty, .slice none 0 0]) 2 40 Try.underlying53 hiS hS0 hS1 hS2 rfl (by decide) _ _ _ rfl hownA ⟨W5.heap.size, 0, none⟩ 1 1 [.string ⟨#[68, 83, 67]⟩, .slice a5 (trimE List.isEmpty [wordF pointer]).length c5] rfl rfl (new_cells2 W5 _ _ _) (one_cells2 _ _ _ _) (by unfold maxLen; omega) (by omega) (by rw [Deep.nblk_alloc]; omega) ?_)
      | fail)
    intro v' w6 hown' hgrow hnil hat
    obtain ⟨a6, c6, rfl⟩ := own_form2 hown'
    have hgrow' : (W5.alloc (Obj.cells #[.string ⟨#[68, 83, 67]⟩, .slice a5 (trimE List.isEmpty [wordF pointer]).length c5] 111)).grownBy w6 (some w3.heap.size) := by simpa [Value.ownBlock] using hgrow
    have hbw6 : Below W.heap.size W w6 := by
      have q := (bjoin' HB45.out HB4.out).alloc (bjoin' HB45.out HB4.out).size (Obj.cells #[.string ⟨#[68, 83, 67]⟩, .slice a5 (trimE List.isEmpty [wordF pointer]).length c5] 111)
      exact q.grown hgrow' (by rw [Deep.nblk_alloc]; omega) (fun b hb' => by injection hb' with hb'; have := HB3.out.size; omega)
    have hb5' : Below (w3.heap.size + 1) (w3.alloc (Obj.cells #[.string ⟨#[77, 83, 72]⟩, .slice a1 (headF [⟨#[81, 66, 80]⟩, ⟨#[90, 48, 49]⟩] control).length c1, .string ⟨#[81, 80, 68]⟩, .slice a2 (trimE List.isEmpty [wordF ⟨#[81]⟩, wordF tag, wordF query]).length c2] 111)) W5 := by rw [HW4.out, ← HS4.out]; exact HB45.out
    have HSEG := hide (three_segs (x := ⟨⟨#[77, 83, 72]⟩, (headF [⟨#[81, 66, 80]⟩, ⟨#[90, 48, 49]⟩] control)⟩) (y := ⟨⟨#[81, 80, 68]⟩, (trimE List.isEmpty [wordF ⟨#[81]⟩, wordF tag, wordF query])⟩) (z := ⟨⟨#[68, 83, 67]⟩, (trimE List.isEmpty [wordF pointer])⟩) HB3.out.size HG.out HF.out HF5.out (by rw [HS4.out]; omega) hb5' _ hown' hgrow' (by dsimp only; decide) (by dsimp only; decide) (by dsimp only; decide))
    obtain ⟨r0, rf, rl⟩ := KRES.out w6 hbw6
    have HBF : Hid (∀ x, Below w.heap.size w (w6.setCell ⟨w.heap.size + 1, 0, none⟩ x)) := fun x => (bjoin' hbw6 HBW.out).setCell (p := ⟨w.heap.size + 1, 0, none⟩) (Nat.le_succ _) x
    have HEND : Hid (∀ v x, SegsAt W.heap.size w6 v (nextM control tag query pointer) → SegsAt 0 (w6.setCell ⟨w.heap.size + 1, 0, none⟩ x) v (nextM control tag query pointer)) := fun v x h => read_end HRL.out h
    clear hown' hgrow hgrow' hnil hat hb5' hbw6 hownA hs5 hbase
    go_wp2_with fail
    exact bodyPost_ret (v := .agg #[.slice a6 3 c6]) (by simp [results, Try.results36, go_sem, r0, rl]) rfl ⟨_, rfl, HEND.out _ _ HSEG.out, HBF.out _⟩

set_option maxRecDepth 100000 in
set_option maxHeartbeats 4000000 in
theorem writeS_new (control tag query pointer : ByteArray) (u : Nat) (w : World) (h1 : control.size ≤ 1048576) (h2 : tag.size ≤ 1048576) (h3 : query.size ≤ 1048576) (h4 : pointer.size ≤ 1048576) (hu : u ≤ 50) (hok : okR ⟨1, control, tag, query, (u : Int), pointer⟩ = true) :
    Calls Try.prog 36 #[reqV ⟨1, control, tag, query, (u : Int), pointer⟩] w (ReadPost w (newM control tag query (decT u))) := by
  unfold reqV
  obtain ⟨iS, hiS, hS0, hS1, hS2⟩ := info_facts info_Seg2
  obtain ⟨x1, hx1⟩ : ∃ x1, w.alloc (Obj.cells #[.int .i64 1, .string control, .string tag, .string query, .int .i64 (u : Int), .string pointer] 65) = x1 := ⟨_, rfl⟩
  obtain ⟨w1, hw1⟩ : ∃ w1, x1.alloc (Obj.cells #[.slice none 0 0] 55) = w1 := ⟨_, rfl⟩
  have sx1 : x1.heap.size = w.heap.size + 1 := by rw [← hx1]; simp
  have sw1 : w1.heap.size = w.heap.size + 1 + 1 := by rw [← hw1]; simp [sx1]
  have bx1 : Below w.heap.size w x1 := by rw [← hx1]; exact (Below.refl _ _).alloc (Nat.le_refl _) _
  have bw1 : Below x1.heap.size x1 w1 := by rw [← hw1]; exact (Below.refl _ _).alloc (Nat.le_refl _) _
  have HC : Hid (w1.cell? ⟨w.heap.size, 0, none⟩ = some (.int .i64 1) ∧ w1.cell? ⟨w.heap.size, 1, none⟩ = some (.string control) ∧ w1.cell? ⟨w.heap.size, 2, none⟩ = some (.string tag) ∧ w1.cell? ⟨w.heap.size, 3, none⟩ = some (.string query) ∧ w1.cell? ⟨w.heap.size, 4, none⟩ = some (.int .i64 (u : Int)) ∧ w1.cell? ⟨w.heap.size, 5, none⟩ = some (.string pointer)) := by
    refine ⟨?_, ?_, ?_, ?_, ?_, ?_⟩ <;> exact (bw1.cell (by rw [sx1]; simp)).trans (by rw [← hx1]; simp)
  obtain ⟨k0, k1, k2, k3, k4, k5⟩ := HC.out
  have c2 : w1.cell? ⟨w.heap.size + 1, 0, none⟩ = some (.slice none 0 0) := by rw [← hw1, ← sx1]; simp
  have f2 : w1.frozen? ⟨w.heap.size + 1, 0, none⟩ = false := by rw [← hw1, ← sx1]; simp
  have HB1 := hide (bjoin' bw1 bx1)
  go_enter Try.func36, Try.ntmps36
  go_wp2_with fail
  refine (l3Ok_any ⟨1, control, tag, query, (u : Int), pointer⟩ _ (by simp only; omega) (by simp only; omega) (by simp only; omega) (by simp only; omega)).mono ?_
  rintro e W ⟨rfl, hb⟩
  rw [hok]
  have rl : w.heap.size + 1 < W.heap.size := by have := hb.size; omega
  have hlt0 : w.heap.size < w1.heap.size := by rw [sw1]; omega
  have g0 : W.cell? ⟨w.heap.size, 0, none⟩ = some (.int .i64 1) := (hb.cell (p := ⟨w.heap.size, 0, none⟩) hlt0).trans k0
  have r0 : W.cell? ⟨w.heap.size + 1, 0, none⟩ = some (.slice none 0 0) := (hb.cell (p := ⟨w.heap.size + 1, 0, none⟩) (by rw [sw1]; simp)).trans c2
  have rf : W.frozen? ⟨w.heap.size + 1, 0, none⟩ = false := (hb.frozen (p := ⟨w.heap.size + 1, 0, none⟩) (by rw [sw1]; simp)).trans f2
  have KALL : Hid (∀ X, Below W.heap.size W X → X.cell? ⟨w.heap.size, 0, none⟩ = some (.int .i64 1) ∧ X.cell? ⟨w.heap.size, 4, none⟩ = some (.int .i64 (u : Int)) ∧ X.cell? ⟨w.heap.size, 5, none⟩ = some (.string pointer)) := fun X h =>
    ⟨(h.cell (p := ⟨w.heap.size, 0, none⟩) (by dsimp only; omega)).trans g0, (h.cell (p := ⟨w.heap.size, 4, none⟩) (by dsimp only; omega)).trans ((hb.cell (p := ⟨w.heap.size, 4, none⟩) hlt0).trans k4), (h.cell (p := ⟨w.heap.size, 5, none⟩) (by dsimp only; omega)).trans ((hb.cell (p := ⟨w.heap.size, 5, none⟩) hlt0).trans k5)⟩
  have KEEP : Hid (∀ X, Below W.heap.size W X → X.cell? ⟨w.heap.size, 1, none⟩ = some (.string control) ∧ X.cell? ⟨w.heap.size, 2, none⟩ = some (.string tag) ∧ X.cell? ⟨w.heap.size, 3, none⟩ = some (.string query) ∧ Below w.heap.size w X) := fun X h =>
    ⟨(h.cell (p := ⟨w.heap.size, 1, none⟩) (by dsimp only; omega)).trans ((hb.cell (p := ⟨w.heap.size, 1, none⟩) hlt0).trans k1), (h.cell (p := ⟨w.heap.size, 2, none⟩) (by dsimp only; omega)).trans ((hb.cell (p := ⟨w.heap.size, 2, none⟩) hlt0).trans k2), (h.cell (p := ⟨w.heap.size, 3, none⟩) (by dsimp only; omega)).trans ((hb.cell (p := ⟨w.heap.size, 3, none⟩) hlt0).trans k3), bjoin' h (bjoin' hb HB1.out)⟩
  have KRES : Hid (∀ X, Below W.heap.size W X → X.cell? ⟨w.heap.size + 1, 0, none⟩ = some (.slice none 0 0) ∧ X.frozen? ⟨w.heap.size + 1, 0, none⟩ = false ∧ w.heap.size + 1 < X.heap.size) := fun X h =>
    ⟨(h.cell (p := ⟨w.heap.size + 1, 0, none⟩) rl).trans r0, (h.frozen (p := ⟨w.heap.size + 1, 0, none⟩) rl).trans rf, by have := h.size; omega⟩
  obtain ⟨wd, hwd⟩ : ∃ wd, W.drew = wd := ⟨_, rfl⟩
  have hbd : Below W.heap.size W wd := by rw [← hwd]; exact (Below.refl _ _).drew
  have HSD : Hid (wd.heap.size = W.heap.size) := by rw [← hwd]; exact rfl
  have HRL := hide rl
  have HWD := hide hwd
  have hbd0 := (Below.refl W.heap.size W).drew
  have HBW := hide (bjoin' hb HB1.out)
  clear k0 k1 k2 k3 k4 k5 hx1 hw1 sx1 sw1 bx1 bw1 c2 f2 hb r0 rf hwd hok HC rl hlt0
  go_upto_region 5 with fail
  go_cut [3] (fun v3 wx => ∃ (w3 : World) (a1 : Option Addr) (c1 : Nat) (a2 : Option Addr) (c2 : Nat), v3 = .slice (some ⟨w3.heap.size, 0, none⟩) 2 2 ∧ wx = w3.alloc (Obj.cells #[.string ⟨#[77, 83, 72]⟩, .slice a1 (headF [⟨#[81, 66, 80]⟩, ⟨#[90, 48, 49]⟩] control).length c1, .string ⟨#[81, 80, 68]⟩, .slice a2 (trimE List.isEmpty [wordF ⟨#[81]⟩, wordF tag, wordF query]).length c2] 111) ∧ FieldsAt W.heap.size w3 (.slice a1 (headF [⟨#[81, 66, 80]⟩, ⟨#[90, 48, 49]⟩] control).length c1) (headF [⟨#[81, 66, 80]⟩, ⟨#[90, 48, 49]⟩] control) ∧ FieldsAt W.heap.size w3 (.slice a2 (trimE List.isEmpty [wordF ⟨#[81]⟩, wordF tag, wordF query]).length c2) (trimE List.isEmpty [wordF ⟨#[81]⟩, wordF tag, wordF query]) ∧ Below W.heap.size W w3)
  case first =>
    clear g0
    have hwd := HWD.out
    go_region_held3 (fun X => X.cell? ⟨w.heap.size, 1, none⟩ = some (.string control) ∧ X.cell? ⟨w.heap.size, 2, none⟩ = some (.string tag) ∧ X.cell? ⟨w.heap.size, 3, none⟩ = some (.string query) ∧ Below w.heap.size w X)
      (first | with_reducible exact KEEP.out _ hbd0 | with_reducible exact KEEP.out _ hbd | with_reducible exact KEEP.out _ (hbd.alloc hbd.size _) | with_reducible exact KEEP.out _ hbA | with_reducible exact KEEP.out _ (hbA.alloc hbA.size _) | with_reducible exact KEEP.out _ hbB | with_reducible exact KEEP.out _ (hbB.alloc hbB.size _))
      (first
        | (go_at_call 80; refine (headS_any ⟨#[81, 66, 80]⟩ ⟨#[90, 48, 49]⟩ control _ (by decide) (by decide) h1).mono ?_; rintro e w2 ⟨u1, rfl, hF1, hb2⟩; obtain ⟨a1, c1, rfl⟩ := form_at hF1;
            first
            | (have hbA : Below W.heap.size W w2 := by with_reducible exact bjoin hb2 hbd
               have hG1 : FieldsAt W.heap.size w2 _ _ := low_at hF1 (by rw [HSD.out]; exact Nat.le_succ _))
            | (have hbA : Below W.heap.size W w2 := by with_reducible exact bjoin hb2 (hbd.alloc hbd.size _)
               have hG1 : FieldsAt W.heap.size w2 _ _ := low_at hF1 (by rw [Deep.nblk_alloc, HSD.out]; omega)))
        | (go_at_call 81;
            first
            | (with_reducible refine (seg_any ⟨#[81, 80, 68]⟩ [⟨#[81]⟩, tag, query] (.slice (some ⟨w2.heap.size, 0, none⟩) 3 3) (w2.alloc (Obj.cells #[.string ⟨#[81]⟩, .string tag, .string query] 9)) (words3_at w2 ⟨#[81]⟩ tag query (by decide) h2 h3) three_le (three_sz (by decide) h2 h3)).mono ?_; rintro e w3 ⟨u2, rfl, hR2, hb3⟩
               have hF2 : FieldsAt W.heap.size w3 u2 (trimE List.isEmpty [wordF ⟨#[81]⟩, wordF tag, wordF query]) := low_at (seg_read [⟨#[81]⟩, tag, query] hR2 three_le) (by rw [Deep.nblk_alloc]; have := hbA.size; omega)
               have hbB := bjoin hb3 (hbA.alloc hbA.size _)
               have hG2 : FieldsAt W.heap.size w3 _ _ := At.kept kept_field (At.kept kept_field hG1 ((Below.refl _ _).alloc (Nat.le_refl _) _)) hb3
               clear hR2; obtain ⟨a2, c2, rfl⟩ := form_at hF2)
            | (with_reducible refine (seg_any ⟨#[81, 80, 68]⟩ [⟨#[81]⟩, tag, query] (.slice (some ⟨wd.heap.size, 0, none⟩) 3 3) w2 (keep_strs (words3_at wd ⟨#[81]⟩ tag query (by decide) h2 h3) hb2) three_le (three_sz (by decide) h2 h3)).mono ?_; rintro e w3 ⟨u2, rfl, hR2, hb3⟩
               have hF2 : FieldsAt W.heap.size w3 u2 (trimE List.isEmpty [wordF ⟨#[81]⟩, wordF tag, wordF query]) := low_at (seg_read [⟨#[81]⟩, tag, query] hR2 three_le) (by have := hbA.size; omega)
               have hbB := bjoin hb3 hbA
               have hG2 : FieldsAt W.heap.size w3 _ _ := At.kept kept_field hG1 hb3
               clear hR2; obtain ⟨a2, c2, rfl⟩ := form_at hF2)))
    all_goals
      have HREL := hide (And.intro hG2 (And.intro hF2 hbB))
      clear hG1 hG2 hF1 hF2 hb2 hb3 hbA hbB
      go_wp2_with fail
      go_meet
      case rel => exact ⟨w3, a1, c1, a2, c2, rfl, rfl, HREL.out.1, HREL.out.2.1, HREL.out.2.2⟩
  case rest =>
    obtain ⟨w3, a1, c1, a2, c2, rfl, rfl, hG, hF, hb3⟩ := hcut
    have hb3a := hb3.alloc hb3.size (Obj.cells #[.string ⟨#[77, 83, 72]⟩, .slice a1 (headF [⟨#[81, 66, 80]⟩, ⟨#[90, 48, 49]⟩] control).length c1, .string ⟨#[81, 80, 68]⟩, .slice a2 (trimE List.isEmpty [wordF ⟨#[81]⟩, wordF tag, wordF query]).length c2] 111)
    obtain ⟨W4, hW4⟩ : ∃ W4, w3.alloc (Obj.cells #[.string ⟨#[77, 83, 72]⟩, .slice a1 (headF [⟨#[81, 66, 80]⟩, ⟨#[90, 48, 49]⟩] control).length c1, .string ⟨#[81, 80, 68]⟩, .slice a2 (trimE List.isEmpty [wordF ⟨#[81]⟩, wordF tag, wordF query]).length c2] 111) = W4 := ⟨_, rfl⟩
    have hs4 : W4.heap.size = w3.heap.size + 1 := by rw [← hW4]; simp
    have HROW4 : Hid (W4.ownsRow W.heap.size 111 2 (.slice (some ⟨w3.heap.size, 0, none⟩) 2 2) 2 (segCells [⟨⟨#[77, 83, 72]⟩, (headF [⟨#[81, 66, 80]⟩, ⟨#[90, 48, 49]⟩] control)⟩, ⟨⟨#[81, 80, 68]⟩, (trimE List.isEmpty [wordF ⟨#[81]⟩, wordF tag, wordF query])⟩] [.slice a1 (headF [⟨#[81, 66, 80]⟩, ⟨#[90, 48, 49]⟩] control).length c1, .slice a2 (trimE List.isEmpty [wordF ⟨#[81]⟩, wordF tag, wordF query]).length c2])) := by
      rw [← hW4]; exact two_row W.heap.size w3 ⟨⟨#[77, 83, 72]⟩, (headF [⟨#[81, 66, 80]⟩, ⟨#[90, 48, 49]⟩] control)⟩ ⟨⟨#[81, 80, 68]⟩, (trimE List.isEmpty [wordF ⟨#[81]⟩, wordF tag, wordF query])⟩ _ _ hb3.size
    rw [hW4] at hb3a
    obtain ⟨m0, m4, m5⟩ := KALL.out W4 hb3a
    have HB4 := hide hb3a
    have HB3 := hide hb3
    have HG := hide hG
    have HF := hide hF
    have HW4 := hide hW4
    have HS4 := hide hs4
    clear hG hF hb3 hb3a g0 hs4
    rw [hW4]
    clear hW4
    go_wp2_with fail
    refine (show_any u _ (by omega)).mono ?_
    rintro e W6 ⟨rfl, hb6⟩
    have HB6 := hide hb6
    have hd : (decT u).size ≤ 1048576 := Nat.le_trans (dec_plain u (by omega)).2 (by decide)
    clear hb6
    go_wp2_with fail
    refine (seg_any ⟨#[82, 67, 80]⟩ [⟨#[]⟩, decT u] _ _ (words2_at W6 ⟨#[]⟩ (decT u) (by decide) hd) two_le (two_sz (by decide) hd)).mono ?_
    rintro e W5 ⟨u5, rfl, hR5, hb5⟩
    have hF5 : FieldsAt _ W5 u5 (trimE List.isEmpty [([] : Field), wordF (decT u)]) := seg_read [⟨#[]⟩, decT u] hR5 two_le
    obtain ⟨a5, c5, rfl⟩ := form_at hF5
    have hb45 : Below W4.heap.size W4 W5 := bjoin' hb5 (HB6.out.alloc HB6.out.size _)
    have HB45 := hide hb45
    have hs5 := hb45.size
    have hbA : Below W4.heap.size W4 (W5.alloc (Obj.cells #[.string ⟨#[82, 67, 80]⟩, .slice a5 (trimE List.isEmpty [([] : Field), wordF (decT u)]).length c5] 111)) := hb45.alloc hb45.size _
    have hownA := own_below2 HROW4.out hbA
    have HF5 : Hid (FieldsAt (W4.heap.size + 1) W5 (.slice a5 (trimE List.isEmpty [([] : Field), wordF (decT u)]).length c5) (trimE List.isEmpty [([] : Field), wordF (decT u)])) := low_at hF5 (by rw [Deep.nblk_alloc]; have := HB6.out.size; omega)
    have hbase : W.heap.size ≤ W5.heap.size := by have := HB4.out.size; omega
    clear hF5 hR5 hb5 hb45 hbA m0 m4 m5
    go_wp2_with (first
      | (at_builtin; refine wpList_append_own_at _ rfl _ _ 53 rfl W.heap.size 111 iS (.agg #[.string ByteArray.empty, .slice none 0 0]) 2 40 Try.underlying53 hiS hS0 hS1 hS2 rfl (by decide) _ _ _ rfl hownA ⟨W5.heap.size, 0, none⟩ 1 1 [.string ⟨#[82, 67, 80]⟩, .slice a5 (trimE List.isEmpty [([] : Field), wordF (decT u)]).length c5] rfl rfl (new_cells2 W5 _ _ _) (one_cells2 _ _ _ _) (by unfold maxLen; omega) (by omega) (by rw [Deep.nblk_alloc]; omega) ?_)
      | fail)
    intro v' w6 hown' hgrow hnil hat
    obtain ⟨a6, c6, rfl⟩ := own_form2 hown'
    have hgrow' : (W5.alloc (Obj.cells #[.string ⟨#[82, 67, 80]⟩, .slice a5 (trimE List.isEmpty [([] : Field), wordF (decT u)]).length c5] 111)).grownBy w6 (some w3.heap.size) := by simpa [Value.ownBlock] using hgrow
    have hbw6 : Below W.heap.size W w6 := by
      have q := (bjoin' HB45.out HB4.out).alloc (bjoin' HB45.out HB4.out).size (Obj.cells #[.string ⟨#[82, 67, 80]⟩, .slice a5 (trimE List.isEmpty [([] : Field), wordF (decT u)]).length c5] 111)
      exact q.grown hgrow' (by rw [Deep.nblk_alloc]; omega) (fun b hb' => by injection hb' with hb'; have := HB3.out.size; omega)
    have hb5' : Below (w3.heap.size + 1) (w3.alloc (Obj.cells #[.string ⟨#[77, 83, 72]⟩, .slice a1 (headF [⟨#[81, 66, 80]⟩, ⟨#[90, 48, 49]⟩] control).length c1, .string ⟨#[81, 80, 68]⟩, .slice a2 (trimE List.isEmpty [wordF ⟨#[81]⟩, wordF tag, wordF query]).length c2] 111)) W5 := by rw [HW4.out, ← HS4.out]; exact HB45.out
    have HSEG := hide (three_segs (x := ⟨⟨#[77, 83, 72]⟩, (headF [⟨#[81, 66, 80]⟩, ⟨#[90, 48, 49]⟩] control)⟩) (y := ⟨⟨#[81, 80, 68]⟩, (trimE List.isEmpty [wordF ⟨#[81]⟩, wordF tag, wordF query])⟩) (z := ⟨⟨#[82, 67, 80]⟩, (trimE List.isEmpty [([] : Field), wordF (decT u)])⟩) HB3.out.size HG.out HF.out HF5.out (by rw [HS4.out]; omega) hb5' _ hown' hgrow' (by dsimp only; decide) (by dsimp only; decide) (by dsimp only; decide))
    obtain ⟨r0, rf, rl⟩ := KRES.out w6 hbw6
    have HBF : Hid (∀ x, Below w.heap.size w (w6.setCell ⟨w.heap.size + 1, 0, none⟩ x)) := fun x => (bjoin' hbw6 HBW.out).setCell (p := ⟨w.heap.size + 1, 0, none⟩) (Nat.le_succ _) x
    have HEND : Hid (∀ v x, SegsAt W.heap.size w6 v (newM control tag query (decT u)) → SegsAt 0 (w6.setCell ⟨w.heap.size + 1, 0, none⟩ x) v (newM control tag query (decT u))) := fun v x h => read_end HRL.out h
    clear hown' hgrow hgrow' hnil hat hb5' hbw6 hownA hs5 hbase
    go_wp2_with fail
    exact bodyPost_ret (v := .agg #[.slice a6 3 c6]) (by simp [results, Try.results36, go_sem, r0, rl]) rfl ⟨_, rfl, HEND.out _ _ HSEG.out, HBF.out _⟩

end Go.Proofs.Ytjpdgcodjnnljaa.Msg
