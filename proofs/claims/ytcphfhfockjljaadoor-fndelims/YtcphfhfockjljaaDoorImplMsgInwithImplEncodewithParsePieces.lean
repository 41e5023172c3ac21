import Derived.Test.YtcphfhfockjljaaDoorImplInwithImplSegInwithImplMsgL
import Derived.Test.YtcphfhfockjljaaDoorParseSegswithParseBackwithDelPure
import Derived.Lib.Strings
namespace Go.Proofs.YtcphfhfockjljaaDoor.Msg
open Go.ChangeShapes Go.WideShapes Go.ChangeAt Go.RowKit
set_option linter.unusedVariables false
set_option linter.unusedSimpArgs false
theorem Buf.nil (base : Nat) (w : World) : Buf base w (.slice none 0 0) [] := World.ownsRow_nil w base 5 1
theorem room_step {L B : Nat} {W R : List UInt8} (hW : Wr [] W R) (h : L + W.length = B) :
    (40000 - (L : Int) - (R.length : Int) < 0 → L ≤ 40000 → 40000 < B) ∧ (¬ 40000 - (L : Int) - (R.length : Int) < 0 → 40000 - (L : Int) - (R.length : Int) = 40000 - (B : Int) ∧ B ≤ 40000) := by
  have h1 := hW.le
  rw [List.nil_append] at h1
  by_cases hl : W.length ≤ 40000
  · have e := hW.eq (by rw [List.nil_append]; exact hl)
    rw [List.nil_append] at e
    subst e
    exact ⟨fun a b => by omega, fun a => by omega⟩
  · have e := hW.long (by rw [List.nil_append]; omega)
    exact ⟨fun a b => by omega, fun a => by omega⟩

set_option maxRecDepth 100000 in
set_option maxHeartbeats 2000000 in
theorem msgIn_any (xs : List Seg) (v : Value) (w : World) (hsz : msgSz xs ≤ 1048576) {lo : Nat} (hv : SegsAt lo w v xs) :
    Calls Tryd.prog 16 #[.agg #[v]] w fun e w' => e = .returned (.bool (msgB xs)) ∧ Below w.heap.size w w' := by
  have hl := hv.1
  have hb := (Below.refl w.heap.size w).alloc (Nat.le_refl _) (Obj.cells #[v] 25)
  have hv1 := At.kept kept_seg hv hb
  obtain ⟨a, cap, rfl, hc⟩ := hv1.form
  have HC := hide hc
  clear hc hv hv1
  by_cases h0 : xs.length = 0
  · have HX := hide (msgB_none xs h0)
    have hz : ((xs.length : Int) == 0) = true := by rw [beq_iff_eq]; omega
    clear h0
    go_enter Tryd.func16, Tryd.ntmps16
    go_wp2_with fail
    go_ret
    exact ⟨ret_bool HX.out.symm, hb⟩
  have hz : ((xs.length : Int) == 0) = false := by rw [beq_eq_false_iff_ne]; omega
  by_cases h250 : (250 : Int) < (xs.length : Int)
  · have HX := hide (msgB_many xs (by omega))
    go_enter Tryd.func16, Tryd.ntmps16
    go_wp2_with fail
    go_ret
    exact ⟨ret_bool HX.out.symm, hb⟩
  go_enter Tryd.func16, Tryd.ntmps16
  go_wp2_with fail
  go_loopg [3, 19] xs.length (fun n r i wr => ∃ k : Nat, k ≤ xs.length ∧ n = xs.length - k ∧ i = .int .i64 k ∧ r = .int .i64 (40000 - ((msgWI (xs.take k)).length : Int)) ∧ (msgWI (xs.take k)).length ≤ 40000 ∧ Places xs k ∧ Below (w.heap.size + 1) (w.alloc (Obj.cells #[.slice a xs.length cap] 25)) wr)
  case atStart => exact ⟨0, Nat.zero_le _, by simp, rfl, by simp [msgWI], by simp [msgWI], fun j _ h => absurd h (by omega), Below.refl _ _⟩
  case round =>
    obtain ⟨k, hk, rfl, rfl, rfl, hL, hP, hbr⟩ := hrel
    obtain ⟨W1, rfl⟩ : ∃ x, x = wr := ⟨_, rfl⟩
    have hbw : Below w.heap.size w W1 := hb.trans (hbr.mono (by omega))
    have hbr' : Below (w.alloc (Obj.cells #[.slice a xs.length cap] 25)).heap.size (w.alloc (Obj.cells #[.slice a xs.length cap] 25)) W1 := by simpa using hbr
    by_cases hlt : k < xs.length
    · obtain ⟨b, off, rfl, _, hbl, hc0, hns, ve, hc1, hel⟩ := HC.out k hlt
      obtain ⟨a5, cap5, rfl, _⟩ := hel.form
      have hcell0 : W1.cell? ⟨b, off + k * 2, none⟩ = some (.string xs[k].name) := by rw [hbr'.cell (p := ⟨b, off + k * 2, none⟩) hbl]; exact hc0
      have hcell1 : W1.cell? ⟨b, off + k * 2 + 1, none⟩ = some (.slice a5 xs[k].fields.length cap5) := by rw [hbr'.cell (p := ⟨b, off + k * 2 + 1, none⟩) hbl]; exact hc1
      have hbB : Below W1.heap.size W1 (W1.alloc (Obj.cells #[.string xs[k].name, .slice a5 xs[k].fields.length cap5] 44)) := (Below.refl _ _).alloc (Nat.le_refl _) _
      have hel1 := At.kept kept_field (At.kept kept_field hel hbr') hbB
      have HB := hide (bjoin hbB hbw)
      have HBB := hide (hbr.trans (hbB.mono (by have := hbr.size; simp at this; omega)))
      have HBX0 : Hid ((W1.alloc (Obj.cells #[.string xs[k].name, .slice a5 xs[k].fields.length cap5] 44)).cell? ⟨W1.heap.size, 0, none⟩ = some (.string xs[k].name)) := by simp [Hid]
      have HBX1 : Hid ((W1.alloc (Obj.cells #[.string xs[k].name, .slice a5 xs[k].fields.length cap5] 44)).cell? ⟨W1.heap.size, 1, none⟩ = some (.slice a5 xs[k].fields.length cap5)) := by simp [Hid]
      have hsegz : segSz xs[k] ≤ 1048576 := by
        have := at_le segSz xs k hlt
        unfold msgSz lenSum at hsz
        omega
      obtain ⟨bm, hbm⟩ : ∃ b, (xs[k].name.toList == [77, 83, 72]) = b := ⟨_, rfl⟩
      have HMB : Hid (mshB xs[k].name = bm) := hbm
      obtain ⟨bk, hbk⟩ : ∃ b, ((k : Int) == 0) = b := ⟨_, rfl⟩
      have HBK : Hid ((k == 0) = bk) := by rw [← hbk]; exact (cast_beq k).symm
      have HPL : Hid (placeB k xs[k] = ((mshB xs[k].name == (k == 0)) && segI xs[k])) := rfl
      have HP := hide hP
      clear hc0 hc1 hel hP
      by_cases hmk : bm = bk
      · subst hmk
        have HPS : Hid (placeB k xs[k] = segI xs[k]) := by rw [HPL.out, HMB.out, HBK.out, beq_self_eq_true, Bool.true_and]; trivial
        go_wp2_with fail
        refine (segIn_any xs[k] _ _ hns hel1).mono ?_
        rintro e w2 ⟨rfl, hb2⟩
        have hel2 := At.kept kept_field hel1 hb2
        have hx0 : w2.cell? ⟨W1.heap.size, 0, none⟩ = some (.string xs[k].name) := by rw [hb2.cell (p := ⟨W1.heap.size, 0, none⟩) (by simp)]; exact HBX0.out
        have hx1 : w2.cell? ⟨W1.heap.size, 1, none⟩ = some (.slice a5 xs[k].fields.length cap5) := by rw [hb2.cell (p := ⟨W1.heap.size, 1, none⟩) (by simp)]; exact HBX1.out
        have HB2 := hide (bjoin hb2 HB.out)
        have HBB2 := hide (HBB.out.trans (hb2.mono (by have := hbr.size; simp at this ⊢; omega)))
        clear hb2 hcell0 hcell1 hel1 hbr hbr' hbw hbB hbm hbk
        cases hs : segI xs[k]
        · have HX := hide (msgB_bad xs k hlt (by rw [HPS.out]; exact hs))
          clear hs
          go_wp2_with fail
          go_ret
          exact ⟨ret_bool HX.out.symm, HB2.out⟩
        · have HPK := hide (HP.out.step hlt (by rw [HPS.out]; exact hs))
          clear hs
          go_wp2_with fail
          refine (segWrite_any w2.heap.size [] xs[k] _ _ w2 w2 (Nat.le_refl _) (Below.refl _ _) hel2 (Buf.nil _ _) (Nat.le_refl _) (by simp; omega)).mono ?_
          rintro e w3 ⟨u, R, rfl, hW, hu, hg⟩
          obtain ⟨a6, cap6, rfl⟩ := hu.len
          have hb3 : Below w2.heap.size w2 w3 := hg.below (by simp [Value.ownBlock]) (Nat.le_refl _)
          have HS : Hid ((msgWI (xs.take k)).length + (segWI xs[k]).length = (msgWI (xs.take (k + 1))).length) := by rw [msgWI_snoc xs k hlt, List.length_append]; trivial
          have HRS := hide (room_step hW HS.out)
          have hRl := hW.len (segWI_le xs[k])
          have HB3 := hide (bjoin hb3 HB2.out)
          have HBB3 := hide (HBB2.out.trans (hb3.mono (by have := HBB2.out.size; simp at this ⊢; omega)))
          clear hW hu hg hb3 hel2 hx0 hx1
          rw [List.length_nil] at hRl
          by_cases hneg : 40000 - ((msgWI (xs.take k)).length : Int) - (R.length : Int) < 0
          · have HX := hide (msgB_long xs k hlt HPK.out (HRS.out.1 hneg hL))
            go_wp2_with fail
            go_ret
            exact ⟨ret_bool HX.out.symm, HB3.out⟩
          · have HQ := hide (HRS.out.2 hneg)
            go_wp2_with fail
            go_roundg (xs.length - (k + 1))
            case rel => exact ⟨k + 1, by omega, rfl, by go_num, by rw [← HQ.out.1], HQ.out.2, HPK.out, HBB3.out⟩
            case measure => omega
      · have HX := hide (msgB_bad xs k hlt (by rw [HPL.out, HMB.out, HBK.out, beq_eq_false_iff_ne.2 hmk]; rfl))
        cases bm
        · cases bk
          · exact absurd rfl hmk
          · clear hmk
            go_wp2_with fail
            go_ret
            exact ⟨ret_bool HX.out.symm, HB.out⟩
        · cases bk
          · clear hmk
            go_wp2_with fail
            go_ret
            exact ⟨ret_bool HX.out.symm, HB.out⟩
          · exact absurd rfl hmk
    · obtain rfl : k = xs.length := by omega
      have HX := hide (msgB_good xs (by omega) (by omega) hP hL)
      go_wp2_with fail
      go_ret
      exact ⟨ret_bool HX.out.symm, hbw⟩
end Go.Proofs.YtcphfhfockjljaaDoor.Msg

namespace Go.Proofs.YtcphfhfockjljaaDoor.Msg
open Go.ChangeShapes Go.WideShapes Go.ChangeAt Go.RowKit
set_option linter.unusedVariables false
set_option linter.unusedSimpArgs false

theorem msgWI_take_le (xs : List Seg) (k : Nat) : (msgWI (xs.take k)).length ≤ (msgWI xs).length := by
  unfold msgWI
  conv => rhs; rw [← List.take_append_drop k xs]
  rw [List.flatMap_append, List.length_append]
  omega
theorem msgWI_le : ∀ xs : List Seg, (msgWI xs).length ≤ 6 * msgSz xs
  | [] => by simp [msgWI, msgSz, lenSum, sumOf]
  | x :: xs => by
    have ih := msgWI_le xs
    have hx := segWI_le x
    simp only [msgWI, msgSz, lenSum, sumOf, List.flatMap_cons, List.length_append, List.length_cons, List.map_cons, List.sum_cons] at *
    omega

set_option maxRecDepth 100000 in
set_option maxHeartbeats 2000000 in
theorem msgWrite_any (xs : List Seg) (v : Value) (w : World) (hsz : msgSz xs ≤ 1048576) {lo : Nat} (hv : SegsAt lo w v xs) :
    Calls Tryd.prog 17 #[.agg #[v], .slice none 0 0] w fun e w' => ∃ u R, e = .returned u ∧ Wr [] (msgWI xs) R ∧ Buf w.heap.size w' u R ∧ Below w.heap.size w w' := by
  have hl := hv.1
  obtain ⟨a, cap, rfl, hc⟩ := hv.form
  have HC := hide hc
  clear hc hv
  have hml := msgWI_le xs
  have hb0 := (Below.refl w.heap.size w).alloc (Nat.le_refl _) (Obj.cells #[.slice a xs.length cap] 25)
  go_enter Tryd.func17, Tryd.ntmps17
  go_wp2_with fail
  go_loopg [1, 10] xs.length (fun n v1 i wr => ∃ (k : Nat) (R : List UInt8), k ≤ xs.length ∧ n = xs.length - k ∧ i = .int .i64 k ∧ Wr [] (msgWI (xs.take k)) R ∧ Buf w.heap.size wr v1 R ∧ Below w.heap.size w wr)
  case atStart => exact ⟨0, [], Nat.zero_le _, by simp, rfl, by simpa [msgWI] using Wr.nil [], Buf.nil _ _, hb0⟩
  case round =>
    obtain ⟨k, R, hk, rfl, rfl, hW, hbuf, hbr⟩ := hrel
    obtain ⟨W1, rfl⟩ : ∃ x, x = wr := ⟨_, rfl⟩
    have HW := hide hW
    have hRl := hW.len (msgWI_take_le xs k)
    rw [List.length_nil] at hRl
    clear hW
    have hz : w.heap.size ≤ W1.heap.size := hbr.size
    by_cases hlt : k < xs.length
    · obtain ⟨b, off, rfl, _, hbl, hc0, hns, ve, hc1, hel⟩ := HC.out k hlt
      obtain ⟨a5, cap5, rfl, _⟩ := hel.form
      have hcell0 : W1.cell? ⟨b, off + k * 2, none⟩ = some (.string xs[k].name) := by rw [hbr.cell (p := ⟨b, off + k * 2, none⟩) hbl]; exact hc0
      have hcell1 : W1.cell? ⟨b, off + k * 2 + 1, none⟩ = some (.slice a5 xs[k].fields.length cap5) := by rw [hbr.cell (p := ⟨b, off + k * 2 + 1, none⟩) hbl]; exact hc1
      have hsegz : segSz xs[k] ≤ 1048576 := by
        have := at_le segSz xs k hlt
        unfold msgSz lenSum at hsz
        omega
      have HS := hide (msgWI_snoc xs k hlt)
      have hbB := hbr.alloc hz (Obj.cells #[.string xs[k].name, .slice a5 xs[k].fields.length cap5] 44)
      have hop := hbuf.own
      clear hc0 hc1
      go_wp2_with fail
      refine (segWrite_any w.heap.size R xs[k] _ _ w _ (Nat.le_refl _) hbB hel (hbuf.alloc _) (by simp; omega) (by omega)).mono ?_
      rintro e w2 ⟨u, R2, rfl, hW2, hu, hg2⟩
      have HW2 := hide hW2
      have hb2 := hbB.trans (hg2.below hop (by simp; omega))
      clear hW2
      go_wp2_with fail
      go_roundg (xs.length - (k + 1))
      case rel => exact ⟨k + 1, R2, by omega, rfl, by go_num, by rw [HS.out]; exact HW.out.trans HW2.out, hu, hb2⟩
      case measure => omega
    · go_wp2_with fail
      go_ret
      exact ⟨_, _, rfl, by have := HW.out; rwa [List.take_of_length_le (by omega)] at this, hbuf, hbr⟩

set_option maxHeartbeats 1000000 in
theorem encodeImpl_any (xs : List Seg) (v : Value) (w : World) (hsz : msgSz xs ≤ 1048576) {lo : Nat} (hv : SegsAt lo w v xs) :
    Calls Tryd.prog 6 #[.agg #[v]] w fun e w' => e = .returned (.string (encoded xs)) ∧ Below w.heap.size w w' := by
  have hb := (Below.refl w.heap.size w).alloc (Nat.le_refl _) (Obj.cells #[v] 25)
  have hv1 := At.kept kept_seg hv hb
  have hbox : (w.alloc (Obj.cells #[v] 25)).cell? ⟨w.heap.size, 0, none⟩ = some v := by simp
  cases hm : msgB xs
  · have HX := hide (encoded_no hm)
    have HM := hide hm
    clear hm hbox
    go_enter Tryd.func6, Tryd.ntmps6
    go_wp2_with fail
    refine (msgIn_any xs v _ hsz hv1).mono ?_
    rintro e w1 ⟨rfl, hb1⟩
    rw [HM.out]
    go_wp2_with fail
    go_ret
    exact ⟨ret_string HX.out.symm, bjoin hb1 hb⟩
  · have HX := hide (encoded_yes hm)
    have HM := hide hm
    have HZ := hide (msgB_size xs hm)
    have HBX := hide hbox
    clear hm hbox
    go_enter Tryd.func6, Tryd.ntmps6
    go_wp2_with fail
    refine (msgIn_any xs v _ hsz hv1).mono ?_
    rintro e w1 ⟨rfl, hb1⟩
    rw [HM.out]
    have hbox1 : w1.cell? ⟨w.heap.size, 0, none⟩ = some v := by rw [hb1.cell (p := ⟨w.heap.size, 0, none⟩) (by simp)]; exact HBX.out
    have hv2 := At.kept kept_seg hv1 hb1
    have hb2 := bjoin hb1 hb
    clear hv1 hb1
    go_wp2_with fail
    refine (msgWrite_any xs v _ hsz hv2).mono ?_
    rintro e w3 ⟨u, R, rfl, hW, hu, hb3⟩
    have hR : R = msgW xs := by
      have := hW.eq (by rw [List.nil_append, HZ.out.1]; exact HZ.out.2)
      rw [this, List.nil_append, HZ.out.1]
    subst hR
    have hconv := buf_string hu
    clear hbox1 hv2 hW
    go_wp2_with fail
    go_ret
    exact ⟨ret_string HX.out.symm, bjoin hb3 hb2⟩
end Go.Proofs.YtcphfhfockjljaaDoor.Msg

namespace Go.Proofs.YtcphfhfockjljaaDoor.Msg
set_option linter.unusedVariables false
set_option linter.unusedSimpArgs false

theorem piecesL_yes (l : List UInt8) (h : (cutL 13 l)[(cutL 13 l).length - 1]'(by have := cutL_pos 13 l; omega) = []) : piecesL l = (cutL 13 l).dropLast := by
  unfold piecesL
  rw [if_pos]
  rw [List.getLast?_eq_getElem?, List.getElem?_eq_getElem (by have := cutL_pos 13 l; omega), h]
theorem piecesL_no (l : List UInt8) (h : (cutL 13 l)[(cutL 13 l).length - 1]'(by have := cutL_pos 13 l; omega) ≠ []) : piecesL l = cutL 13 l := by
  unfold piecesL
  rw [if_neg]
  rw [List.getLast?_eq_getElem?, List.getElem?_eq_getElem (by have := cutL_pos 13 l; omega)]
  intro e
  injection e with e
  exact h e
theorem piecesL_at (l : List UInt8) (i : Nat) (h : i < (piecesL l).length) : ∃ h2 : i < (cutL 13 l).length, (piecesL l)[i] = (cutL 13 l)[i] := by
  by_cases hl : (cutL 13 l)[(cutL 13 l).length - 1]'(by have := cutL_pos 13 l; omega) = []
  · have e := piecesL_yes l hl
    have h' : i < ((cutL 13 l).dropLast).length := by rw [← e]; exact h
    refine ⟨by rw [List.length_dropLast] at h'; omega, ?_⟩
    have : (piecesL l)[i] = ((cutL 13 l).dropLast)[i] := by simp only [e]
    rw [this, List.getElem_dropLast]
  · have e := piecesL_no l hl
    have h' : i < (cutL 13 l).length := by rw [← e]; exact h
    exact ⟨h', by simp only [e]⟩
theorem piecesL_le (l : List UInt8) : (piecesL l).length ≤ (cutL 13 l).length := by
  unfold piecesL
  split
  · rw [List.length_dropLast]; omega
  · exact Nat.le_refl _
/-- the first piece has the whole head -/
theorem piece_first {s : ByteArray} (h : headB s = true) (h0 : 0 < (piecesL s.data.toList).length) : 8 ≤ ((piecesL s.data.toList)[0]).length := by
  obtain ⟨h2, e⟩ := piecesL_at s.data.toList 0 h0
  rw [e]
  unfold headB at h
  simp only [Bool.and_eq_true, decide_eq_true_eq] at h
  obtain ⟨h8, hm, hd, _⟩ := h
  have hl : 8 ≤ s.data.toList.length := by simpa using h8
  have hno : ∀ x ∈ s.data.toList.take 8, x ≠ 13 := by
    intro x hx
    obtain ⟨i, hi, rfl⟩ := List.getElem_of_mem hx
    have hi8 : i < 8 := by rw [List.length_take] at hi; omega
    rw [List.getElem_take]
    by_cases h3 : i < 3
    · have hm' : s.data.toList.take 3 = [77, 83, 72] := by
        have := beq_iff_eq.1 hm
        rw [ByteArray.toList_eq, Lib.extract_data] at this
        simpa using this
      have : (s.data.toList.take 3)[i]'(by rw [List.length_take]; omega) = ([77, 83, 72] : List UInt8)[i]'(by simpa using h3) := by simp only [hm']
      rw [List.getElem_take] at this
      rw [this]
      match i, h3 with
      | 0, _ => exact (by decide : (77 : UInt8) ≠ 13)
      | 1, _ => exact (by decide : (83 : UInt8) ≠ 13)
      | 2, _ => exact (by decide : (72 : UInt8) ≠ 13)
    · unfold delimsB at hd
      rw [List.all_eq_true] at hd
      have := hd (i - 3) (by simp; omega)
      have hg : (s.extract 3 8).data.toList[i - 3]? = some s.data.toList[i] := by
        rw [Lib.extract_data, List.getElem?_take, if_pos (by omega), List.getElem?_drop, show 3 + (i - 3) = i by omega, List.getElem?_eq_getElem (by omega)]
      intro hx13
      rw [hx13] at hg
      unfold newAt at this
      rw [hg] at this
      have hb : badB 13 = true := by decide
      simp [hb] at this
  obtain ⟨t, ts, hc⟩ := cutL_head 13 (s.data.toList.take 8) (s.data.toList.drop 8) hno
  rw [List.take_append_drop] at hc
  have : (cutL 13 s.data.toList)[0] = s.data.toList.take 8 ++ t := by simp only [hc, List.getElem_cons_zero]
  rw [this, List.length_append, List.length_take]
  omega

/-! one piece, case by case -/
theorem seg_4a {d : ByteArray} {hd : d.size = 5} {i : Nat} {p : List UInt8} (h : p.length < 3 ∨ nameB (txt (p.take 3)) = false ∨ (0 < i ∧ p.take 3 = [77, 83, 72])) : segL d hd i p = .error 4 := by
  unfold segL; rw [if_pos h]
theorem seg_4b {d : ByteArray} {hd : d.size = 5} {i : Nat} {p : List UInt8} (h : ¬ (p.length < 3 ∨ nameB (txt (p.take 3)) = false ∨ (0 < i ∧ p.take 3 = [77, 83, 72]))) (h2 : (restL i p).head?.any (fun c => c != d[0]) = true) : segL d hd i p = .error 4 := by
  unfold segL; rw [if_neg h, if_pos h2]
theorem seg_5 {d : ByteArray} {hd : d.size = 5} {i : Nat} {p : List UInt8} (h : ¬ (p.length < 3 ∨ nameB (txt (p.take 3)) = false ∨ (0 < i ∧ p.take 3 = [77, 83, 72]))) (h2 : (restL i p).head?.any (fun c => c != d[0]) = false)
    (h3 : 250 ≤ i ∨ longB (fieldsT d hd (restL i p)) = true) : segL d hd i p = .error 5 := by
  unfold segL; rw [if_neg h, if_neg (by rw [h2]; decide), if_pos h3]
theorem seg_6 {d : ByteArray} {hd : d.size = 5} {i : Nat} {p : List UInt8} (h : ¬ (p.length < 3 ∨ nameB (txt (p.take 3)) = false ∨ (0 < i ∧ p.take 3 = [77, 83, 72]))) (h2 : (restL i p).head?.any (fun c => c != d[0]) = false)
    (h3 : ¬ (250 ≤ i ∨ longB (fieldsT d hd (restL i p)) = true)) (h4 : allO (allO (allO (plainO d hd))) (fieldsT d hd (restL i p)) = none) : segL d hd i p = .error 6 := by
  unfold segL; rw [if_neg h, if_neg (by rw [h2]; decide), if_neg h3, h4]
theorem seg_ok {d : ByteArray} {hd : d.size = 5} {i : Nat} {p : List UInt8} (h : ¬ (p.length < 3 ∨ nameB (txt (p.take 3)) = false ∨ (0 < i ∧ p.take 3 = [77, 83, 72]))) (h2 : (restL i p).head?.any (fun c => c != d[0]) = false)
    (h3 : ¬ (250 ≤ i ∨ longB (fieldsT d hd (restL i p)) = true)) {g : List Field} (h4 : allO (allO (allO (plainO d hd))) (fieldsT d hd (restL i p)) = some g) : segL d hd i p = .ok ⟨txt (p.take 3), g⟩ := by
  unfold segL; rw [if_neg h, if_neg (by rw [h2]; decide), if_neg h3, h4]
theorem segs_start (d : ByteArray) (hd : d.size = 5) (ps : List (List UInt8)) : segsGo d hd 0 ps = (segsGo d hd 0 (ps.drop 0)).map (([] : List Seg) ++ ·) := by
  rw [List.drop_zero]
  cases segsGo d hd 0 ps <;> rfl
theorem txt_name (p : List UInt8) : (txt p).extract 0 3 = txt (p.take 3) := by rw [txt_extract, txt_data]; rfl
theorem txt_from (p : List UInt8) (a : Nat) : (txt p).extract a (txt p).size = txt (p.drop a) := by
  rw [txt_extract, txt_data, txt_size, List.take_length]
theorem txt_at0 (l : List UInt8) (h : 0 < (txt l).size) : l.head? = some ((txt l)[0]) := by
  cases l with
  | nil => simp [txt_size] at h
  | cons x l => rfl
theorem restL_len (i : Nat) (p : List UInt8) : (restL i p).length ≤ p.length := by
  unfold restL
  split <;> simp
theorem new_cells2 (w : World) (x y : Value) (t : TypeId) : ∀ (j : Nat) (u : Value), [x, y][j]? = some u → (w.alloc (.cells #[x, y] t)).cell? ((⟨w.heap.size, 0, none⟩ : Addr).add j) = some u := by
  intro j u hj
  match j with
  | 0 => simp at hj; subst hj; simp [Addr.add]
  | 1 => simp at hj; subst hj; simp [Addr.add]
  | j + 2 => simp at hj
theorem info_Seg2 : (Tryd.prog.info? 44).map (fun i => (i.zero, i.size, i.bytes)) = some (some (.agg #[.string ByteArray.empty, .slice none 0 0]), 2, 40) := by kernel_rfl
theorem one_cells2 (s : ByteArray) (a : Option Addr) (n c : Nat) : ∀ u ∈ [Value.string s, Value.slice a n c], u.oneCell' = true := by
  intro u hu
  simp only [List.mem_cons, List.not_mem_nil, or_false] at hu
  rcases hu with rfl | rfl <;> rfl
end Go.Proofs.YtcphfhfockjljaaDoor.Msg
