import Derived.Test.YtfcmhnfdbobnlaaGreatDoorMsgEncodewithImplMsgLwithImplMsgIn
namespace Go.Proofs.YtfcmhnfdbobnlaaGreatDoor.Msg
open Go.ChangeShapes Go.WideShapes Go.ChangeAt Go.RowKit
set_option linter.unusedVariables false
set_option linter.unusedSimpArgs false

theorem msgWI_take_le (xs : List Seg) (k : Nat) : (msgWI (xs.take k)).length ≤ (msgWI xs).length := by
  unfold msgWI
  conv => rhs; rw [← List.take_append_drop k xs]
  rw [List.flatMap_append, List.length_append]
  omega
theorem msgWI_le : ∀ xs : List Seg, (msgWI xs).length ≤ 6 * msgSz xs
  | [] => by simp [msgWI, msgSz, lenSum, sumOf]
  | x :: xs => by
    have ih := msgWI_le xs
    have hx := segWI_le x
    simp only [msgWI, msgSz, lenSum, sumOf, List.flatMap_cons, List.length_append, List.length_cons, List.map_cons, List.sum_cons] at *
    omega

set_option maxRecDepth 100000 in
set_option maxHeartbeats 2000000 in
theorem msgWrite_any (xs : List Seg) (v : Value) (w : World) (hsz : msgSz xs ≤ 1048576) {lo : Nat} (hv : SegsAt lo w v xs) :
    Calls Tryz.prog 36 #[.agg #[v], .slice none 0 0] w fun e w' => ∃ u R, e = .returned u ∧ Wr [] (msgWI xs) R ∧ Buf w.heap.size w' u R ∧ Below w.heap.size w w' := by
  have hl := hv.1
  obtain ⟨a, cap, rfl, hc⟩ := hv.form
  have HC := hide hc
  clear hc hv
  have hml := msgWI_le xs
  have hb0 := (Below.refl w.heap.size w).alloc (Nat.le_refl _) (Obj.cells #[.slice a xs.length cap] 33)
  go_enter Tryz.func36, Tryz.ntmps36
  go_wp2_with fail
  go_loopg [1, 10] xs.length (fun n v1 i wr => ∃ (k : Nat) (R : List UInt8), k ≤ xs.length ∧ n = xs.length - k ∧ i = .int .i64 k ∧ Wr [] (msgWI (xs.take k)) R ∧ Buf w.heap.size wr v1 R ∧ Below w.heap.size w wr)
  case atStart => exact ⟨0, [], Nat.zero_le _, by simp, rfl, by simpa [msgWI] using Wr.nil [], Buf.nil _ _, hb0⟩
  case round =>
    obtain ⟨k, R, hk, rfl, rfl, hW, hbuf, hbr⟩ := hrel
    obtain ⟨W1, rfl⟩ : ∃ x, x = wr := ⟨_, rfl⟩
    have HW := hide hW
    have hRl := hW.len (msgWI_take_le xs k)
    rw [List.length_nil] at hRl
    clear hW
    have hz : w.heap.size ≤ W1.heap.size := hbr.size
    by_cases hlt : k < xs.length
    · obtain ⟨b, off, rfl, _, hbl, hc0, hns, ve, hc1, hel⟩ := HC.out k hlt
      obtain ⟨a5, cap5, rfl, _⟩ := hel.form
      have hcell0 : W1.cell? ⟨b, off + k * 2, none⟩ = some (.string xs[k].name) := by rw [hbr.cell (p := ⟨b, off + k * 2, none⟩) hbl]; exact hc0
      have hcell1 : W1.cell? ⟨b, off + k * 2 + 1, none⟩ = some (.slice a5 xs[k].fields.length cap5) := by rw [hbr.cell (p := ⟨b, off + k * 2 + 1, none⟩) hbl]; exact hc1
      have hsegz : segSz xs[k] ≤ 1048576 := by
        have := at_le segSz xs k hlt
        unfold msgSz lenSum at hsz
        omega
      have HS := hide (msgWI_snoc xs k hlt)
      have hbB := hbr.alloc hz (Obj.cells #[.string xs[k].name, .slice a5 xs[k].fields.length cap5] 45)
      have hop := hbuf.own
      clear hc0 hc1
      go_wp2_with fail
      refine (segWrite_any w.heap.size R xs[k] _ _ w _ (Nat.le_refl _) hbB hel (hbuf.alloc _) (by simp; omega) (by omega)).mono ?_
      rintro e w2 ⟨u, R2, rfl, hW2, hu, hg2⟩
      have HW2 := hide hW2
      have hb2 := hbB.trans (hg2.below hop (by simp; omega))
      clear hW2
      go_wp2_with fail
      go_roundg (xs.length - (k + 1))
      case rel => exact ⟨k + 1, R2, by omega, rfl, by go_num, by rw [HS.out]; exact HW.out.trans HW2.out, hu, hb2⟩
      case measure => omega
    · go_wp2_with fail
      go_ret
      exact ⟨_, _, rfl, by have := HW.out; rwa [List.take_of_length_le (by omega)] at this, hbuf, hbr⟩

set_option maxHeartbeats 1000000 in
theorem encodeImpl_any (xs : List Seg) (v : Value) (w : World) (hsz : msgSz xs ≤ 1048576) {lo : Nat} (hv : SegsAt lo w v xs) :
    Calls Tryz.prog 19 #[.agg #[v]] w fun e w' => e = .returned (.string (encoded xs)) ∧ Below w.heap.size w w' := by
  have hb := (Below.refl w.heap.size w).alloc (Nat.le_refl _) (Obj.cells #[v] 33)
  have hv1 := At.kept kept_seg hv hb
  have hbox : (w.alloc (Obj.cells #[v] 33)).cell? ⟨w.heap.size, 0, none⟩ = some v := by simp
  cases hm : msgB xs
  · have HX := hide (encoded_no hm)
    have HM := hide hm
    clear hm hbox
    go_enter Tryz.func19, Tryz.ntmps19
    go_wp2_with fail
    refine (msgIn_any xs v _ hsz hv1).mono ?_
    rintro e w1 ⟨rfl, hb1⟩
    rw [HM.out]
    go_wp2_with fail
    go_ret
    exact ⟨ret_string HX.out.symm, bjoin hb1 hb⟩
  · have HX := hide (encoded_yes hm)
    have HM := hide hm
    have HZ := hide (msgB_size xs hm)
    have HBX := hide hbox
    clear hm hbox
    go_enter Tryz.func19, Tryz.ntmps19
    go_wp2_with fail
    refine (msgIn_any xs v _ hsz hv1).mono ?_
    rintro e w1 ⟨rfl, hb1⟩
    rw [HM.out]
    have hbox1 : w1.cell? ⟨w.heap.size, 0, none⟩ = some v := by rw [hb1.cell (p := ⟨w.heap.size, 0, none⟩) (by simp)]; exact HBX.out
    have hv2 := At.kept kept_seg hv1 hb1
    have hb2 := bjoin hb1 hb
    clear hv1 hb1
    go_wp2_with fail
    refine (msgWrite_any xs v _ hsz hv2).mono ?_
    rintro e w3 ⟨u, R, rfl, hW, hu, hb3⟩
    have hR : R = msgW xs := by
      have := hW.eq (by rw [List.nil_append, HZ.out.1]; exact HZ.out.2)
      rw [this, List.nil_append, HZ.out.1]
    subst hR
    have hconv := buf_string hu
    clear hbox1 hv2 hW
    go_wp2_with fail
    go_ret
    exact ⟨ret_string HX.out.symm, bjoin hb3 hb2⟩
end Go.Proofs.YtfcmhnfdbobnlaaGreatDoor.Msg
