import Derived.Test.YtfcmhnfdbobnlaaGreatDoorQryNumIwithWRplIwithRplReadP
import Derived.Test.YtfcmhnfdbobnlaaGreatDoorLooseI
import Derived.Test.YtfcmhnfdbobnlaaGreatDoorImplEncode
namespace Go.Proofs.YtfcmhnfdbobnlaaGreatDoor.Msg
open Go.ChangeShapes Go.WideShapes Go.ChangeAt Go.RowKit
set_option linter.unusedVariables false
set_option linter.unusedSimpArgs false

/-! ReadReply of the program -/
/-- a reply in memory of its own, and a word -/
def ReadIPost (w : World) (p : Rpl × Bool) (e : Ending) (w' : World) : Prop := ∃ ar cr, e = .returned (.tuple #[rplV p.1 (.slice ar p.1.rows.length cr), .bool p.2]) ∧ FB strC 1 9 w.heap.size w' (.slice ar p.1.rows.length cr) p.1.rows ∧ Below w.heap.size w w'
theorem readI_empty {xs : List Seg} (h : encoded xs = ⟨#[]⟩) : readI xs = (rpl0, false) := by
  unfold readI
  exact if_neg fun h' => h'.1 h
theorem readI_no {xs : List Seg} (h : ¬ encoded xs = encoded (rplM (looseI xs))) : readI xs = (rpl0, false) := by
  unfold readI
  exact if_neg fun h' => h h'.2
theorem readI_yes {xs : List Seg} (h1 : encoded xs ≠ ⟨#[]⟩) (h2 : encoded xs = encoded (rplM (looseI xs))) : readI xs = (looseI xs, true) := by
  unfold readI
  exact if_pos ⟨h1, h2⟩
theorem rplM_sz (r : Rpl) : msgSz (rplM r) ≤ 1048576 := by
  unfold rplM
  cases h : okRpl r
  · simp [msgSz, lenSum, sumOf]
  · have := specM_sz h
    simp only [if_true]
    unfold onlyGood
    split
    · exact this
    · simp [msgSz, lenSum, sumOf]
theorem enc_size (xs : List Seg) : (encoded xs).size ≤ 40000 := by
  cases h : msgB xs
  · rw [encoded_no h]; exact Nat.zero_le _
  · rw [encoded_yes h]
    unfold msgB at h
    simp only [Bool.and_eq_true, decide_eq_true_eq] at h
    show (msgW xs).toArray.size ≤ 40000
    simpa using h.2
theorem readI_results {X : World} {R : Nat} {tmps : Array Value} {t0 t1 t3 t5 : ByteArray} {k2 : Int} {ad : Option Addr} {ln cp : Nat} {x : Bool} (h2 : tmps[2]? = some (.pointer (some ⟨R, 0, none⟩))) (h3 : tmps[3]? = some (.bool x)) (h : Box X R 28 #[.string t0, .string t1, .int .i64 k2, .string t3, .slice ad ln cp, .string t5]) :
    (results Tryz.f7 tmps).run Tryz.prog X = .ok (.tuple #[.agg #[.string t0, .string t1, .int .i64 k2, .string t3, .slice ad ln cp, .string t5], .bool x]) X := by
  have c0 := h.cell 0 (by simp)
  have c1 := h.cell 1 (by simp)
  have c2 := h.cell 2 (by simp)
  have c3 := h.cell 3 (by simp)
  have c4 := h.cell 4 (by simp)
  have c5 := h.cell 5 (by simp)
  simp at c0 c1 c2 c3 c4 c5
  have hl := h.lt
  simp [results, Tryz.results7, go_sem, h2, h3, c0, c1, c2, c3, c4, c5, hl]
theorem eq_of_toList {a b : ByteArray} (h : a.toList = b.toList) : a = b := by
  apply ByteArray.ext
  rw [ByteArray.toList_eq, ByteArray.toList_eq] at h
  exact Array.toList_inj.1 h

set_option maxRecDepth 100000 in
set_option maxHeartbeats 16000000 in
theorem readRplI_any (xs : List Seg) (a : Option Addr) (cap : Nat) (w : World) {lo : Nat} (hv : SegsAt lo w (.slice a xs.length cap) xs) (hsz : msgSz xs ≤ 1048576) (hE : Env w) :
    Calls Tryz.prog 7 #[.agg #[.slice a xs.length cap]] w (ReadIPost w (readI xs)) := by
  obtain ⟨x1, hx1⟩ : ∃ x1, w.alloc (Obj.cells #[.slice a xs.length cap] 33) = x1 := ⟨_, rfl⟩
  obtain ⟨w1, hw1⟩ : ∃ w1, x1.alloc (Obj.cells #[.string ⟨#[]⟩, .string ⟨#[]⟩, .int .i64 0, .string ⟨#[]⟩, .slice none 0 0, .string ⟨#[]⟩] 28) = w1 := ⟨_, rfl⟩
  have sx1 : x1.heap.size = w.heap.size + 1 := by rw [← hx1]; simp
  have sw1 : w1.heap.size = w.heap.size + 1 + 1 := by rw [← hw1]; simp [sx1]
  have bx1 : Below w.heap.size w x1 := by rw [← hx1]; exact (Below.refl _ _).alloc (Nat.le_refl _) _
  have bw1 : Below x1.heap.size x1 w1 := by rw [← hw1]; exact (Below.refl _ _).alloc (Nat.le_refl _) _
  have k0 : w1.cell? ⟨w.heap.size, 0, none⟩ = some (.slice a xs.length cap) := (bw1.cell (p := ⟨w.heap.size, 0, none⟩) (by rw [sx1]; simp)).trans (by rw [← hx1]; simp)
  have HRES : Hid (Box w1 (w.heap.size + 1) 28 #[.string ⟨#[]⟩, .string ⟨#[]⟩, .int .i64 0, .string ⟨#[]⟩, .slice none 0 0, .string ⟨#[]⟩]) := by rw [← hw1, ← sx1]; exact Box.new _ _ _
  have HB1 := hide (bjoin' bw1 bx1)
  have HV1 := hide (At.kept kept_seg hv HB1.out)
  have KM : Hid (∀ X, Below w1.heap.size w1 X → X.cell? ⟨w.heap.size, 0, none⟩ = some (.slice a xs.length cap)) := fun X h => (h.cell (p := ⟨w.heap.size, 0, none⟩) (by rw [sw1]; dsimp only; omega)).trans k0
  have HEN := hide (fun W (h : Below w1.heap.size w1 W) => encodeImpl_any xs (.slice a xs.length cap) W (lo := lo) hsz (At.kept kept_seg HV1.out h))
  have HLO := hide (fun W (h : Below w1.heap.size w1 W) => looseI_any xs a cap W (lo := lo) (At.kept kept_seg HV1.out h) hsz ((hE.kept HB1.out).kept h))
  have HES := enc_size xs
  have HLZ : Hid ((looseI xs).ack.size ≤ 1048576 ∧ (looseI xs).control.size ≤ 1048576 ∧ (looseI xs).tag.size ≤ 1048576 ∧ (looseI xs).pointer.size ≤ 1048576 ∧ (looseI xs).rows.length ≤ 1048576 ∧ ∀ s ∈ (looseI xs).rows, s.size ≤ 1048576) :=
    ⟨Nat.le_trans (getFrom_sz xs _ _ _) hsz, Nat.le_trans (getFrom_sz xs _ _ _) hsz, Nat.le_trans (getFrom_sz xs _ _ _) hsz, Nat.le_trans (getFrom_sz xs _ _ _) hsz, Nat.le_trans (rowsOf_len xs) (by unfold msgSz lenSum at hsz; omega), rowsOf_sz hsz⟩
  have HEV := hide (fun W (h : Below w1.heap.size w1 W) => (hE.kept HB1.out).kept h)
  have HRE := hide (readI_empty (xs := xs))
  have HRN := hide (readI_no (xs := xs))
  have HRY := hide (readI_yes (xs := xs))
  obtain ⟨lr, hlr⟩ : ∃ r, looseI xs = r := ⟨_, rfl⟩
  rw [hlr] at HLO HLZ HRN HRY
  obtain ⟨en, hen⟩ : ∃ e, encoded xs = e := ⟨_, rfl⟩
  rw [hen] at HEN HES HRE HRN HRY
  obtain ⟨P, hP⟩ : ∃ P, readI xs = P := ⟨_, rfl⟩
  rw [hP] at HRE HRN HRY ⊢
  have HSW := hide sw1
  have HW1 : Hid ((w.alloc (Obj.cells #[.slice a xs.length cap] 33)).alloc (Obj.cells #[.string ⟨#[]⟩, .string ⟨#[]⟩, .int .i64 0, .string ⟨#[]⟩, .slice none 0 0, .string ⟨#[]⟩] 28) = w1) := by rw [hx1]; exact hw1
  have HZERO : Hid (∀ W, Below w1.heap.size w1 W → P = (rpl0, false) → ReadIPost w P (.returned (.tuple #[.agg #[.string ⟨#[]⟩, .string ⟨#[]⟩, .int .i64 0, .string ⟨#[]⟩, .slice none 0 0, .string ⟨#[]⟩], .bool false])) ((((((W.setCell ⟨w.heap.size + 1, 0, none⟩ (.string ⟨#[]⟩)).setCell ⟨w.heap.size + 1, 1, none⟩ (.string ⟨#[]⟩)).setCell ⟨w.heap.size + 1, 2, none⟩ (.int .i64 0)).setCell ⟨w.heap.size + 1, 3, none⟩ (.string ⟨#[]⟩)).setCell ⟨w.heap.size + 1, 4, none⟩ (.slice none 0 0)).setCell ⟨w.heap.size + 1, 5, none⟩ (.string ⟨#[]⟩))) := fun W h e => by
    rw [e]
    exact ⟨none, 0, rfl, FB.nil _ _ _ _ _, below_fill6 (bjoin' h HB1.out) (Nat.le_succ _) _ _ _ _ _ _⟩
  clear hlr hen hP hx1 hw1 sx1 sw1 bx1 bw1 hv hsz hE
  go_enter Tryz.func7, Tryz.ntmps7
  go_wp2_with fail
  rw [HW1.out]
  refine (HEN.out _ (Below.refl _ _)).mono ?_
  rintro e w2 ⟨rfl, hb2⟩
  have HB2 := hide hb2
  have HR2 := hide (HRES.out.below hb2)
  have km2 := KM.out w2 hb2
  refine rb6 HR2.out ?_
  rintro _ ⟨⟨q0, q1, q2, q3, q4, q5⟩, f0, f1, f2, f3, f4, f5⟩
  have hRl : w.heap.size + 1 < w2.heap.size := HR2.out.lt
  clear hb2 k0
  by_cases he0 : en.size = 0
  · obtain ⟨p1, p2, p3⟩ := empty_yes he0
    have HX : Hid (P = (rpl0, false)) := HRE.out (ByteArray.ext (Array.eq_empty_of_size_eq_zero he0))
    clear he0 p1 km2
    go_wp2_with fail
    exact bodyPost_ret (readI_results (R := w.heap.size + 1) rfl rfl (HR2.out.fill6 _ _ _ _ _ _)) rfl (HZERO.out _ HB2.out HX.out)
  · obtain ⟨p1, p2, p3⟩ := empty_no he0
    have HNE : Hid (en ≠ ⟨#[]⟩) := fun h => he0 (by rw [h]; rfl)
    clear he0
    go_wp2_with fail
    refine (HLO.out _ HB2.out).mono ?_
    rintro e w3 ⟨ar, cr, rfl, hF, hb3⟩
    obtain ⟨ack, control, code, tag, rows, pointer⟩ := lr
    unfold rplV
    dsimp only at HLZ hF ⊢
    have HB3 := hide (bjoin hb3 HB2.out)
    have HR3 := hide (HR2.out.below hb3)
    obtain ⟨nr, hnr⟩ : ∃ n, rows.length = n := ⟨_, rfl⟩
    have HNR := hide hnr
    rw [hnr] at hF ⊢
    have HF3 := hide hF
    obtain ⟨w4, hw4⟩ : ∃ w4, w3.alloc (Obj.cells #[.string ack, .string control, .int .i64 code, .string tag, .slice ar nr cr, .string pointer] 28) = w4 := ⟨_, rfl⟩
    have hb4 : Below w3.heap.size w3 w4 := by rw [← hw4]; exact (Below.refl _ _).alloc (Nat.le_refl _) _
    have HBR4 : Hid (Box w4 w3.heap.size 28 #[.string ack, .string control, .int .i64 code, .string tag, .slice ar nr cr, .string pointer]) := by rw [← hw4]; exact Box.new _ _ _
    have HB4 := hide (bjoin hb4 HB3.out)
    have HF4 := hide (hF.below hb4)
    have HR4 := hide (HR3.out.below hb4)
    have HSTR := hide (fb_strs HF4.out (by have := HLZ.out.2.2.2.2.1; omega) (fun s hs => Nat.le_trans (HLZ.out.2.2.2.2.2 s hs) (by decide)))
    have HWR := hide (writeRplI_any ⟨ack, control, code, tag, rows, pointer⟩ ar cr w4 (lo := w2.heap.size) HLZ.out.1 HLZ.out.2.1 HLZ.out.2.2.1 HLZ.out.2.2.2.1 (by have := HLZ.out.2.2.2.2.1; dsimp only; omega) (by show StrsAt _ w4 (.slice ar rows.length cr) rows; rw [hnr]; exact HSTR.out) (HEV.out _ HB4.out))
    obtain ⟨ys, hys⟩ : ∃ ys, rplM ⟨ack, control, code, tag, rows, pointer⟩ = ys := ⟨_, rfl⟩
    have HYZ : Hid (msgSz ys ≤ 1048576) := by rw [← hys]; exact rplM_sz _
    rw [hys] at HWR HRN HRY
    unfold rplV at HWR
    dsimp only at HWR
    rw [hnr] at HWR
    refine rb6 HBR4.out ?_
    rintro _ ⟨⟨z0, z1, z2, z3, z4, z5⟩, -⟩
    clear hF hb3 hb4 hnr q0 q1 q2 q3 q4 q5 f0 f1 f2 f3 f4 f5 hRl hys km2
    go_wp2_with fail
    refine HWR.out.mono ?_
    rintro e w5 ⟨u, rfl, hS5, hb5⟩
    have HS5 := hide hS5
    have HB5 := hide (bjoin hb5 HB4.out)
    have HBR5 := hide (HBR4.out.below hb5)
    have HF5 := hide (HF4.out.below hb5)
    have HES2 := hide (enc_size ys)
    clear hS5 hb5 z0 z1 z2 z3 z4 z5
    go_wp2_with fail
    refine (encodeImpl_any ys u w5 HYZ.out HS5.out).mono ?_
    rintro e w6 ⟨rfl, hb6⟩
    have HB6 := hide (bjoin hb6 HB5.out)
    have HBR6 := hide (HBR5.out.below hb6)
    have HF6 := hide (HF5.out.below hb6)
    have HR6 := hide (HRES.out.below HB6.out)
    refine rb6 HBR6.out ?_
    rintro _ ⟨⟨z0, z1, z2, z3, z4, z5⟩, -⟩
    refine rb6 HR6.out ?_
    rintro _ ⟨⟨q0, q1, q2, q3, q4, q5⟩, f0, f1, f2, f3, f4, f5⟩
    have hRl : w.heap.size + 1 < w6.heap.size := HR6.out.lt
    obtain ⟨e2, he2⟩ : ∃ e, encoded ys = e := ⟨_, rfl⟩
    rw [he2] at HRN HRY ⊢
    clear hb6 he2
    by_cases heq : en.toList = e2.toList
    · have hq1 : (en.toList == e2.toList) = true := by rw [heq]; exact beq_self_eq_true _
      have hq2 : (!(en.toList == e2.toList)) = false := by rw [hq1]; rfl
      have HX := hide (HRY.out HNE.out (eq_of_toList heq))
      clear p1 p2 p3
      go_wp2_with fail
      refine bodyPost_ret (v := .tuple #[.agg #[.string ack, .string control, .int .i64 code, .string tag, .slice ar nr cr, .string pointer], .bool true]) (readI_results (R := w.heap.size + 1) rfl rfl (HR6.out.fill6 _ _ _ _ _ _)) rfl ?_
      rw [HX.out]
      refine ⟨ar, cr, by unfold rplV; dsimp only; rw [HNR.out], ?_, below_fill6 (bjoin' HB6.out HB1.out) (Nat.le_succ _) _ _ _ _ _ _⟩
      show FB strC 1 9 w.heap.size _ (.slice ar rows.length cr) rows
      rw [HNR.out]
      have hsw := HSW.out
      have hw2 := HB2.out.size
      refine FB.mono (FB.keep HF6.out fun b hb => ?_) (by omega)
      have := (HF6.out.own b hb).1
      iterate 6 (refine (Deep.blk_setCell_other _ _ _ _ (by dsimp only; omega)).trans ?_)
      rfl
    · have hq1 : (en.toList == e2.toList) = false := by
        cases hh : (en.toList == e2.toList)
        · rfl
        · exact absurd (eq_of_beq hh) heq
      have hq2 : (!(en.toList == e2.toList)) = true := by rw [hq1]; rfl
      have HX : Hid (P = (rpl0, false)) := HRN.out fun h => heq (by rw [h])
      clear p1 p2 p3
      go_wp2_with fail
      exact bodyPost_ret (readI_results (R := w.heap.size + 1) rfl rfl (HR6.out.fill6 _ _ _ _ _ _)) rfl (HZERO.out _ HB6.out HX.out)
end Go.Proofs.YtfcmhnfdbobnlaaGreatDoor.Msg
