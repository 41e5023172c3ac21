import Derived.Test.YtebdfmijlnkcbaaGreatDoorQryReadS
import Derived.Test.YtebdfmijlnkcbaaGreatDoorMsgSz3
import Derived.Test.YtebdfmijlnkcbaaGreatDoorMsgFit
import Derived.Test.YtebdfmijlnkcbaaGreatDoorMsgEq3
namespace Go.Proofs.YtebdfmijlnkcbaaGreatDoor.Msg
open Go.ChangeShapes Go.WideShapes Go.ChangeAt Go.RowKit
set_option linter.unusedVariables false
set_option linter.unusedSimpArgs false

set_option maxHeartbeats 1000000 in
theorem eqReq_any (r : Req) (w : World) :
    Calls Tryz.prog 8 #[reqV r, reqV r] w fun e w' => e = .returned (.bool true) ∧ Below w.heap.size w w' := by
  obtain ⟨kind, control, tag, query, page, pointer⟩ := r
  have hb := ((Below.refl w.heap.size w).alloc (Nat.le_refl _) (Obj.cells #[.int .i64 kind, .string control, .string tag, .string query, .int .i64 page, .string pointer] 27)).alloc (by simp) (Obj.cells #[.int .i64 kind, .string control, .string tag, .string query, .int .i64 page, .string pointer] 27)
  have HB := hide hb
  clear hb
  show Calls Tryz.prog 8 #[.agg #[.int .i64 kind, .string control, .string tag, .string query, .int .i64 page, .string pointer], .agg #[.int .i64 kind, .string control, .string tag, .string query, .int .i64 page, .string pointer]] w _
  go_enter Tryz.func8, Tryz.ntmps8
  go_wp2_with fail
  go_ret
  exact ⟨rfl, HB.out⟩
set_option maxRecDepth 100000 in
set_option maxHeartbeats 2000000 in
theorem lawReadReq (hspec : ∀ (xs : List Seg) (v : Value) (w : World) (lo : Nat), msgSz xs ≤ 1048576 → SegsAt lo w v xs → Calls Tryz.prog 5 #[.agg #[v]] w fun e w' => e = .returned (ansV (readM numI xs)) ∧ Below w.heap.size w w')
    (himpl : ∀ (xs : List Seg) (v : Value) (w : World) (lo : Nat), msgSz xs ≤ 1048576 → SegsAt lo w v xs → Env w → ErrT w → Calls Tryz.prog 7 #[.agg #[v]] w fun e w' => e = .returned (ansV (readM numI xs)) ∧ Below w.heap.size w w')
    (xs : List Seg) (v : Value) (w : World) {lo : Nat} (hv : SegsAt lo w v xs) (hE : Env w) (hT : ErrT w) :
    Calls Tryz.prog 3 #[.agg #[v]] w fun e w' => e = .returned (.bool true) ∧ Below w.heap.size w w' := by
  have HE := hide hE
  have HT := hide hT
  clear hE hT
  have hb := (Below.refl w.heap.size w).alloc (Nat.le_refl _) (Obj.cells #[v] 24)
  have hv1 := At.kept kept_seg hv hb
  have hbox : (w.alloc (Obj.cells #[v] 24)).cell? ⟨w.heap.size, 0, none⟩ = some v := by simp
  have HBX := hide hbox
  clear hbox
  by_cases hsz : ((msgSz xs : Nat) : Int) ≤ 1048576
  · have hs' : msgSz xs ≤ 1048576 := by omega
    have HSP : Hid (∀ (v : Value) (W : World) (lo : Nat), SegsAt lo W v xs → _) := fun v W lo h => hspec xs v W lo hs' h
    have HIM : Hid (∀ (v : Value) (W : World) (lo : Nat), SegsAt lo W v xs → Env W → ErrT W → _) := fun v W lo h h1 h2 => himpl xs v W lo hs' h h1 h2
    clear hspec himpl
    obtain ⟨R, hR⟩ : ∃ R, readM numI xs = R := ⟨_, rfl⟩
    rw [hR] at HSP HIM
    clear hR
    obtain ⟨⟨kind, control, tag, query, page, pointer⟩, c⟩ := R
    have HEQ := hide (eqReq_any ⟨kind, control, tag, query, page, pointer⟩)
    unfold ansV reqV at HSP HIM
    unfold reqV at HEQ
    dsimp only at HSP HIM HEQ
    have hfit := hide (fits_of_sz hs')
    have hrest : rest 1048576 (msgSz xs) = 1048576 - (msgSz xs : Int) := rest_yes hsz
    have HRest := hide hrest
    clear hrest
    go_enter Tryz.func3, Tryz.ntmps3
    go_wp2_with fail
    refine (szMsg_any xs v 1048576 _ (by omega) (by omega) hv1).mono ?_
    rintro e w1 ⟨rfl, hb1⟩
    rw [HRest.out]
    have hw1 := bjoin hb1 hb
    have hx1 : w1.cell? ⟨w.heap.size, 0, none⟩ = some v := by rw [hb1.cell (p := ⟨w.heap.size, 0, none⟩) (by simp)]; exact HBX.out
    have hs1 : w.heap.size < w1.heap.size := by have := hb1.size; simp at this; omega
    have hv2 := At.kept kept_seg hv1 hb1
    have hnn : ¬ (1048576 : Int) - (msgSz xs : Int) < 0 := by omega
    clear hv1 hb1
    go_wp2_with fail
    refine (toMsg_any xs v _ hfit.out hv2).mono ?_
    rintro e w2 ⟨u1, rfl, hu1, hb2⟩
    have hx2 : w2.cell? ⟨w.heap.size, 0, none⟩ = some v := by rw [hb2.cell (p := ⟨w.heap.size, 0, none⟩) hs1]; exact hx1
    have hs2 : w.heap.size < w2.heap.size := by have := hb2.size; omega
    have hw2 := bjoin hb2 hw1
    have hv3 := At.kept kept_seg hv2 hb2
    clear hx1 hv2 hb2
    go_wp2_with fail
    refine (HSP.out u1 _ _ hu1).mono ?_
    rintro e w3 ⟨rfl, hb3⟩
    have hx3 : w3.cell? ⟨w.heap.size, 0, none⟩ = some v := by rw [hb3.cell (p := ⟨w.heap.size, 0, none⟩) hs2]; exact hx2
    have hs3 : w.heap.size < w3.heap.size := by have := hb3.size; omega
    have hw3 := bjoin hb3 hw2
    have hv4 := At.kept kept_seg hv3 hb3
    clear hx2 hv3 hb3 hu1
    obtain ⟨wa, hwa⟩ : ∃ wa, w3.alloc (Obj.cells #[.int .i64 kind, .string control, .string tag, .string query, .int .i64 page, .string pointer] 27) = wa := ⟨_, rfl⟩
    have hb3a : Below w3.heap.size w3 wa := by rw [← hwa]; exact (Below.refl _ _).alloc (Nat.le_refl _) _
    have hsa : wa.heap.size = w3.heap.size + 1 := by rw [← hwa]; simp
    have a0 : wa.cell? ⟨w3.heap.size, 0, none⟩ = some (.int .i64 kind) := by rw [← hwa]; simp
    have a1 : wa.cell? ⟨w3.heap.size, 1, none⟩ = some (.string control) := by rw [← hwa]; simp
    have a2 : wa.cell? ⟨w3.heap.size, 2, none⟩ = some (.string tag) := by rw [← hwa]; simp
    have a3 : wa.cell? ⟨w3.heap.size, 3, none⟩ = some (.string query) := by rw [← hwa]; simp
    have a4 : wa.cell? ⟨w3.heap.size, 4, none⟩ = some (.int .i64 page) := by rw [← hwa]; simp
    have a5 : wa.cell? ⟨w3.heap.size, 5, none⟩ = some (.string pointer) := by rw [← hwa]; simp
    have hl3 : w3.heap.size < wa.heap.size := by omega
    have HW0 : Hid (∀ X, Below wa.heap.size wa X → (X.cell? ⟨w3.heap.size, 0, none⟩ = some (.int .i64 kind) ∧ X.cell? ⟨w3.heap.size, 1, none⟩ = some (.string control) ∧ X.cell? ⟨w3.heap.size, 2, none⟩ = some (.string tag) ∧ X.cell? ⟨w3.heap.size, 3, none⟩ = some (.string query) ∧ X.cell? ⟨w3.heap.size, 4, none⟩ = some (.int .i64 page) ∧ X.cell? ⟨w3.heap.size, 5, none⟩ = some (.string pointer))) := fun X h => ⟨(h.cell (p := ⟨w3.heap.size, 0, none⟩) hl3).trans a0, (h.cell (p := ⟨w3.heap.size, 1, none⟩) hl3).trans a1, (h.cell (p := ⟨w3.heap.size, 2, none⟩) hl3).trans a2, (h.cell (p := ⟨w3.heap.size, 3, none⟩) hl3).trans a3, (h.cell (p := ⟨w3.heap.size, 4, none⟩) hl3).trans a4, (h.cell (p := ⟨w3.heap.size, 5, none⟩) hl3).trans a5⟩
    have hx3a : wa.cell? ⟨w.heap.size, 0, none⟩ = some v := (hb3a.cell (p := ⟨w.heap.size, 0, none⟩) hs3).trans hx3
    have hsaw : w.heap.size < wa.heap.size := by omega
    have HXA : Hid (∀ X, Below wa.heap.size wa X → X.cell? ⟨w.heap.size, 0, none⟩ = some v) := fun X h => (h.cell (p := ⟨w.heap.size, 0, none⟩) hsaw).trans hx3a
    have hv4a := At.kept kept_seg hv4 hb3a
    have HWA := hide (bjoin hb3a hw3)
    have HVA := hide hv4a
    clear a0 a1 a2 a3 a4 a5 hb3a hv4 hx3
    go_wp2_with fail
    refine (toMsg_any xs v _ hfit.out HVA.out).mono ?_
    rintro e w4 ⟨u2, rfl, hu2, hb4⟩
    obtain ⟨b2, cap2, rfl, _⟩ := hu2.form
    obtain ⟨wb, hwb⟩ : ∃ wb, w4.alloc (Obj.cells #[.slice b2 xs.length cap2] 32) = wb := ⟨_, rfl⟩
    have hb5 : Below w4.heap.size w4 wb := by rw [← hwb]; exact (Below.refl _ _).alloc (Nat.le_refl _) _
    have hxb : wb.cell? ⟨w4.heap.size, 0, none⟩ = some (.slice b2 xs.length cap2) := by rw [← hwb]; simp
    have hl4 : w4.heap.size < wb.heap.size := by rw [← hwb]; simp
    have hu3 := At.kept kept_seg hu2 hb5
    have hbab := bjoin hb5 hb4
    have HBAB := hide hbab
    have HU3 := hide hu3
    have HEb := hide (HE.out.kept (bjoin hbab HWA.out))
    have HTb := hide (HT.out.kept (bjoin hbab HWA.out))
    clear hb5 hb4 hu2 hu3 hbab
    go_wp2_with fail
    refine (HIM.out _ _ _ HU3.out HEb.out HTb.out).mono ?_
    rintro e w6 ⟨rfl, hb6⟩
    have hB6 := bjoin hb6 HBAB.out
    obtain ⟨wg, hwg⟩ : ∃ wg, w6.alloc (Obj.cells #[.int .i64 kind, .string control, .string tag, .string query, .int .i64 page, .string pointer] 27) = wg := ⟨_, rfl⟩
    have hb7 : Below w6.heap.size w6 wg := by rw [← hwg]; exact (Below.refl _ _).alloc (Nat.le_refl _) _
    have g0 : wg.cell? ⟨w6.heap.size, 0, none⟩ = some (.int .i64 kind) := by rw [← hwg]; simp
    have g1 : wg.cell? ⟨w6.heap.size, 1, none⟩ = some (.string control) := by rw [← hwg]; simp
    have g2 : wg.cell? ⟨w6.heap.size, 2, none⟩ = some (.string tag) := by rw [← hwg]; simp
    have g3 : wg.cell? ⟨w6.heap.size, 3, none⟩ = some (.string query) := by rw [← hwg]; simp
    have g4 : wg.cell? ⟨w6.heap.size, 4, none⟩ = some (.int .i64 page) := by rw [← hwg]; simp
    have g5 : wg.cell? ⟨w6.heap.size, 5, none⟩ = some (.string pointer) := by rw [← hwg]; simp
    have hB7 := bjoin hb7 hB6
    have hb7b := bjoin hb7 hb6
    obtain ⟨c0, c1, c2, c3, c4, c5⟩ := HW0.out _ hB7
    have hxw := HXA.out _ hB7
    have hxm : wg.cell? ⟨w4.heap.size, 0, none⟩ = some (.slice b2 xs.length cap2) := (hb7b.cell (p := ⟨w4.heap.size, 0, none⟩) hl4).trans hxb
    have hcc : (c != c) = false := by simp
    have HB7 := hide hB7
    have hlg4 : w4.heap.size < wg.heap.size := by have := hb7b.size; omega
    have hlgw : w.heap.size < wg.heap.size := by have := hB7.size; omega
    have HUG := hide (At.kept kept_seg HU3.out hb7b)
    have HVG := hide (At.kept kept_seg HVA.out hB7)
    clear hb6 hB6 hb7 hB7 hb7b
    go_wp2_with (first | (go_at_call 8; refine (HEQ.out _).mono ?_; rintro e w8 ⟨rfl, hb8⟩))
    have hx8 : w8.cell? ⟨w.heap.size, 0, none⟩ = some v := (hb8.cell (p := ⟨w.heap.size, 0, none⟩) hlgw).trans hxw
    have hy8 : w8.cell? ⟨w4.heap.size, 0, none⟩ = some (.slice b2 xs.length cap2) := (hb8.cell (p := ⟨w4.heap.size, 0, none⟩) hlg4).trans hxm
    have hs8 : w.heap.size < w8.heap.size := by have := hb8.size; omega
    have hs8' : w4.heap.size < w8.heap.size := by have := hb8.size; omega
    have HW8 := hide (bjoin hb8 (bjoin HB7.out HWA.out))
    have hv9 := At.kept kept_seg HVG.out hb8
    have hu9 := At.kept kept_seg HUG.out hb8
    clear hb8
    go_region_held3 (fun w' => w'.cell? ⟨w.heap.size, 0, none⟩ = some v ∧ w'.cell? ⟨w4.heap.size, 0, none⟩ = some (.slice b2 xs.length cap2) ∧ Below w8.heap.size w8 w')
      (first | exact hold2 (Below.refl _ _).drew hs8 hs8' hx8 hy8 | exact hold2 hb10 hs8 hs8' hx8 hy8 | exact hold2 hb11 hs8 hs8' hx8 hy8)
      (first
        | (go_at_call 6; refine (toMsg_any xs v _ hfit.out (by exact At.kept kept_seg hv9 (by first | exact (Below.refl _ _).drew | assumption))).mono ?_; rintro e w9 ⟨u3, rfl, hu5, hb9⟩; have hb10 : Below w8.heap.size w8 w9 := bjoin hb9 (by first | exact (Below.refl _ _).drew | assumption))
        | (go_at_call 9; refine (eqMsg_any xs _ _ _ (by exact At.kept kept_seg hu9 hb10) hu5).mono ?_; rintro e w10 ⟨rfl, hb88⟩; have hb11 : Below w8.heap.size w8 w10 := bjoin hb88 hb10))
    go_wp2_with fail
    go_ret
    exact ⟨rfl, bjoin hb11 HW8.out⟩
  · have hrest : rest 1048576 (msgSz xs) = -1 := rest_no hsz
    have HRest := hide hrest
    clear hrest
    go_enter Tryz.func3, Tryz.ntmps3
    go_wp2_with fail
    refine (szMsg_any xs v 1048576 _ (by omega) (by omega) hv1).mono ?_
    rintro e w1 ⟨rfl, hb1⟩
    rw [HRest.out]
    go_wp2_with fail
    go_ret
    exact ⟨rfl, bjoin hb1 hb⟩
theorem lawReadRequest (xs : List Seg) (v : Value) (w : World) {lo : Nat} (hv : SegsAt lo w v xs) (hE : Env w) (hT : ErrT w) :
    Calls Tryz.prog 3 #[.agg #[v]] w fun e w' => e = .returned (.bool true) ∧ Below w.heap.size w w' :=
  lawReadReq (fun xs v w lo hsz h => by rw [← readM_same]; exact readSpec_any xs v w (gotS_of h hsz) hsz) (fun xs v w lo hsz h h1 h2 => readRequest_any xs v w (got_of h hsz) hsz h1 h2) xs v w hv hE hT
end Go.Proofs.YtebdfmijlnkcbaaGreatDoor.Msg
