import Derived.Test.YtjpdgcodjnnljaaMsgLaw
namespace Go.Proofs.Ytjpdgcodjnnljaa.Msg
open Go.ChangeShapes Go.WideShapes Go.ChangeAt Go.RowKit
set_option linter.unusedVariables false
set_option linter.unusedSimpArgs false

set_option maxHeartbeats 2000000 in
/-- the law of Get, out of the contract of the program's Get -/
theorem lawGet (himpl : ∀ (xs : List Seg) (name : ByteArray) (field comp : Int) (v : Value) (w : World) (lo : Nat), msgSz xs ≤ 1048576 → name.size ≤ 1048576 → (-9223372036854775808 ≤ field ∧ field ≤ 9223372036854775807) → (-9223372036854775808 ≤ comp ∧ comp ≤ 9223372036854775807) → SegsAt lo w v xs →
      Calls Try.prog 34 #[.agg #[v], .string name, .int .i64 field, .int .i64 comp] w fun e w' => e = .returned (.string (getFrom xs name field comp)) ∧ Below w.heap.size w w')
    (xs : List Seg) (name : ByteArray) (field comp : Int) (v : Value) (w : World) (hname : name.size ≤ 9223372036854775807) (hf : -9223372036854775808 ≤ field ∧ field ≤ 9223372036854775807) (hc : -9223372036854775808 ≤ comp ∧ comp ≤ 9223372036854775807) {lo : Nat} (hv : SegsAt lo w v xs) :
    Calls Try.prog 7 #[.agg #[v], .string name, .int .i64 field, .int .i64 comp] w fun e w' => e = .returned (.bool true) ∧ Below w.heap.size w w' := by
  have HI := hide himpl
  have HB := hide (And.intro hf hc)
  clear himpl hf hc
  have hb := (Below.refl w.heap.size w).alloc (Nat.le_refl _) (Obj.cells #[v] 50)
  have hv1 := At.kept kept_seg hv hb
  have hbox : (w.alloc (Obj.cells #[v] 50)).cell? ⟨w.heap.size, 0, none⟩ = some v := by simp
  have HBX := hide hbox
  clear hbox
  by_cases hlong : (1048576 : Int) < (name.size : Int)
  · go_enter Try.func7, Try.ntmps7
    go_wp2_with fail
    go_ret
    exact ⟨rfl, hb⟩
  have hnm : name.size ≤ 1048576 := by omega
  by_cases hsz : ((msgSz xs : Nat) : Int) ≤ 1048576
  · have hs' : msgSz xs ≤ 1048576 := by omega
    have hfit := hide (fits_of_sz hs')
    have hrest : rest 1048576 (msgSz xs) = 1048576 - (msgSz xs : Int) := rest_yes hsz
    have HRest := hide hrest
    clear hrest
    go_enter Try.func7, Try.ntmps7
    go_wp2_with fail
    refine (szMsg_any xs v 1048576 _ (by omega) (by omega) hv1).mono ?_
    rintro e w1 ⟨rfl, hb1⟩
    rw [HRest.out]
    have hw1 := bjoin hb1 hb
    have hx1 : w1.cell? ⟨w.heap.size, 0, none⟩ = some v := by rw [hb1.cell (p := ⟨w.heap.size, 0, none⟩) (by simp)]; exact HBX.out
    have hs1 : w.heap.size < w1.heap.size := by have := hb1.size; simp at this; omega
    have hv2 := At.kept kept_seg hv1 hb1
    have hnn : ¬ (1048576 : Int) - (msgSz xs : Int) < 0 := by omega
    clear hv1 hb1
    go_wp2_with fail
    refine (toMsg_any xs v _ hfit.out hv2).mono ?_
    rintro e w2 ⟨u1, rfl, hu1, hb2⟩
    have hx2 : w2.cell? ⟨w.heap.size, 0, none⟩ = some v := by rw [hb2.cell (p := ⟨w.heap.size, 0, none⟩) hs1]; exact hx1
    have hs2 : w.heap.size < w2.heap.size := by have := hb2.size; omega
    have hw2 := bjoin hb2 hw1
    have hv3 := At.kept kept_seg hv2 hb2
    clear hx1 hv2 hb2
    go_wp2_with fail
    refine (getSpec_any xs name field comp u1 _ (by omega) hfit.out.1 HB.out.1.1 HB.out.1.2 HB.out.2.1 HB.out.2.2 hu1 (fun i h => (hfit.out.2 i h).1)).mono ?_
    rintro e w3 ⟨rfl, hb3⟩
    have hx3 : w3.cell? ⟨w.heap.size, 0, none⟩ = some v := by rw [hb3.cell (p := ⟨w.heap.size, 0, none⟩) hs2]; exact hx2
    have hs3 : w.heap.size < w3.heap.size := by have := hb3.size; omega
    have hw3 := bjoin hb3 hw2
    have hv4 := At.kept kept_seg hv3 hb3
    clear hx2 hv3 hb3 hu1
    go_wp2_with fail
    refine (toMsg_any xs v _ hfit.out hv4).mono ?_
    rintro e w4 ⟨u2, rfl, hu2, hb4⟩
    have hx4 : w4.cell? ⟨w.heap.size, 0, none⟩ = some v := by rw [hb4.cell (p := ⟨w.heap.size, 0, none⟩) hs3]; exact hx3
    have hs4 : w.heap.size < w4.heap.size := by have := hb4.size; omega
    have hw4 := bjoin hb4 hw3
    have hv5 := At.kept kept_seg hv4 hb4
    clear hx3 hv4 hb4
    obtain ⟨a2, cap2, rfl, _⟩ := hu2.form
    have hb5 := (Below.refl w4.heap.size w4).alloc (Nat.le_refl _) (Obj.cells #[.slice a2 xs.length cap2] 55)
    have hu3 := At.kept kept_seg hu2 hb5
    have hv6 := At.kept kept_seg hv5 hb5
    have hw5 := bjoin hb5 hw4
    go_wp2_with fail
    refine (HI.out xs name field comp _ _ _ hs' hnm HB.out.1 HB.out.2 hu3).mono ?_
    rintro e w6 ⟨rfl, hb6⟩
    have hx6 : w6.cell? ⟨w.heap.size, 0, none⟩ = some v := by
      rw [hb6.cell (p := ⟨w.heap.size, 0, none⟩) (by simp; omega), hb5.cell (p := ⟨w.heap.size, 0, none⟩) hs4]; exact hx4
    have hy6 : w6.cell? ⟨w4.heap.size, 0, none⟩ = some (.slice a2 xs.length cap2) := by
      rw [hb6.cell (p := ⟨w4.heap.size, 0, none⟩) (by simp)]; simp
    have hs6 : w.heap.size < w6.heap.size := by have := hb6.size; simp at this; omega
    have hs6' : w4.heap.size < w6.heap.size := by have := hb6.size; simp at this; omega
    have hw6 := bjoin hb6 hw5
    have hv7 := At.kept kept_seg hv6 hb6
    have hu4 := At.kept kept_seg hu3 hb6
    clear hx4 hv5 hv6 hu2 hu3 hb5 hb6
    go_wp2_with fail
    go_region_held3 (fun w' => w'.cell? ⟨w.heap.size, 0, none⟩ = some v ∧ w'.cell? ⟨w4.heap.size, 0, none⟩ = some (.slice a2 xs.length cap2) ∧ Below w6.heap.size w6 w')
      (first | exact hold2 (Below.refl _ _).drew hs6 hs6' hx6 hy6 | exact hold2 hb8 hs6 hs6' hx6 hy6 | exact hold2 hb9 hs6 hs6' hx6 hy6)
      (first
        | (go_at_call 30; refine (toMsg_any xs v _ hfit.out (by exact At.kept kept_seg hv7 (by first | exact (Below.refl _ _).drew | assumption))).mono ?_; rintro e w7 ⟨u3, rfl, hu5, hb7⟩; have hb8 : Below w6.heap.size w6 w7 := bjoin hb7 (by first | exact (Below.refl _ _).drew | assumption))
        | (go_at_call 32; refine (eqMsg_any xs _ _ _ (by exact At.kept kept_seg hu4 hb8) hu5).mono ?_; rintro e w8 ⟨rfl, hb88⟩; have hb9 : Below w6.heap.size w6 w8 := bjoin hb88 hb8))
    go_wp2_with fail
    go_ret
    exact ⟨rfl, bjoin hb9 hw6⟩
  · have hrest : rest 1048576 (msgSz xs) = -1 := rest_no hsz
    have HRest := hide hrest
    clear hrest
    go_enter Try.func7, Try.ntmps7
    go_wp2_with fail
    refine (szMsg_any xs v 1048576 _ (by omega) (by omega) hv1).mono ?_
    rintro e w1 ⟨rfl, hb1⟩
    rw [HRest.out]
    go_wp2_with fail
    go_ret
    exact ⟨rfl, bjoin hb1 hb⟩
end Go.Proofs.Ytjpdgcodjnnljaa.Msg
