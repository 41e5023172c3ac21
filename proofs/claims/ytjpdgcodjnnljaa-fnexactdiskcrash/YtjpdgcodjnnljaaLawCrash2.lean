import Derived.Test.YtjpdgcodjnnljaaLawCrash
namespace Go.Proofs.Ytjpdgcodjnnljaa.Msg
open Go.ChangeShapes Go.WideShapes Go.ChangeAt Go.RowKit
set_option linter.unusedVariables false
set_option linter.unusedSimpArgs false

theorem form_ints {lo : Nat} {w : World} {v : Value} {xs : List Int} (h : IntsAt lo w v xs) : ∃ a c, v = .slice a xs.length c := by
  obtain ⟨a, c, e, _⟩ := ints_form h
  exact ⟨a, c, e⟩
set_option maxRecDepth 100000 in
set_option maxHeartbeats 4000000 in
theorem lawCrash (S N : ByteArray) (ps : List Int) (v : Value) (w : World) {lo : Nat} (hv : IntsAt lo w v ps) (g1 : S.size ≤ 9223372036854775807) (g2 : N.size ≤ 9223372036854775807) :
    Calls Try.prog 11 #[diskV S N, v] w fun e w' => e = .returned (.bool true) ∧ Below w.heap.size w w' := by
  obtain ⟨X0, hX0⟩ : ∃ X0, w.alloc (Obj.cells #[.string S, .string N] 70) = X0 := ⟨_, rfl⟩
  have s0 : X0.heap.size = w.heap.size + 1 := by rw [← hX0]; simp
  have b0 : Below w.heap.size w X0 := by rw [← hX0]; exact (Below.refl _ _).alloc (Nat.le_refl _) _
  have HB0 := hide b0
  have KEEP : Hid (∀ X, Below X0.heap.size X0 X → X.cell? ⟨w.heap.size, 0, none⟩ = some (.string S) ∧ X.cell? ⟨w.heap.size, 1, none⟩ = some (.string N)) := fun X h => by
    refine ⟨?_, ?_⟩ <;> exact (h.cell (by rw [s0]; simp)).trans (by rw [← hX0]; simp)
  have HV := hide (At.kept kept_int hv b0)
  have hl := hv.1
  have HSZ := hide (fun W => szDisk_any S N W g1 g2)
  have HTO := hide (fun W => toDisk_any S N W)
  unfold diskV at HSZ HTO ⊢
  obtain ⟨p0, p1⟩ := KEEP.out X0 (Below.refl _ _)
  obtain ⟨av, cv, hform⟩ := form_ints hv
  subst hform
  clear hv b0
  by_cases hlong : (1048576 : Int) < (ps.length : Int)
  · go_enter Try.func11, Try.ntmps11
    go_wp2_with fail
    go_ret
    exact ⟨rfl, HB0.out⟩
  by_cases hsz : ((S.size + N.size : Nat) : Int) ≤ 1048576
  · have hrest : rest 1048576 (S.size + N.size) = 1048576 - ((S.size + N.size : Nat) : Int) := rest_yes hsz
    rw [hrest] at HSZ
    have hnn : ¬ (1048576 : Int) - ((S.size + N.size : Nat) : Int) < 0 := by omega
    obtain ⟨z, hz⟩ : ∃ z : Int, 1048576 - ((S.size + N.size : Nat) : Int) = z := ⟨_, rfl⟩
    rw [hz] at HSZ hnn
    have HSP := hide (fun (u : Value) (W : World) (lo : Nat) (h : IntsAt lo W u ps) => crashS_any S N ps u W h (by omega) (by omega))
    have HIM := hide (fun (u : Value) (W : World) (lo : Nat) (h : IntsAt lo W u ps) => crashI_any S N ps u W h (by omega) (by omega))
    have HTI := hide (fun (u : Value) (W : World) (lo : Nat) (h : IntsAt lo W u ps) => toInts_any ps u W (by omega) h)
    obtain ⟨C, hC⟩ : ∃ C, crash S N ps = C := ⟨_, rfl⟩
    rw [hC] at HSP HIM
    have HEQ := hide (fun W => eqDisk_any C C W)
    unfold diskV at HEQ
    clear hz hrest hsz hC g1 g2
    go_enter Try.func11, Try.ntmps11
    go_wp2_with fail
    refine (HSZ.out _).mono ?_
    rintro e W1 ⟨rfl, hb1⟩
    obtain ⟨q0, q1⟩ := KEEP.out W1 hb1
    clear p0 p1
    go_wp2_with fail
    refine (HTO.out _).mono ?_
    rintro e W2 ⟨rfl, hb2⟩
    have b2 := bj hb2 hb1
    have i2 := At.kept kept_int HV.out b2
    go_wp2_with fail
    refine (HTI.out _ _ _ i2).mono ?_
    rintro e W3 ⟨u3, rfl, i3, hb3⟩
    obtain ⟨a3, c3, rfl⟩ := form_ints i3
    have b3 := bj hb3 b2
    go_wp2_with fail
    refine (HSP.out _ _ _ i3).mono ?_
    rintro e W4 ⟨rfl, hb4⟩
    have b4 := bj hb4 b3
    obtain ⟨W5, hW5⟩ : ∃ W5, W4.alloc (Obj.cells #[.string C, .string C] 32) = W5 := ⟨_, rfl⟩
    have b45 : Below W4.heap.size W4 W5 := by rw [← hW5]; exact (Below.refl _ _).alloc (Nat.le_refl _) _
    have b5 := bj b45 b4
    have x0 : W5.cell? ⟨W4.heap.size, 0, none⟩ = some (.string C) := by rw [← hW5]; simp
    have x1 : W5.cell? ⟨W4.heap.size, 1, none⟩ = some (.string C) := by rw [← hW5]; simp
    have s5 : W4.heap.size < W5.heap.size := by rw [← hW5]; simp
    have i5 := At.kept kept_int HV.out b5
    have KX : Hid (∀ X, Below W5.heap.size W5 X → X.cell? ⟨W4.heap.size, 0, none⟩ = some (.string C) ∧ X.cell? ⟨W4.heap.size, 1, none⟩ = some (.string C)) := fun X h =>
      ⟨(h.cell (p := ⟨W4.heap.size, 0, none⟩) s5).trans x0, (h.cell (p := ⟨W4.heap.size, 1, none⟩) s5).trans x1⟩
    have HI5 := hide i5
    have HB5 := hide b5
    clear q0 q1 hb1 hb2 hb3 hb4 b2 b3 b4 b45 i2 i3 i5 x0 x1 hnn
    go_wp2_with fail
    refine (HTI.out _ _ _ HI5.out).mono ?_
    rintro e W6 ⟨u6, rfl, i6, hb6⟩
    obtain ⟨a6, c6, rfl⟩ := form_ints i6
    have b6 := bj hb6 b5
    obtain ⟨q0, q1⟩ := KEEP.out W6 b6
    clear b5
    go_wp2_with fail
    refine (HTO.out _).mono ?_
    rintro e W7 ⟨rfl, hb7⟩
    have i7 := At.kept kept_int i6 hb7
    have b57 := bj hb7 hb6
    go_wp2_with fail
    refine (HIM.out _ _ _ i7).mono ?_
    rintro e W8 ⟨rfl, hb8⟩
    have i8 := At.kept kept_int i7 hb8
    have b58 := bj hb8 b57
    obtain ⟨W9, hW9⟩ : ∃ W9, W8.alloc (Obj.cells #[.string C, .string C] 32) = W9 := ⟨_, rfl⟩
    have b89 : Below W8.heap.size W8 W9 := by rw [← hW9]; exact (Below.refl _ _).alloc (Nat.le_refl _) _
    have b59 := bj b89 b58
    have y0 : W9.cell? ⟨W8.heap.size, 0, none⟩ = some (.string C) := by rw [← hW9]; simp
    have y1 : W9.cell? ⟨W8.heap.size, 1, none⟩ = some (.string C) := by rw [← hW9]; simp
    obtain ⟨x0, x1⟩ := KX.out W9 b59
    have HI9 := hide (At.kept kept_int i8 b89)
    have HB9 := hide (bj b59 HB5.out)
    clear q0 q1 b6 hb6 hb7 hb8 i6 i7 i8 b57 b58 b89 b59
    go_wp2_with fail
    refine (HEQ.out _).mono ?_
    rintro e W10 ⟨rfl, hb10⟩
    have i10 := At.kept kept_int HI9.out hb10
    have b10 := bj hb10 HB9.out
    have j10 := At.kept kept_int HV.out b10
    clear x0 x1 y0 y1
    go_wp2_with fail
    refine (HTI.out _ _ _ j10).mono ?_
    rintro e W11 ⟨u11, rfl, i11, hb11⟩
    have k11 := At.kept kept_int i10 hb11
    have b11 := bj hb11 b10
    obtain ⟨a11, c11, rfl⟩ := form_ints i11
    go_wp2_with fail
    refine (eqInts_any ps _ _ _ k11 i11).mono ?_
    rintro e W12 ⟨rfl, hb12⟩
    have HB12 := hide (bj (bj hb12 b11) HB0.out)
    clear hb10 hb11 hb12 i10 i11 j10 k11 b10 b11
    go_wp2_with fail
    go_ret
    exact ⟨rfl, HB12.out⟩
  · have hrest : rest 1048576 (S.size + N.size) = -1 := rest_no hsz
    rw [hrest] at HSZ
    clear hrest hsz g1 g2
    go_enter Try.func11, Try.ntmps11
    go_wp2_with fail
    refine (HSZ.out _).mono ?_
    rintro e W1 ⟨rfl, hb1⟩
    have HW1 := hide (bj hb1 HB0.out)
    clear hb1
    go_wp2_with fail
    go_ret
    exact ⟨rfl, HW1.out⟩
end Go.Proofs.Ytjpdgcodjnnljaa.Msg
