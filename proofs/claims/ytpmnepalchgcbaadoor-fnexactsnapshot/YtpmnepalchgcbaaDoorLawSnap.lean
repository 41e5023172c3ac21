import Derived.Test.YtpmnepalchgcbaaDoorSnapI
import Derived.Test.YtpmnepalchgcbaaDoorStrsOwithTblToOwithTblEq
import Derived.Test.YtpmnepalchgcbaaDoorHeldTblwithTblChg
namespace Go.Proofs.YtpmnepalchgcbaaDoor.Msg
open Go.ChangeShapes Go.WideShapes Go.ChangeAt Go.RowKit
set_option linter.unusedVariables false
set_option linter.unusedSimpArgs false

/-! the law of Snapshot -/
set_option maxRecDepth 100000 in
set_option maxHeartbeats 8000000 in
theorem lawSnap (xs : List Sess) (v : Value) (w : World) {lo : Nat} (hv : SesssAt lo w v xs) (hT : TabW w) :
    Calls Tryd.prog 3 #[.agg #[v]] w fun en w' => en = .returned (.bool true) ∧ Below w.heap.size w w' := by
  obtain ⟨a1, c1, rfl, _⟩ := At.form hv
  obtain ⟨R, hR⟩ : ∃ R, snapB xs = R := ⟨_, rfl⟩
  have HSP := hide (fun (b : Nat) (W : World) (h : SesssAt 0 W (.slice (some ⟨b, 0, none⟩) xs.length xs.length) xs) => snapS_any xs _ W h)
  have HIM := hide (fun (b : Nat) (W : World) (h : SesssAt 0 W (.slice (some ⟨b, 0, none⟩) xs.length xs.length) xs) (hT : TabW W) => snapI_any xs _ W h hT)
  rw [hR] at HSP HIM
  have HSZ := hide (fun (W : World) (h : SesssAt lo W (.slice a1 xs.length c1) xs) => szTbl_any xs _ 1048576 W (by omega) (by omega) h)
  have HEQ := hide (fun (ys : List Sess) (u1 u2 : Value) (W : World) (l1 l2 : Nat) (h1 : SesssAt l1 W u1 ys) (h2 : SesssAt l2 W u2 ys) => eqTbl_any ys u1 u2 W h1 h2)
  have HTO0 := hide (fun (W : World) (hn : tblSz xs ≤ 1048576) (h : SesssAt lo W (.slice a1 xs.length c1) xs) => toTblO xs _ W (tbl_fits hn).1 (tbl_fits hn).2 h)
  obtain ⟨w1, hw1⟩ : ∃ w1, w.alloc (Obj.cells #[.slice a1 xs.length c1] 24) = w1 := ⟨_, rfl⟩
  have HB1 : Hid (Below w.heap.size w w1) := by rw [← hw1]; exact (Below.refl w.heap.size w).alloc (Nat.le_refl _) _
  have HXT : Hid (Box w1 w.heap.size 24 #[.slice a1 xs.length c1]) := by rw [← hw1]; exact Box.new w _ _
  have HPW0 : Hid (∀ X, Below w1.heap.size w1 X → SesssAt lo X (.slice a1 xs.length c1) xs) := fun X hX => At.kept kept_sess hv (bjoin hX HB1.out)
  have HTW : Hid (∀ X, Below w1.heap.size w1 X → TabW X) := fun X hX => hT.kept (bjoin hX HB1.out)
  obtain ⟨n1, hn1⟩ : ∃ n, xs.length = n := ⟨_, rfl⟩
  rw [hn1] at HSP HIM HSZ HXT HPW0 HTO0 hw1 ⊢
  have HW1 := hide hw1
  clear hv hn1 hw1 hR hT
  have KS : Hid (∀ X, Below w1.heap.size w1 X → X.cell? ⟨w.heap.size, 0, none⟩ = some (.slice a1 n1 c1)) := fun X hX => (HXT.out.below hX).cell 0 (by simp)
  have p0 := KS.out w1 (Below.refl _ _)
  obtain ⟨T, hTt⟩ : ∃ n, tblSz xs = n := ⟨_, rfl⟩
  rw [hTt] at HSZ HTO0
  clear hTt
  by_cases hsz : ¬ ((T : Nat) : Int) ≤ 1048576
  · rw [rest_no hsz] at HSZ
    clear hsz
    go_enter Tryd.func3, Tryd.ntmps3
    go_wp2_with fail
    (try rw [HW1.out])
    refine (HSZ.out _ (HPW0.out _ (Below.refl _ _))).mono ?_
    rintro en W1 ⟨rfl, hb1⟩
    have HBW1 := hide (bjoin hb1 HB1.out)
    clear hb1
    go_wp2_with fail
    go_ret
    exact ⟨rfl, HBW1.out⟩
  have hsz := Decidable.not_not.1 hsz
  rw [rest_yes hsz] at HSZ
  obtain ⟨left, hleft⟩ : ∃ left : Int, 1048576 - (T : Int) = left := ⟨_, rfl⟩
  rw [hleft] at HSZ
  have hl0 : ¬ left < 0 := by omega
  have HTO := hide (fun (W : World) (h : SesssAt lo W (.slice a1 n1 c1) xs) => HTO0.out W (by omega) h)
  clear hsz hleft HTO0
  go_enter Tryd.func3, Tryd.ntmps3
  go_wp2_with fail
  (try rw [HW1.out])
  refine (HSZ.out _ (HPW0.out _ (Below.refl _ _))).mono ?_
  rintro en W1 ⟨rfl, hb1⟩
  clear p0
  have p0 := KS.out W1 hb1
  have HBW1 := hide hb1
  clear hb1
  go_wp2_with fail
  refine (HTO.out _ (HPW0.out _ HBW1.out)).mono ?_
  rintro en W2 ⟨B2, rfl, bs2, hO2, _, _, hb2⟩
  have HP2 : Hid (SesssAt 0 W2 (.slice (some ⟨B2, 0, none⟩) n1 n1) xs) := OAt.toAt toAt_sess hO2 (fun _ _ => Nat.zero_le _)
  have HBW2 := hide (bjoin hb2 HBW1.out)
  clear hO2 hb2 p0
  go_wp2_with fail
  refine (HSP.out _ _ HP2.out).mono ?_
  rintro en W3 ⟨rfl, hb3⟩
  have HBW3 := hide (bjoin hb3 HBW2.out)
  have p0 := KS.out W3 HBW3.out
  clear hb3
  go_wp2_with fail
  refine (HTO.out _ (HPW0.out _ HBW3.out)).mono ?_
  rintro en W4 ⟨B4, rfl, bs4, hO4, _, _, hb4⟩
  obtain ⟨X4, hX4⟩ : ∃ X, W4.alloc (Obj.cells #[.slice (some ⟨B4, 0, none⟩) n1 n1] 29) = X := ⟨_, rfl⟩
  have hb4a : Below W4.heap.size W4 X4 := by rw [← hX4]; exact (Below.refl _ _).alloc (Nat.le_refl _) _
  have HBOX4 : Hid (Box X4 W4.heap.size 29 #[.slice (some ⟨B4, 0, none⟩) n1 n1]) := by rw [← hX4]; exact Box.new _ _ _
  have HP4 : Hid (∀ X, Below X4.heap.size X4 X → SesssAt 0 X (.slice (some ⟨B4, 0, none⟩) n1 n1) xs) := fun X hX => At.kept kept_sess (OAt.toAt toAt_sess hO4 (lo := 0) (fun _ _ => Nat.zero_le _)) (bjoin hX hb4a)
  have HBW4 := hide (bjoin (bjoin hb4a hb4) HBW3.out)
  have KY : Hid (∀ X, Below X4.heap.size X4 X → X.cell? ⟨W4.heap.size, 0, none⟩ = some (.slice (some ⟨B4, 0, none⟩) n1 n1) ∧ X.cell? ⟨w.heap.size, 0, none⟩ = some (.slice a1 n1 c1)) := fun X hX => ⟨(HBOX4.out.below hX).cell 0 (by simp), KS.out X (bjoin hX HBW4.out)⟩
  have q0 := (KY.out X4 (Below.refl _ _)).1
  clear hO4 hb4 hb4a p0
  go_wp2_with fail
  refine (HIM.out _ _ (HP4.out _ (Below.refl _ _)) (HTW.out _ HBW4.out)).mono ?_
  rintro en W5 ⟨rfl, hb5⟩
  have HBX5 := hide hb5
  have hF0 : Below X4.heap.size X4 W5.drew := hb5.drew
  obtain ⟨D5, hwd5⟩ : ∃ D, W5.drew = D := ⟨_, rfl⟩
  have hF : Below X4.heap.size X4 D5 := by rw [← hwd5]; exact hF0
  clear hb5 q0
  go_wp2_with fail
  go_region_held3 (fun X : World => X.cell? ⟨W4.heap.size, 0, none⟩ = some (.slice (some ⟨B4, 0, none⟩) n1 n1) ∧ X.cell? ⟨w.heap.size, 0, none⟩ = some (.slice a1 n1 c1))
    (first | with_reducible exact KY.out _ hF0 | with_reducible exact KY.out _ hF | with_reducible exact KY.out _ hB6 | with_reducible exact KY.out _ hB7)
    (first
      | (go_at_call 6; refine (HTO.out _ (HPW0.out _ (bjoin hF HBW4.out))).mono ?_; rintro e W6 ⟨B6, rfl, bs6, hO6, _, _, hbr6⟩; have hB6 : Below X4.heap.size X4 W6 := bjoin hbr6 hF; have hp6 : SesssAt 0 W6 (.slice (some ⟨B6, 0, none⟩) n1 n1) xs := OAt.toAt toAt_sess hO6 (fun _ _ => Nat.zero_le _))
      | (go_at_call 8; refine (HEQ.out xs _ _ _ _ _ (HP4.out _ hB6) hp6).mono ?_; rintro e W7 ⟨rfl, hbr7⟩; have hB7 : Below X4.heap.size X4 W7 := bjoin hbr7 hB6))
  have HEND := hide (bjoin (bjoin hB7 HBW4.out) HB1.out)
  clear hB7 hbr7 hbr6 hB6 hF hF0 hwd5 hO6 hp6
  go_wp2_with fail
  go_ret
  exact ⟨rfl, HEND.out⟩
end Go.Proofs.YtpmnepalchgcbaaDoor.Msg
