import Derived.Test.YtpmnepalchgcbaaGreatDoorHeldAwithTblWowithTblAt
import Derived.Test.YtpmnepalchgcbaaGreatDoorRcvI
namespace Go.Proofs.YtpmnepalchgcbaaGreatDoor.Msg
open Go.ChangeShapes Go.WideShapes Go.ChangeAt Go.RowKit
set_option linter.unusedVariables false
set_option linter.unusedSimpArgs false

/-! the law of Recover -/
set_option maxRecDepth 100000 in
set_option maxHeartbeats 8000000 in
theorem lawRcv (s : ByteArray) (w : World) (hs : s.size ≤ 9223372036854775807) (hE : Env w) (hM : Mx w) :
    Calls Tryz.prog 3 #[.string s] w fun en w' => en = .returned (.bool true) ∧ Below w.heap.size w w' := by
  by_cases hI : s.size ≤ 1048576
  · have hI0 : ¬ (1048576 : Int) < (s.size : Int) := by omega
    obtain ⟨R1, hR⟩ : ∃ R, recovP s = R := ⟨_, rfl⟩
    have HRL : Hid (R1.length ≤ 17) := by show _ ≤ _; rw [← hR]; have := ((tblB_iff _).1 (recovP_tbl s)).1; omega
    have HSP := hide (fun W => recovS_any s W hI)
    have HIM := hide (fun W (h : Env W) (h2 : Mx W) => recovI_any s W hI h h2)
    unfold RcPost at HSP HIM
    rw [hR] at HSP HIM
    clear hR hI
    have HEQ := hide (fun (ys : List Sess) (u1 u2 : Value) (W : World) (l1 l2 : Nat) (h1 : SesssAt l1 W u1 ys) (h2 : SesssAt l2 W u2 ys) => eqTbl_any ys u1 u2 W h1 h2)
    have HMK0 := hide (fun (u : Value) (bs : List Nat) (W : World) (hn : bs.Nodup) (hc : cTbl R1 ≤ 1700102) (h : OSesss W u R1 bs) => markTbl_any R1 u bs 1 W (by omega) (by omega) hn h)
    have HHD0 := hide (fun (u : Value) (lo : Nat) (W : World) (hc : cTbl R1 ≤ 1700102) (h : SesssAt lo W u (mkTbl 1 R1)) => heldTbl_any R1 u 1 W (by omega) (by omega) h)
    obtain ⟨K2, hK2⟩ : ∃ n, 1 + cTbl R1 = n := ⟨_, rfl⟩
    rw [hK2] at HMK0 HHD0
    have hK2p : ¬ (K2 : Int) < 0 := by omega
    clear hK2
    obtain ⟨m1, hm1⟩ : ∃ q, R1.length = q := ⟨_, rfl⟩
    have HM1L := hide hm1
    have HENV : Hid (∀ X, Below w.heap.size w X → Env X ∧ Mx X) := fun X hX => ⟨hE.kept hX, hM.kept hX⟩
    clear hE hM hm1
    go_enter Tryz.func3, Tryz.ntmps3
    go_wp2_with fail
    refine (HSP.out _).mono ?_
    rintro en W3 ⟨t3, rfl, ⟨qs3, hte3, hqs3⟩, hb3⟩
    obtain ⟨a8, c8, e8⟩ : ∃ a c, t3 = .slice a m1 c := by
      obtain ⟨a, c, e, _⟩ := hte3.form
      exact ⟨a, c, by rw [e, ← HM1L.out, ← hqs3, List.length_map]⟩
    subst e8
    obtain ⟨X8, hX8⟩ : ∃ X, W3.alloc (Obj.cells #[.slice a8 m1 c8] 24) = X := ⟨_, rfl⟩
    have hsh : AHeld w.heap.size R1 w W3.heap.size (.slice a8 m1 c8) X8 := by rw [← hX8]; exact AHeld.late ⟨qs3, hte3, hqs3⟩ hb3 (Nat.le_refl _)
    have K8 : Hid (∀ X, Below X8.heap.size X8 X → X.cell? ⟨W3.heap.size, 0, none⟩ = some (.slice a8 m1 c8) ∧ SesssAt 0 X (.slice a8 m1 c8) R1) := fun X hX => ⟨(hsh.below hX).cell, (hsh.below hX).sesss HRL.out⟩
    have HBL8 := hide hsh.2.2.1
    have HX8 := hide hX8
    clear hsh hte3 hqs3 hb3 hX8
    go_wp2_with fail
    (try rw [HX8.out])
    refine (HIM.out _ (HENV.out _ HBL8.out).1 (HENV.out _ HBL8.out).2).mono ?_
    rintro en W11 ⟨tg, rfl, ⟨qsg, hteg, hqsg⟩, hb11⟩
    obtain ⟨ag, cg, eg⟩ : ∃ a c, tg = .slice a m1 c := by
      obtain ⟨a, c, e, _⟩ := hteg.form
      exact ⟨a, c, by rw [e, ← HM1L.out, ← hqsg, List.length_map]⟩
    subst eg
    obtain ⟨X11, hX11⟩ : ∃ X11, W11.alloc (Obj.cells #[.slice ag m1 cg] 24) = X11 := ⟨_, rfl⟩
    have HG11 : Hid (AHeld X8.heap.size R1 X8 W11.heap.size (.slice ag m1 cg) X11) := by rw [← hX11]; exact AHeld.late ⟨qsg, hteg, hqsg⟩ hb11 (Nat.le_refl _)
    have HB811 := hide HG11.out.2.2.1
    have hgc := HG11.out.cell
    have hrc := (K8.out X11 HB811.out).1
    have HX11 := hide hX11
    clear hteg hqsg hb11 hX11
    go_wp2_with (rw [HX11.out])
    (try rw [HX11.out])
    refine (HEQ.out R1 _ _ _ _ _ (HG11.out.sesss HRL.out) (K8.out X11 HB811.out).2).mono ?_
    rintro en M3 ⟨rfl, hb12⟩
    have HG3 := hide (HG11.out.below hb12)
    have HBM3 := hide HG3.out.2.2.1
    have HOW : Hid (∃ bs, OSesss M3 (.slice ag m1 cg) R1 bs ∧ bs.Nodup ∧ (∀ b ∈ bs, X8.heap.size ≤ b ∧ b ≠ W11.heap.size) ∧ cTbl R1 ≤ 1700102) := HG3.out.owned HRL.out
    clear hb12 hgc hrc
    obtain ⟨bg, hOg, hndg, hgeg, hcb⟩ := HOW.out
    have HCB := hide hcb
    have HOG := hide (And.intro hndg hOg)
    have HGE := hide hgeg
    have hgc := HG3.out.cell
    clear hOg hndg hgeg hcb HOW
    go_wp2_with fail
    refine (HMK0.out _ _ _ HOG.out.1 HCB.out HOG.out.2).mono ?_
    rintro en M5 ⟨rfl, hO5, hR5⟩
    have HR5 : Hid (SesssAt 0 M5 (.slice ag m1 cg) (mkTbl 1 R1)) := OAt.toAt toAt_sess hR5 (fun _ _ => Nat.zero_le _)
    have HBOX5 := hide (HG3.out.1.only hO5 fun h => (HGE.out _ h).2 rfl)
    have HBM5 : Hid (Below X8.heap.size X8 M5) := HBM3.out.trans (hO5.below HBM3.out.size fun d hd => (HGE.out d hd).1)
    clear hO5 hR5 hgc
    have hgc : M5.cell? ⟨W11.heap.size, 0, none⟩ = some (.slice ag m1 cg) := HBOX5.out.cell 0 (by simp)
    go_wp2_with fail
    refine (HHD0.out _ _ _ HCB.out HR5.out).mono ?_
    rintro en M6 ⟨rfl, hb6⟩
    have HBM6 := hide (bjn hb6 HBM5.out (Nat.le_refl _))
    have HB6 := hide (bjoin HBM6.out HBL8.out)
    clear hb6 hgc
    go_wp2_with fail
    refine (HIM.out _ (HENV.out _ HB6.out).1 (HENV.out _ HB6.out).2).mono ?_
    rintro en W18 ⟨th, rfl, ⟨qsh, hteh, hqsh⟩, hb18⟩
    obtain ⟨ah, ch, eh⟩ : ∃ a c, th = .slice a m1 c := by
      obtain ⟨a, c, e, _⟩ := hteh.form
      exact ⟨a, c, by rw [e, ← HM1L.out, ← hqsh, List.length_map]⟩
    subst eh
    obtain ⟨X18, hX18⟩ : ∃ X18, W18.alloc (Obj.cells #[.slice ah m1 ch] 24) = X18 := ⟨_, rfl⟩
    have HSH : Hid (AHeld M6.heap.size R1 M6 W18.heap.size (.slice ah m1 ch) X18) := by rw [← hX18]; exact AHeld.late ⟨qsh, hteh, hqsh⟩ hb18 (Nat.le_refl _)
    have HB818 := hide (bjn HSH.out.2.2.1 HBM6.out (Nat.le_refl _))
    have hgc := HSH.out.cell
    have hrc := (K8.out X18 HB818.out).1
    have HX18 := hide hX18
    clear hteh hqsh hb18 hX18
    go_wp2_with (rw [HX18.out])
    (try rw [HX18.out])
    refine (HEQ.out R1 _ _ _ _ _ (HSH.out.sesss HRL.out) (K8.out X18 HB818.out).2).mono ?_
    rintro en M8 ⟨rfl, hb8⟩
    have HEND := hide (bjoin (bjn hb8 HB818.out (Nat.le_refl _)) HBL8.out)
    clear hb8 hgc hrc
    go_wp2_with fail
    go_ret
    exact ⟨rfl, HEND.out⟩
  · have hI0 : (1048576 : Int) < (s.size : Int) := by omega
    go_enter Tryz.func3, Tryz.ntmps3
    go_wp2_with fail
    go_ret
    exact ⟨rfl, Below.refl _ _⟩
end Go.Proofs.YtpmnepalchgcbaaGreatDoor.Msg
