import Derived.Test.YtaalkjbkmkjkpaaTblEqwithLawApplyK
namespace Go.Proofs.Ytaalkjbkmkjkpaa.Msg
open Go.ChangeShapes Go.WideShapes Go.ChangeAt Go.RowKit
set_option linter.unusedVariables false
set_option linter.unusedSimpArgs false

set_option maxRecDepth 100000 in
set_option maxHeartbeats 16000000 in
theorem lawApply (xs : List Sess) (v : Value) (c : Chg) (cv : Value) (w : World) {lo lo2 : Nat} (hv : SesssAt lo w v xs) (hc1 : c.tag.size ≤ 9223372036854775807) (hc2 : c.query.size ≤ 9223372036854775807) (hr : StrsAt lo2 w cv c.rows) :
    Calls Try.prog 3 #[.agg #[v], chgV c cv] w fun en w' => en = .returned (.bool true) ∧ Below w.heap.size w w' := by
  obtain ⟨a1, c1, rfl, _⟩ := At.form hv
  obtain ⟨a2, c2, rfl, _⟩ := At.form hr
  obtain ⟨R, hR⟩ : ∃ R, applyP xs c = R := ⟨_, rfl⟩
  have HRL : Hid (R.1.length ≤ 17) := by rw [← hR]; exact applyP_len xs c
  have HSP := hide (fun (b1 b2 : Nat) (W : World) (h : SesssAt 0 W (.slice (some ⟨b1, 0, none⟩) xs.length xs.length) xs) (h2 : StrsAt 0 W (.slice (some ⟨b2, 0, none⟩) c.rows.length c.rows.length) c.rows) => applyS_any xs _ c _ _ _ W h hc1 hc2 h2)
  have HIM := hide (fun (b1 b2 : Nat) (W : World) (h : SesssAt 0 W (.slice (some ⟨b1, 0, none⟩) xs.length xs.length) xs) (h2 : StrsAt 0 W (.slice (some ⟨b2, 0, none⟩) c.rows.length c.rows.length) c.rows) => applyI_any xs _ c _ _ _ W h hc1 hc2 h2)
  rw [hR] at HSP HIM
  clear hR
  obtain ⟨R1, R2⟩ := R
  dsimp only at HRL
  have HSZ := hide (fun (W : World) (h : SesssAt lo W (.slice a1 xs.length c1) xs) => szTbl_any xs _ 1048576 W (by omega) (by omega) h)
  have HSC0 := hide (fun (left : Int) (W : World) (h0 : 0 ≤ left) (h9 : left ≤ 1048576) (h : StrsAt lo2 W (.slice a2 c.rows.length c2) c.rows) => szChgL c _ left W h0 h9 hc1 hc2 h)
  have HEC := hide (fun (u1 u2 : Value) (W : World) (l1 l2 : Nat) (h1 : StrsAt l1 W u1 c.rows) (h2 : StrsAt l2 W u2 c.rows) => eqChg_any c u1 u2 W h1 h2)
  have HEQ := hide (fun (ys : List Sess) (u1 u2 : Value) (W : World) (l1 l2 : Nat) (h1 : SesssAt l1 W u1 ys) (h2 : SesssAt l2 W u2 ys) => eqTbl_any ys u1 u2 W h1 h2)
  obtain ⟨C, hC⟩ : ∃ n, chgSz c = n := ⟨_, rfl⟩
  have HCF : Hid (c.rows.length ≤ C) := by show _ ≤ _; rw [← hC]; unfold chgSz repSz lenSum; omega
  rw [hC] at HSC0
  have HTC0 := hide (fun (W : World) (hn : c.rows.length ≤ 1048576) (h : StrsAt lo2 W (.slice a2 c.rows.length c2) c.rows) => toChgO c _ W hn h)
  have HMC0 := hide (fun (k : Nat) (u : Value) (bs : List Nat) (W : World) (hk : 1 ≤ k) (hkb : k + cRep c.rows ≤ 4611686018427387904) (h : OStrs W u c.rows bs) => markChgO c u bs k W hk hkb h)
  obtain ⟨kind, client, tag, query, page, rows, n0⟩ := c
  unfold chgV at HSP HIM HSC0 HEC HTC0 HMC0 ⊢
  dsimp only at HSP HIM HSC0 HEC HTC0 HMC0 HCF hr ⊢
  obtain ⟨w1, hw1⟩ : ∃ w1, (w.alloc (Obj.cells #[.slice a1 xs.length c1] 24)).alloc (Obj.cells #[.int .i64 kind, .int .i64 client, .string tag, .string query, .int .i64 page, .slice a2 rows.length c2, .int .i64 n0] 27) = w1 := ⟨_, rfl⟩
  have HB1 : Hid (Below w.heap.size w w1) := by
    rw [← hw1]
    have h1 := (Below.refl w.heap.size w).alloc (Nat.le_refl _) (Obj.cells #[.slice a1 xs.length c1] 24)
    exact h1.alloc h1.size _
  have HXT : Hid (Box w1 w.heap.size 24 #[.slice a1 xs.length c1]) := by rw [← hw1]; exact (Box.new w _ _).alloc _
  have HXC : Hid (Box w1 (w.heap.size + 1) 27 #[.int .i64 kind, .int .i64 client, .string tag, .string query, .int .i64 page, .slice a2 rows.length c2, .int .i64 n0]) := by
    rw [← hw1]
    have := Box.new (w.alloc (Obj.cells #[.slice a1 xs.length c1] 24)) 27 #[.int .i64 kind, .int .i64 client, .string tag, .string query, .int .i64 page, .slice a2 rows.length c2, .int .i64 n0]
    rw [Deep.nblk_alloc] at this
    exact this
  have HPW0 : Hid (∀ X, Below w1.heap.size w1 X → SesssAt lo X (.slice a1 xs.length c1) xs) := fun X hX => At.kept kept_sess hv (bjoin hX HB1.out)
  have HRW0 : Hid (∀ X, Below w1.heap.size w1 X → StrsAt lo2 X (.slice a2 rows.length c2) rows) := fun X hX => At.kept kept_str hr (bjoin hX HB1.out)
  have HTO0 := hide (fun (W : World) (hn : tblSz xs ≤ 1048576) (h : SesssAt lo W (.slice a1 xs.length c1) xs) => toTblO xs _ W (tbl_fits hn).1 (tbl_fits hn).2 h)
  obtain ⟨n1, hn1⟩ : ∃ n, xs.length = n := ⟨_, rfl⟩
  obtain ⟨n2, hn2⟩ : ∃ n, rows.length = n := ⟨_, rfl⟩
  rw [hn1] at HSP HIM HSZ HXT HPW0 HTO0 hw1 ⊢
  rw [hn2] at HSP HIM HSC0 HTC0 HCF HXC HRW0 hw1 ⊢
  have HN2 := hide hn2
  have HW1 := hide hw1
  clear hv hr hc1 hc2 hn1 hn2 hw1 hC
  have KS : Hid (∀ X, Below w1.heap.size w1 X → (X.cell? ⟨w.heap.size, 0, none⟩ = some (.slice a1 n1 c1)) ∧ (X.cell? ⟨w.heap.size + 1, 0, none⟩ = some (.int .i64 kind) ∧ X.cell? ⟨w.heap.size + 1, 1, none⟩ = some (.int .i64 client) ∧ X.cell? ⟨w.heap.size + 1, 2, none⟩ = some (.string tag) ∧ X.cell? ⟨w.heap.size + 1, 3, none⟩ = some (.string query) ∧ X.cell? ⟨w.heap.size + 1, 4, none⟩ = some (.int .i64 page) ∧ X.cell? ⟨w.heap.size + 1, 5, none⟩ = some (.slice a2 n2 c2) ∧ X.cell? ⟨w.heap.size + 1, 6, none⟩ = some (.int .i64 n0))) := fun X hX => ⟨(HXT.out.below hX).cell 0 (by simp), box7 (HXC.out.below hX)⟩
  have KS1 : Hid (∀ X, Below w1.heap.size w1 X → ∀ b, w1.heap.size ≤ b → ∀ x0 Y, X.setCell ⟨b, 0, none⟩ x0 = Y → (Y.cell? ⟨w.heap.size, 0, none⟩ = some (.slice a1 n1 c1)) ∧ (Y.cell? ⟨w.heap.size + 1, 0, none⟩ = some (.int .i64 kind) ∧ Y.cell? ⟨w.heap.size + 1, 1, none⟩ = some (.int .i64 client) ∧ Y.cell? ⟨w.heap.size + 1, 2, none⟩ = some (.string tag) ∧ Y.cell? ⟨w.heap.size + 1, 3, none⟩ = some (.string query) ∧ Y.cell? ⟨w.heap.size + 1, 4, none⟩ = some (.int .i64 page) ∧ Y.cell? ⟨w.heap.size + 1, 5, none⟩ = some (.slice a2 n2 c2) ∧ Y.cell? ⟨w.heap.size + 1, 6, none⟩ = some (.int .i64 n0))) := fun X hX b hb x0 Y hY => KS.out Y (by rw [← hY]; exact hX.setCell (p := ⟨b, 0, none⟩) hb _)
  obtain ⟨p0, p1, p2, p3, p4, p5, p6, p7⟩ := KS.out w1 (Below.refl _ _)
  have HT6 := hide (cTbl_sz xs)
  obtain ⟨T, hT⟩ : ∃ n, tblSz xs = n := ⟨_, rfl⟩
  rw [hT] at HSZ HTO0 HT6
  clear hT
  by_cases hsz : ¬ ((T : Nat) : Int) ≤ 1048576
  · rw [rest_no hsz] at HSZ
    clear hsz
    go_enter Try.func3, Try.ntmps3
    go_wp2_with fail
    (try rw [HW1.out])
    refine (HSZ.out _ (HPW0.out _ (Below.refl _ _))).mono ?_
    rintro en W1 ⟨rfl, hb1⟩
    have HBW1 := hide (bjoin hb1 HB1.out)
    clear hb1
    go_wp2_with fail
    go_ret
    exact ⟨rfl, HBW1.out⟩
  have hsz := Decidable.not_not.1 hsz
  rw [rest_yes hsz] at HSZ
  obtain ⟨left, hleft⟩ : ∃ left : Int, 1048576 - (T : Int) = left := ⟨_, rfl⟩
  rw [hleft] at HSZ
  have hl0 : ¬ left < 0 := by omega
  have HLB : Hid (0 ≤ left ∧ left ≤ 1048576) := ⟨by omega, by omega⟩
  have HTO := hide (fun (W : World) (h : SesssAt lo W (.slice a1 n1 c1) xs) => HTO0.out W (by omega) h)
  have HTB : Hid (cTbl xs ≤ 6291456) := by show _ ≤ _; have := HT6.out; omega
  have HSC := hide (fun (W : World) (h : StrsAt lo2 W (.slice a2 n2 c2) rows) => HSC0.out left W HLB.out.1 HLB.out.2 h)
  clear hsz hleft HTO0 HT6 HSC0
  by_cases hsc : ¬ ((C : Nat) : Int) ≤ left
  · rw [rest_no hsc] at HSC
    clear hsc
    go_enter Try.func3, Try.ntmps3
    go_wp2_with fail
    (try rw [HW1.out])
    refine (HSZ.out _ (HPW0.out _ (Below.refl _ _))).mono ?_
    rintro en W1 ⟨rfl, hb1⟩
    obtain ⟨p0, p1, p2, p3, p4, p5, p6, p7⟩ := KS.out W1 hb1
    have HBW1 := hide hb1
    clear hb1
    go_wp2_with fail
    refine (HSC.out _ (HRW0.out _ HBW1.out)).mono ?_
    rintro en W2 ⟨rfl, hb2⟩
    have HBW2 := hide (bjoin (bjoin hb2 HBW1.out) HB1.out)
    clear hb2
    go_wp2_with fail
    go_ret
    exact ⟨rfl, HBW2.out⟩
  have hsc := Decidable.not_not.1 hsc
  rw [rest_yes hsc] at HSC
  have HTC := hide (fun (W : World) (h : StrsAt lo2 W (.slice a2 n2 c2) rows) => HTC0.out W (by have := HCF.out; have := HLB.out; omega) h)
  have HCR : Hid (cRep rows ≤ 1048576) := by show _ ≤ _; rw [cRep_len, HN2.out]; have := HCF.out; have := HLB.out; omega
  have hl1 : ¬ left - (C : Int) < 0 := by omega
  obtain ⟨left2, hleft2⟩ : ∃ left2 : Int, left - (C : Int) = left2 := ⟨_, rfl⟩
  rw [hleft2] at HSC hl1
  clear hsc hleft2 HTC0 HCF
  have HMX := hide (fun (u : Value) (bs : List Nat) (W : World) (hn : bs.Nodup) (h : OSesss W u xs bs) => markTbl_any xs u bs 1 W (by omega) (by have := HTB.out; omega) hn h)
  obtain ⟨K0, hK0⟩ : ∃ n, 1 + cTbl xs = n := ⟨_, rfl⟩
  rw [hK0] at HMX
  have HMC := hide (fun (u : Value) (bs : List Nat) (W : World) (h : OStrs W u rows bs) => HMC0.out K0 u bs W (by omega) (by have := HTB.out; have := HCR.out; omega) h)
  obtain ⟨K1, hK1⟩ : ∃ n, K0 + cRep rows = n := ⟨_, rfl⟩
  rw [hK1] at HMC
  have hK1p : ¬ (K1 : Int) < 0 := by omega
  clear hK1 hK0 HMC0 HTB HCR
  have HMK0 := hide (fun (u : Value) (bs : List Nat) (W : World) (hn : bs.Nodup) (hc : cTbl R1 ≤ 1700102) (h : OSesss W u R1 bs) => markTbl_any R1 u bs 1 W (by omega) (by omega) hn h)
  have HHD0 := hide (fun (u : Value) (lo : Nat) (W : World) (hc : cTbl R1 ≤ 1700102) (h : SesssAt lo W u (mkTbl 1 R1)) => heldTbl_any R1 u 1 W (by omega) (by omega) h)
  obtain ⟨K2, hK2⟩ : ∃ n, 1 + cTbl R1 = n := ⟨_, rfl⟩
  rw [hK2] at HMK0 HHD0
  have hK2p : ¬ (K2 : Int) < 0 := by omega
  clear hK2
  unfold ApPost at HSP HIM
  dsimp only at HSP HIM
  go_enter Try.func3, Try.ntmps3
  go_wp2_with fail
  (try rw [HW1.out])
  refine (HSZ.out _ (HPW0.out _ (Below.refl _ _))).mono ?_
  rintro en W1 ⟨rfl, hb1⟩
  clear p0 p1 p2 p3 p4 p5 p6 p7
  obtain ⟨p0, p1, p2, p3, p4, p5, p6, p7⟩ := KS.out W1 hb1
  have HBW1 := hide hb1
  clear hb1
  go_wp2_with fail
  refine (HSC.out _ (HRW0.out _ HBW1.out)).mono ?_
  rintro en W2 ⟨rfl, hb2⟩
  have hD0 : Below w1.heap.size w1 W2.drew := (bjoin hb2 HBW1.out).drew
  obtain ⟨D2, hwd2⟩ : ∃ D, W2.drew = D := ⟨_, rfl⟩
  have hD : Below w1.heap.size w1 D2 := by rw [← hwd2]; exact hD0
  clear hb2 p0 p1 p2 p3 p4 p5 p6 p7
  go_wp2_with fail
  -- the specification's answer
  go_cut [6, 7] (fun sa sb wx => ∃ B tv, sa = .pointer (some ⟨B, 0, none⟩) ∧ sb = .int .i64 R2 ∧ AHeld w1.heap.size R1 w1 B tv wx)
  case first =>
    go_region_held3 (fun X : World => (X.cell? ⟨w.heap.size, 0, none⟩ = some (.slice a1 n1 c1)) ∧ (X.cell? ⟨w.heap.size + 1, 0, none⟩ = some (.int .i64 kind) ∧ X.cell? ⟨w.heap.size + 1, 1, none⟩ = some (.int .i64 client) ∧ X.cell? ⟨w.heap.size + 1, 2, none⟩ = some (.string tag) ∧ X.cell? ⟨w.heap.size + 1, 3, none⟩ = some (.string query) ∧ X.cell? ⟨w.heap.size + 1, 4, none⟩ = some (.int .i64 page) ∧ X.cell? ⟨w.heap.size + 1, 5, none⟩ = some (.slice a2 n2 c2) ∧ X.cell? ⟨w.heap.size + 1, 6, none⟩ = some (.int .i64 n0)))
      (first | with_reducible exact KS.out _ hD0 | with_reducible exact KS.out _ hD | with_reducible exact KS.out _ (hD.alloc hD.size _) | with_reducible exact KS.out _ hB3 | with_reducible exact KS.out _ (hB3.alloc hB3.size _) | with_reducible exact KS.out _ hB4 | with_reducible exact KS.out _ (hB4.alloc hB4.size _) | with_reducible exact KS.out _ hB5 | with_reducible exact KS.out _ (hB5.alloc hB5.size _) | with_reducible exact KS1.out _ hB5 _ hD.size _ _ rfl | with_reducible exact KS1.out _ hB5 _ hB3.size _ _ rfl | with_reducible exact KS1.out _ hB5 _ hB4.size _ _ rfl)
      (first
        | (go_at_call 7; refine (HTO.out _ (by first | with_reducible exact HPW0.out _ hD | with_reducible exact HPW0.out _ (hD.alloc hD.size _))).mono ?_; rintro e W3 ⟨B3, rfl, bs3, hO3, hnd3, hge3, hbr3⟩; have hp3 : SesssAt 0 W3 (.slice (some ⟨B3, 0, none⟩) n1 n1) xs := OAt.toAt toAt_sess hO3 (fun _ _ => Nat.zero_le _); have hB3 : Below w1.heap.size w1 W3 := (by first | with_reducible exact bjoin hbr3 hD | with_reducible exact bjoin hbr3 (hD.alloc hD.size _)))
        | (go_at_call 6; refine (HSP.out _ _ _ (by first | with_reducible exact hp4 | with_reducible exact ssB hp4 ((Below.refl _ _).alloc (Nat.le_refl _) _)) (by first | with_reducible exact hr4 | with_reducible exact stB hr4 ((Below.refl _ _).alloc (Nat.le_refl _) _))).mono ?_; rintro e W5 ⟨t5, rfl, ⟨qs5, hte5, hqs5⟩, hbr5⟩; have hT5 : ∃ ps, TE w1.heap.size W5 t5 ps ∧ ps.map Prod.fst = R1 := ⟨qs5, hte5.low (by have := hB4.size; first | omega | (rw [Deep.nblk_alloc]; omega)), hqs5⟩; obtain ⟨a5, c5, e5, _⟩ := hte5.form; obtain ⟨m5, hm5⟩ : ∃ q, qs5.length = q := ⟨_, rfl⟩; rw [hm5] at e5; subst e5; clear hte5 hqs5 hm5; have hB5 : Below w1.heap.size w1 W5 := (by first | with_reducible exact bjoin hbr5 hB4 | with_reducible exact bjoin hbr5 (hB4.alloc hB4.size _)); first | (refine box1 ((((Box.new _ _ _).below hbr3).below hbr4).below hbr5) ?_; rintro hbz ⟨z0, f0⟩) | (refine box1 (((Box.new _ _ _).below hbr4).below hbr5) ?_; rintro hbz ⟨z0, f0⟩) | (refine box1 ((Box.new _ _ _).below hbr5) ?_; rintro hbz ⟨z0, f0⟩) | skip)
        | (go_at_call 8; refine (HTC.out _ (by first | with_reducible exact HRW0.out _ hB3 | with_reducible exact HRW0.out _ (hB3.alloc hB3.size _))).mono ?_; rintro e W4 ⟨B4, rfl, hO4, hge4, hbr4⟩; have hB4 : Below w1.heap.size w1 W4 := (by first | with_reducible exact bjoin hbr4 hB3 | with_reducible exact bjoin hbr4 (hB3.alloc hB3.size _)); have hp4 : SesssAt 0 W4 (.slice (some ⟨B3, 0, none⟩) n1 n1) xs := (by first | with_reducible exact ssB hp3 hbr4 | with_reducible exact ssB (ssB hp3 ((Below.refl _ _).alloc (Nat.le_refl _) _)) hbr4); have hr4 : StrsAt 0 W4 (.slice (some ⟨B4, 0, none⟩) n2 n2) rows := OAt.toAt toAt_str hO4 (fun _ _ => Nat.zero_le _)))
    all_goals
      go_wp2_with fail
      go_meet
      case rel => first
        | with_reducible exact ⟨_, _, rfl, rfl, AHeld.late hT5 hB5 (Nat.le_refl _)⟩
        | with_reducible exact ⟨_, _, rfl, rfl, AHeld.early hbz hT5 hB5 hD.size⟩
        | with_reducible exact ⟨_, _, rfl, rfl, AHeld.early hbz hT5 hB5 hB3.size⟩
        | with_reducible exact ⟨_, _, rfl, rfl, AHeld.early hbz hT5 hB5 hB4.size⟩
  case rest =>
    obtain ⟨X8, rfl⟩ : ∃ X8, X8 = wc := ⟨_, rfl⟩
    obtain ⟨B8, tv8, rfl, rfl, hsh⟩ := hcut
    obtain ⟨a8, c8, e8⟩ := hsh.form
    obtain ⟨m1, hm1⟩ : ∃ q, R1.length = q := ⟨_, rfl⟩
    have HM1L := hide hm1
    rw [hm1] at e8
    subst e8
    have K8 : Hid (∀ X, Below X8.heap.size X8 X → X.cell? ⟨B8, 0, none⟩ = some (.slice a8 m1 c8) ∧ SesssAt 0 X (.slice a8 m1 c8) R1) := fun X hX => ⟨(hsh.below hX).cell, (hsh.below hX).sesss HRL.out⟩
    have HBL8 := hide hsh.2.2.1
    obtain ⟨p0, p1, p2, p3, p4, p5, p6, p7⟩ := KS.out X8 hsh.2.2.1
    clear hsh hD0 hD hwd2 hm1
    go_wp2_with fail
    refine (HTO.out _ (HPW0.out _ HBL8.out)).mono ?_
    rintro en W9 ⟨B9, rfl, bx, hO9, hnd9, hge9, hb9⟩
    obtain ⟨X9, hX9⟩ : ∃ X9, W9.alloc (Obj.cells #[.slice (some ⟨B9, 0, none⟩) n1 n1] 32) = X9 := ⟨_, rfl⟩
    have hb9a : Below W9.heap.size W9 X9 := by rw [← hX9]; exact (Below.refl _ _).alloc (Nat.le_refl _) _
    have HBOX9 : Hid (Box X9 W9.heap.size 32 #[.slice (some ⟨B9, 0, none⟩) n1 n1]) := by rw [← hX9]; exact Box.new _ _ _
    have HO9 : Hid (∀ X, Below X9.heap.size X9 X → OSesss X (.slice (some ⟨B9, 0, none⟩) n1 n1) xs bx) := fun X hX => OAt.kept keptO_sess hO9 (Nat.le_trans hb9a.size hX.size) fun d hd => (hX.block d (Nat.lt_of_lt_of_le (OAt.lt ltO_sess hO9 d hd) hb9a.size)).trans (hb9a.block d (OAt.lt ltO_sess hO9 d hd))
    have HX9R : Hid (∀ d ∈ bx, X8.heap.size ≤ d ∧ d < W9.heap.size) := fun d hd => ⟨hge9 d hd, OAt.lt ltO_sess hO9 d hd⟩
    have HND9 := hide hnd9
    have HB89 := hide (bjoin hb9a hb9)
    have HB9 := hide (bjn HB89.out HBL8.out (Nat.le_refl _))
    have HW9 := hide hb9a.size
    clear p0 p1 p2 p3 p4 p5 p6 p7 hO9 hnd9 hge9 hb9 hb9a
    obtain ⟨p0, p1, p2, p3, p4, p5, p6, p7⟩ := KS.out X9 HB9.out
    go_wp2_with fail
    refine (HTC.out _ (HRW0.out _ HB9.out)).mono ?_
    rintro en W10 ⟨B10, rfl, hO10, hge10, hb10⟩
    obtain ⟨X10, hX10⟩ : ∃ X10, W10.alloc (Obj.cells #[.int .i64 kind, .int .i64 client, .string tag, .string query, .int .i64 page, .slice (some ⟨B10, 0, none⟩) n2 n2, .int .i64 n0] 36) = X10 := ⟨_, rfl⟩
    have hb10a : Below W10.heap.size W10 X10 := by rw [← hX10]; exact (Below.refl _ _).alloc (Nat.le_refl _) _
    have HBOX10 : Hid (Box X10 W10.heap.size 36 #[.int .i64 kind, .int .i64 client, .string tag, .string query, .int .i64 page, .slice (some ⟨B10, 0, none⟩) n2 n2, .int .i64 n0]) := by rw [← hX10]; exact Box.new _ _ _
    have HB10L : Hid (X9.heap.size ≤ B10 ∧ B10 < W10.heap.size) := ⟨hge10, OAt.lt ltO_str hO10 B10 (by simp)⟩
    have HO10 : Hid (OStrs X10 (.slice (some ⟨B10, 0, none⟩) n2 n2) rows [B10]) := OAt.kept keptO_str hO10 hb10a.size fun d hd => hb10a.block d (OAt.lt ltO_str hO10 d hd)
    have HB910 := hide (bjoin hb10a hb10)
    have HB810 := hide (bjn HB910.out HB89.out (Nat.le_refl _))
    have HB10 := hide (bjn HB910.out HB9.out (Nat.le_refl _))
    have HW10 := hide hb10a.size
    have K9 : Hid (∀ X, Below X10.heap.size X10 X → (X.cell? ⟨W9.heap.size, 0, none⟩ = some (.slice (some ⟨B9, 0, none⟩) n1 n1)) ∧ (X.cell? ⟨W10.heap.size, 0, none⟩ = some (.int .i64 kind) ∧ X.cell? ⟨W10.heap.size, 1, none⟩ = some (.int .i64 client) ∧ X.cell? ⟨W10.heap.size, 2, none⟩ = some (.string tag) ∧ X.cell? ⟨W10.heap.size, 3, none⟩ = some (.string query) ∧ X.cell? ⟨W10.heap.size, 4, none⟩ = some (.int .i64 page) ∧ X.cell? ⟨W10.heap.size, 5, none⟩ = some (.slice (some ⟨B10, 0, none⟩) n2 n2) ∧ X.cell? ⟨W10.heap.size, 6, none⟩ = some (.int .i64 n0)) ∧ (X.cell? ⟨w.heap.size, 0, none⟩ = some (.slice a1 n1 c1)) ∧ (X.cell? ⟨w.heap.size + 1, 0, none⟩ = some (.int .i64 kind) ∧ X.cell? ⟨w.heap.size + 1, 1, none⟩ = some (.int .i64 client) ∧ X.cell? ⟨w.heap.size + 1, 2, none⟩ = some (.string tag) ∧ X.cell? ⟨w.heap.size + 1, 3, none⟩ = some (.string query) ∧ X.cell? ⟨w.heap.size + 1, 4, none⟩ = some (.int .i64 page) ∧ X.cell? ⟨w.heap.size + 1, 5, none⟩ = some (.slice a2 n2 c2) ∧ X.cell? ⟨w.heap.size + 1, 6, none⟩ = some (.int .i64 n0))) := fun X hX => ⟨(HBOX9.out.below (bjn hX HB910.out (Nat.le_refl _))).cell 0 (by simp), box7 (HBOX10.out.below hX), KS.out X (bjn hX HB10.out (Nat.le_refl _))⟩
    have HPX : Hid (∀ X, Below X10.heap.size X10 X → SesssAt 0 X (.slice (some ⟨B9, 0, none⟩) n1 n1) xs ∧ StrsAt 0 X (.slice (some ⟨B10, 0, none⟩) n2 n2) rows) := fun X hX => ⟨OAt.toAt toAt_sess (HO9.out X (bjn hX HB910.out (Nat.le_refl _))) (fun _ _ => Nat.zero_le _), At.kept kept_str (OAt.toAt toAt_str HO10.out (lo := 0) (fun _ _ => Nat.zero_le _)) hX⟩
    clear p0 p1 p2 p3 p4 p5 p6 p7 hO10 hge10 hb10 hb10a
    obtain ⟨q0, ⟨q1, q2, q3, q4, q5, q6, q7⟩, _⟩ := K9.out X10 (Below.refl _ _)
    go_wp2_with fail
    refine (HIM.out _ _ _ (HPX.out _ (Below.refl _ _)).1 (HPX.out _ (Below.refl _ _)).2).mono ?_
    rintro en W11 ⟨tg, rfl, ⟨qsg, hteg, hqsg⟩, hb11⟩
    obtain ⟨ag, cg, eg⟩ : ∃ a c, tg = .slice a m1 c := by
      obtain ⟨a, c, e, _⟩ := hteg.form
      exact ⟨a, c, by rw [e, ← HM1L.out, ← hqsg, List.length_map]⟩
    subst eg
    obtain ⟨X11, hX11⟩ : ∃ X11, W11.alloc (Obj.cells #[.slice ag m1 cg] 32) = X11 := ⟨_, rfl⟩
    have HG11 : Hid (AHeld X10.heap.size R1 X10 W11.heap.size (.slice ag m1 cg) X11) := by rw [← hX11]; exact AHeld.late ⟨qsg, hteg.low (by omega), hqsg⟩ hb11 (Nat.le_refl _)
    have HB1011 := hide HG11.out.2.2.1
    have HB811 := hide (bjn HB1011.out HB810.out (Nat.le_refl _))
    have hgc := HG11.out.cell
    have hrc := (K8.out X11 HB811.out).1
    clear q0 q1 q2 q3 q4 q5 q6 q7 hteg hqsg hb11
    go_wp2_with fail
    refine (HEQ.out R1 _ _ _ _ _ (HG11.out.sesss HRL.out) (K8.out X11 HB811.out).2).mono ?_
    rintro en W12 ⟨rfl, hb12⟩
    have HB12 := hide hb12
    have HBX12 := hide (bjn hb12 HB1011.out (Nat.le_refl _))
    clear hb12 hgc hrc
    have hF0 : Below X10.heap.size X10 W12.drew := HBX12.out.drew
    obtain ⟨D12, hwd12⟩ : ∃ D, W12.drew = D := ⟨_, rfl⟩
    have hF : Below X10.heap.size X10 D12 := by rw [← hwd12]; exact hF0
    have hFX : Below X11.heap.size X11 D12 := by rw [← hwd12]; exact HB12.out.drew
    go_wp2_with fail
    -- the table is as it was
    have KY : Hid (∀ X, Below X10.heap.size X10 X → (X.cell? ⟨W9.heap.size, 0, none⟩ = some (.slice (some ⟨B9, 0, none⟩) n1 n1)) ∧ (X.cell? ⟨w.heap.size, 0, none⟩ = some (.slice a1 n1 c1))) := fun X hX => ⟨(K9.out X hX).1, (K9.out X hX).2.2.1⟩
    go_region_held3 (fun X : World => (X.cell? ⟨W9.heap.size, 0, none⟩ = some (.slice (some ⟨B9, 0, none⟩) n1 n1)) ∧ (X.cell? ⟨w.heap.size, 0, none⟩ = some (.slice a1 n1 c1)))
      (first | with_reducible exact KY.out _ hF0 | with_reducible exact KY.out _ hF | with_reducible exact KY.out _ hB14 | with_reducible exact KY.out _ hB15)
      (first
        | (go_at_call 7; refine (HTO.out _ (HPW0.out _ (bjn hF HB10.out (Nat.le_refl _)))).mono ?_; rintro e W14 ⟨B14, rfl, bs14, hO14, hnd14, hge14, hbr14⟩; have hB14 : Below X10.heap.size X10 W14 := bjoin hbr14 hF; have hp14 : SesssAt 0 W14 (.slice (some ⟨B14, 0, none⟩) n1 n1) xs := OAt.toAt toAt_sess hO14 (fun _ _ => Nat.zero_le _))
        | (go_at_call 10; refine (HEQ.out xs _ _ _ _ _ (HPX.out _ hB14).1 hp14).mono ?_; rintro e W15 ⟨rfl, hbr15⟩; have hB15 : Below X10.heap.size X10 W15 := bjoin hbr15 hB14))
    have HB15 := hide hB15
    have HBX15 := hide (bjoin (bjoin hbr15 hbr14) hFX)
    clear hB15 hbr15 hbr14 hB14 hF hF0 hFX hwd12 hO14 hnd14 hge14 hp14
    have hF0 : Below X10.heap.size X10 W15.drew := HB15.out.drew
    obtain ⟨D15, hwd15⟩ : ∃ D, W15.drew = D := ⟨_, rfl⟩
    have hF : Below X10.heap.size X10 D15 := by rw [← hwd15]; exact hF0
    have hFX : Below X11.heap.size X11 D15 := by rw [← hwd15]; exact HBX15.out.drew
    go_wp2_with fail
    -- the change is as it was
    have KZ : Hid (∀ X, Below X10.heap.size X10 X → (X.cell? ⟨W10.heap.size, 0, none⟩ = some (.int .i64 kind) ∧ X.cell? ⟨W10.heap.size, 1, none⟩ = some (.int .i64 client) ∧ X.cell? ⟨W10.heap.size, 2, none⟩ = some (.string tag) ∧ X.cell? ⟨W10.heap.size, 3, none⟩ = some (.string query) ∧ X.cell? ⟨W10.heap.size, 4, none⟩ = some (.int .i64 page) ∧ X.cell? ⟨W10.heap.size, 5, none⟩ = some (.slice (some ⟨B10, 0, none⟩) n2 n2) ∧ X.cell? ⟨W10.heap.size, 6, none⟩ = some (.int .i64 n0)) ∧ (X.cell? ⟨w.heap.size + 1, 0, none⟩ = some (.int .i64 kind) ∧ X.cell? ⟨w.heap.size + 1, 1, none⟩ = some (.int .i64 client) ∧ X.cell? ⟨w.heap.size + 1, 2, none⟩ = some (.string tag) ∧ X.cell? ⟨w.heap.size + 1, 3, none⟩ = some (.string query) ∧ X.cell? ⟨w.heap.size + 1, 4, none⟩ = some (.int .i64 page) ∧ X.cell? ⟨w.heap.size + 1, 5, none⟩ = some (.slice a2 n2 c2) ∧ X.cell? ⟨w.heap.size + 1, 6, none⟩ = some (.int .i64 n0))) := fun X hX => ⟨(K9.out X hX).2.1, (K9.out X hX).2.2.2⟩
    go_region_held3 (fun X : World => (X.cell? ⟨W10.heap.size, 0, none⟩ = some (.int .i64 kind) ∧ X.cell? ⟨W10.heap.size, 1, none⟩ = some (.int .i64 client) ∧ X.cell? ⟨W10.heap.size, 2, none⟩ = some (.string tag) ∧ X.cell? ⟨W10.heap.size, 3, none⟩ = some (.string query) ∧ X.cell? ⟨W10.heap.size, 4, none⟩ = some (.int .i64 page) ∧ X.cell? ⟨W10.heap.size, 5, none⟩ = some (.slice (some ⟨B10, 0, none⟩) n2 n2) ∧ X.cell? ⟨W10.heap.size, 6, none⟩ = some (.int .i64 n0)) ∧ (X.cell? ⟨w.heap.size + 1, 0, none⟩ = some (.int .i64 kind) ∧ X.cell? ⟨w.heap.size + 1, 1, none⟩ = some (.int .i64 client) ∧ X.cell? ⟨w.heap.size + 1, 2, none⟩ = some (.string tag) ∧ X.cell? ⟨w.heap.size + 1, 3, none⟩ = some (.string query) ∧ X.cell? ⟨w.heap.size + 1, 4, none⟩ = some (.int .i64 page) ∧ X.cell? ⟨w.heap.size + 1, 5, none⟩ = some (.slice a2 n2 c2) ∧ X.cell? ⟨w.heap.size + 1, 6, none⟩ = some (.int .i64 n0)))
      (first | with_reducible exact KZ.out _ hF0 | with_reducible exact KZ.out _ hF | with_reducible exact KZ.out _ hB16 | with_reducible exact KZ.out _ hB17)
      (first
        | (go_at_call 8; refine (HTC.out _ (HRW0.out _ (bjn hF HB10.out (Nat.le_refl _)))).mono ?_; rintro e W16 ⟨B16, rfl, hO16, hge16, hbr16⟩; have hB16 : Below X10.heap.size X10 W16 := bjoin hbr16 hF; have hp16 : StrsAt 0 W16 (.slice (some ⟨B16, 0, none⟩) n2 n2) rows := OAt.toAt toAt_str hO16 (fun _ _ => Nat.zero_le _))
        | (go_at_call 11; refine (HEC.out _ _ _ _ _ (HPX.out _ hB16).2 hp16).mono ?_; rintro e W17 ⟨rfl, hbr17⟩; have hB17 : Below X10.heap.size X10 W17 := bjoin hbr17 hB16))
    have HB17 := hide hB17
    have HBX17 := hide (bjoin (bjoin hbr17 hbr16) hFX)
    clear hB17 hbr17 hbr16 hB16 hF hF0 hFX hwd15 hO16 hge16 hp16
    obtain ⟨q0, _⟩ := K9.out W17 HB17.out
    go_wp2_with fail
    refine (HMX.out _ _ _ HND9.out (HO9.out _ (bjn HB17.out HB910.out (Nat.le_refl _)))).mono ?_
    rintro en M1 ⟨rfl, hO1, _⟩
    have hM1 : ∀ d, W9.heap.size ≤ d → d < W17.heap.size → M1.heap[d]? = W17.heap[d]? := fun d h1 h2 => hO1.block d h2 fun h => by have := (HX9R.out d h).2; omega
    have HM1 := hide hM1
    have HSM1 := hide hO1.size
    have HBM1 : Hid (Below X8.heap.size X8 M1) := (bjn HB17.out HB810.out (Nat.le_refl _)).trans (hO1.below (bjn HB17.out HB810.out (Nat.le_refl _)).size fun d hd => (HX9R.out d hd).1)
    have hs17 := HB17.out.size
    have HX10M : Hid (Box M1 W10.heap.size 36 #[.int .i64 kind, .int .i64 client, .string tag, .string query, .int .i64 page, .slice (some ⟨B10, 0, none⟩) n2 n2, .int .i64 n0]) := (HBOX10.out.below HB17.out).keep (hM1 _ (by have := HB10L.out; have := HW9.out; omega) (by have := HBOX10.out.lt; omega))
    have HO10M : Hid (OStrs M1 (.slice (some ⟨B10, 0, none⟩) n2 n2) rows [B10]) := OAt.kept keptO_str HO10.out (Nat.le_trans hs17 hO1.size) fun d hd => by
      rw [List.mem_singleton.1 hd]
      have := HB10L.out; have := HW9.out; have := HW10.out
      exact (hM1 B10 (by omega) (by omega)).trans (HB17.out.block B10 (by omega))
    obtain ⟨q1, q2, q3, q4, q5, q6, q7⟩ := box7 HX10M.out
    clear hO1 hM1 q0 hs17
    go_wp2_with fail
    refine (HMC.out _ _ _ HO10M.out).mono ?_
    rintro en M2 ⟨rfl, hO2⟩
    have HG2 : Hid (AHeld X10.heap.size R1 X10 W11.heap.size (.slice ag m1 cg) M2 ∨ True) := .inr trivial
    have hs17 := HB17.out.size
    have hsx := HBX17.out.size
    have hk2 : ∀ d, X10.heap.size ≤ d → d < X11.heap.size → M2.heap[d]? = X11.heap[d]? := fun d h1 h2 => by
      have := HB10L.out; have := HW9.out; have := HW10.out; have := HSM1.out; have := HB910.out.size
      refine (hO2.block d (by omega) (fun h => by rw [List.mem_singleton.1 h] at h1; omega)).trans ?_
      exact (HM1.out d (by omega) (by omega)).trans (HBX17.out.block d h2)
    have HK2 := hide hk2
    have HSM2 : Hid (X11.heap.size ≤ M2.heap.size) := Nat.le_trans hsx (Nat.le_trans HSM1.out hO2.size)
    have HBM2 : Hid (Below X8.heap.size X8 M2) := HBM1.out.trans (hO2.below HBM1.out.size fun d hd => by rw [List.mem_singleton.1 hd]; have := HB10L.out; have := HB89.out.size; omega)
    have HTEM : Hid (Box M2 W11.heap.size 32 #[.slice ag m1 cg] ∧ ∃ ps, TE X10.heap.size M2 (.slice ag m1 cg) ps ∧ ps.map Prod.fst = R1) := by
      obtain ⟨h1, ⟨ps, ht, he⟩, _, h4⟩ := HG11.out
      exact ⟨h1.keep (hk2 _ h4 h1.lt), ps, ht.keep fun d hd => hk2 d (ht.own hd).1 (ht.own hd).2, he⟩
    have HG2' : Hid (AHeld X10.heap.size R1 M2 W11.heap.size (.slice ag m1 cg) M2) := ⟨HTEM.out.1, HTEM.out.2, Below.refl _ _, HG11.out.2.2.2⟩
    have hgc := HG2'.out.cell
    have hrc := (K8.out M2 HBM2.out).1
    clear hO2 hk2 q1 q2 q3 q4 q5 q6 q7 hs17 hsx
    go_wp2_with fail
    refine (HEQ.out R1 _ _ _ _ _ (HG2'.out.sesss HRL.out) (K8.out M2 HBM2.out).2).mono ?_
    rintro en M3 ⟨rfl, hb3⟩
    have HG3 := hide (HG2'.out.below hb3)
    have HBM3 := hide (bjn hb3 HBM2.out (Nat.le_refl _))
    have HOW : Hid (∃ bs, OSesss M3 (.slice ag m1 cg) R1 bs ∧ bs.Nodup ∧ (∀ b ∈ bs, X10.heap.size ≤ b ∧ b ≠ W11.heap.size) ∧ cTbl R1 ≤ 1700102) := HG3.out.owned HRL.out
    clear hb3 hgc hrc
    obtain ⟨bg, hOg, hndg, hgeg, hcb⟩ := HOW.out
    have HCB := hide hcb
    have HOG := hide (And.intro hndg hOg)
    have HGE := hide hgeg
    have hgc := HG3.out.cell
    clear hOg hndg hgeg hcb HOW
    go_wp2_with fail
    refine (HMK0.out _ _ _ HOG.out.1 HCB.out HOG.out.2).mono ?_
    rintro en M5 ⟨rfl, hO5, hR5⟩
    have HR5 : Hid (SesssAt 0 M5 (.slice ag m1 cg) (mkTbl 1 R1)) := OAt.toAt toAt_sess hR5 (fun _ _ => Nat.zero_le _)
    have HBOX5 := hide (HG3.out.1.only hO5 fun h => (HGE.out _ h).2 rfl)
    have HBM5 : Hid (Below X8.heap.size X8 M5) := HBM3.out.trans (hO5.below HBM3.out.size fun d hd => by have := (HGE.out d hd).1; have := HB810.out.size; omega)
    clear hO5 hR5 hgc
    have hgc : M5.cell? ⟨W11.heap.size, 0, none⟩ = some (.slice ag m1 cg) := HBOX5.out.cell 0 (by simp)
    go_wp2_with fail
    refine (HHD0.out _ _ _ HCB.out HR5.out).mono ?_
    rintro en M6 ⟨rfl, hb6⟩
    have HBM6 := hide (bjn hb6 HBM5.out (Nat.le_refl _))
    have KS8 : Hid (∀ X, Below X8.heap.size X8 X → (X.cell? ⟨w.heap.size, 0, none⟩ = some (.slice a1 n1 c1)) ∧ (X.cell? ⟨w.heap.size + 1, 0, none⟩ = some (.int .i64 kind) ∧ X.cell? ⟨w.heap.size + 1, 1, none⟩ = some (.int .i64 client) ∧ X.cell? ⟨w.heap.size + 1, 2, none⟩ = some (.string tag) ∧ X.cell? ⟨w.heap.size + 1, 3, none⟩ = some (.string query) ∧ X.cell? ⟨w.heap.size + 1, 4, none⟩ = some (.int .i64 page) ∧ X.cell? ⟨w.heap.size + 1, 5, none⟩ = some (.slice a2 n2 c2) ∧ X.cell? ⟨w.heap.size + 1, 6, none⟩ = some (.int .i64 n0))) := fun X hX => KS.out X (bjn hX HBL8.out (Nat.le_refl _))
    have KS81 : Hid (∀ X, Below X8.heap.size X8 X → ∀ b, X8.heap.size ≤ b → ∀ x0 Y, X.setCell ⟨b, 0, none⟩ x0 = Y → (Y.cell? ⟨w.heap.size, 0, none⟩ = some (.slice a1 n1 c1)) ∧ (Y.cell? ⟨w.heap.size + 1, 0, none⟩ = some (.int .i64 kind) ∧ Y.cell? ⟨w.heap.size + 1, 1, none⟩ = some (.int .i64 client) ∧ Y.cell? ⟨w.heap.size + 1, 2, none⟩ = some (.string tag) ∧ Y.cell? ⟨w.heap.size + 1, 3, none⟩ = some (.string query) ∧ Y.cell? ⟨w.heap.size + 1, 4, none⟩ = some (.int .i64 page) ∧ Y.cell? ⟨w.heap.size + 1, 5, none⟩ = some (.slice a2 n2 c2) ∧ Y.cell? ⟨w.heap.size + 1, 6, none⟩ = some (.int .i64 n0))) := fun X hX b hb x0 Y hY => KS8.out Y (by rw [← hY]; exact hX.setCell (p := ⟨b, 0, none⟩) hb _)
    have HPW8 : Hid (∀ X, Below X8.heap.size X8 X → SesssAt lo X (.slice a1 n1 c1) xs) := fun X hX => HPW0.out X (bjn hX HBL8.out (Nat.le_refl _))
    have HRW8 : Hid (∀ X, Below X8.heap.size X8 X → StrsAt lo2 X (.slice a2 n2 c2) rows) := fun X hX => HRW0.out X (bjn hX HBL8.out (Nat.le_refl _))
    have hD0 : Below X8.heap.size X8 M6.drew := HBM6.out.drew
    obtain ⟨D6, hwd6⟩ : ∃ D, M6.drew = D := ⟨_, rfl⟩
    have hD : Below X8.heap.size X8 D6 := by rw [← hwd6]; exact hD0
    clear hb6 hgc
    go_wp2_with fail
    -- once more
    go_cut [15, 16] (fun sa sb wx => ∃ B tv, sa = .pointer (some ⟨B, 0, none⟩) ∧ sb = .int .i64 R2 ∧ AHeld X8.heap.size R1 X8 B tv wx)
    case first =>
      go_region_held3 (fun X : World => (X.cell? ⟨w.heap.size, 0, none⟩ = some (.slice a1 n1 c1)) ∧ (X.cell? ⟨w.heap.size + 1, 0, none⟩ = some (.int .i64 kind) ∧ X.cell? ⟨w.heap.size + 1, 1, none⟩ = some (.int .i64 client) ∧ X.cell? ⟨w.heap.size + 1, 2, none⟩ = some (.string tag) ∧ X.cell? ⟨w.heap.size + 1, 3, none⟩ = some (.string query) ∧ X.cell? ⟨w.heap.size + 1, 4, none⟩ = some (.int .i64 page) ∧ X.cell? ⟨w.heap.size + 1, 5, none⟩ = some (.slice a2 n2 c2) ∧ X.cell? ⟨w.heap.size + 1, 6, none⟩ = some (.int .i64 n0)))
        (first | with_reducible exact KS8.out _ hD0 | with_reducible exact KS8.out _ hD | with_reducible exact KS8.out _ (hD.alloc hD.size _) | with_reducible exact KS8.out _ hB3 | with_reducible exact KS8.out _ (hB3.alloc hB3.size _) | with_reducible exact KS8.out _ hB4 | with_reducible exact KS8.out _ (hB4.alloc hB4.size _) | with_reducible exact KS8.out _ hB5 | with_reducible exact KS8.out _ (hB5.alloc hB5.size _) | with_reducible exact KS81.out _ hB5 _ hD.size _ _ rfl | with_reducible exact KS81.out _ hB5 _ hB3.size _ _ rfl | with_reducible exact KS81.out _ hB5 _ hB4.size _ _ rfl)
        (first
          | (go_at_call 7; refine (HTO.out _ (by first | with_reducible exact HPW8.out _ hD | with_reducible exact HPW8.out _ (hD.alloc hD.size _))).mono ?_; rintro e W3 ⟨B3, rfl, bs3, hO3, hnd3, hge3, hbr3⟩; have hp3 : SesssAt 0 W3 (.slice (some ⟨B3, 0, none⟩) n1 n1) xs := OAt.toAt toAt_sess hO3 (fun _ _ => Nat.zero_le _); have hB3 : Below X8.heap.size X8 W3 := (by first | with_reducible exact bjoin hbr3 hD | with_reducible exact bjoin hbr3 (hD.alloc hD.size _)))
          | (go_at_call 9; refine (HIM.out _ _ _ (by first | with_reducible exact hp4 | with_reducible exact ssB hp4 ((Below.refl _ _).alloc (Nat.le_refl _) _)) (by first | with_reducible exact hr4 | with_reducible exact stB hr4 ((Below.refl _ _).alloc (Nat.le_refl _) _))).mono ?_; rintro e W5 ⟨t5, rfl, ⟨qs5, hte5, hqs5⟩, hbr5⟩; have hT5 : ∃ ps, TE X8.heap.size W5 t5 ps ∧ ps.map Prod.fst = R1 := ⟨qs5, hte5.low (by have := hB4.size; first | omega | (rw [Deep.nblk_alloc]; omega)), hqs5⟩; obtain ⟨a5, c5, e5, _⟩ := hte5.form; obtain ⟨m5, hm5⟩ : ∃ q, qs5.length = q := ⟨_, rfl⟩; rw [hm5] at e5; subst e5; clear hte5 hqs5 hm5; have hB5 : Below X8.heap.size X8 W5 := (by first | with_reducible exact bjoin hbr5 hB4 | with_reducible exact bjoin hbr5 (hB4.alloc hB4.size _)); first | (refine box1 ((((Box.new _ _ _).below hbr3).below hbr4).below hbr5) ?_; rintro hbz ⟨z0, f0⟩) | (refine box1 (((Box.new _ _ _).below hbr4).below hbr5) ?_; rintro hbz ⟨z0, f0⟩) | (refine box1 ((Box.new _ _ _).below hbr5) ?_; rintro hbz ⟨z0, f0⟩) | skip)
          | (go_at_call 8; refine (HTC.out _ (by first | with_reducible exact HRW8.out _ hB3 | with_reducible exact HRW8.out _ (hB3.alloc hB3.size _))).mono ?_; rintro e W4 ⟨B4, rfl, hO4, hge4, hbr4⟩; have hB4 : Below X8.heap.size X8 W4 := (by first | with_reducible exact bjoin hbr4 hB3 | with_reducible exact bjoin hbr4 (hB3.alloc hB3.size _)); have hp4 : SesssAt 0 W4 (.slice (some ⟨B3, 0, none⟩) n1 n1) xs := (by first | with_reducible exact ssB hp3 hbr4 | with_reducible exact ssB (ssB hp3 ((Below.refl _ _).alloc (Nat.le_refl _) _)) hbr4); have hr4 : StrsAt 0 W4 (.slice (some ⟨B4, 0, none⟩) n2 n2) rows := OAt.toAt toAt_str hO4 (fun _ _ => Nat.zero_le _)))
      all_goals
        go_wp2_with fail
        go_meet
        case rel => first
          | with_reducible exact ⟨_, _, rfl, rfl, AHeld.late hT5 hB5 (Nat.le_refl _)⟩
          | with_reducible exact ⟨_, _, rfl, rfl, AHeld.early hbz hT5 hB5 hD.size⟩
          | with_reducible exact ⟨_, _, rfl, rfl, AHeld.early hbz hT5 hB5 hB3.size⟩
          | with_reducible exact ⟨_, _, rfl, rfl, AHeld.early hbz hT5 hB5 hB4.size⟩
    case rest =>
      obtain ⟨X18, rfl⟩ : ∃ X18, X18 = wc := ⟨_, rfl⟩
      obtain ⟨B18, tvh, rfl, rfl, hsh⟩ := hcut
      obtain ⟨ah, ch, eh⟩ := hsh.form
      rw [HM1L.out] at eh
      subst eh
      have HSH := hide hsh
      have hgc := hsh.cell
      have hrc := (K8.out X18 hsh.2.2.1).1
      clear hsh hD0 hD hwd6
      go_wp2_with fail
      refine (HEQ.out R1 _ _ _ _ _ (HSH.out.sesss HRL.out) (K8.out X18 HSH.out.2.2.1).2).mono ?_
      rintro en M8 ⟨rfl, hb8⟩
      have HEND := hide (bjoin (bjn (bjn hb8 HSH.out.2.2.1 (Nat.le_refl _)) HBL8.out (Nat.le_refl _)) HB1.out)
      clear hb8 hgc hrc
      go_wp2_with fail
      go_ret
      exact ⟨rfl, HEND.out⟩
end Go.Proofs.Ytaalkjbkmkjkpaa.Msg
