import Derived.Test.YtfeccdhadgpnkaaDoorLawKit
namespace Go.Proofs.YtfeccdhadgpnkaaDoor.Msg
open Go.ChangeShapes Go.WideShapes Go.ChangeAt Go.RowKit
set_option linter.unusedVariables false
set_option linter.unusedSimpArgs false

set_option maxRecDepth 100000 in
set_option maxHeartbeats 8000000 in
theorem lawAsk (x : Pl) (cv qv : Value) (q : Wn) (now : Int) (w : World) {lo : Nat} (hp : PlAt lo w x cv qv) (hz : wnZ q) (hI : Ito w.heap.size w) :
    Calls Tryd.prog 3 #[plV x cv qv, wnV q, .int .i64 now] w fun en w' => en = .returned (.bool true) ∧ Below w.heap.size w w' := by
  obtain ⟨⟨a1, c1, e1⟩, a2, c2, e2⟩ := hp.form
  subst e1 e2
  have HSZ := hide (fun W (h : PlAt lo W x (.slice a1 x.conns.length c1) (.slice a2 x.queue.length c2)) => szPl_any x _ _ 1048576 W (by omega) (by omega) h.1 h.2)
  unfold plV at HSZ
  have HSW := hide (fun left W h0 h9 => szWn_any q left W h0 h9 hz)
  unfold wnV at HSW
  show Calls Tryd.prog 3 #[.agg #[.int .i64 x.epoch, .int .i64 x.next, .slice a1 x.conns.length c1, .slice a2 x.queue.length c2], .agg #[.int .i64 q.client, .string q.tag, .string q.query, .string q.pointer], .int .i64 now] w _
  obtain ⟨w1, hw1⟩ : ∃ w1, (w.alloc (Obj.cells #[.int .i64 x.epoch, .int .i64 x.next, .slice a1 x.conns.length c1, .slice a2 x.queue.length c2] 25)).alloc (Obj.cells #[.int .i64 q.client, .string q.tag, .string q.query, .string q.pointer] 27) = w1 := ⟨_, rfl⟩
  have HB1 : Hid (Below w.heap.size w w1) := by rw [← hw1]; exact ((Below.refl w.heap.size w).alloc (Nat.le_refl _) _).alloc (by simp) _
  have HXP : Hid (Box w1 w.heap.size 25 #[.int .i64 x.epoch, .int .i64 x.next, .slice a1 x.conns.length c1, .slice a2 x.queue.length c2]) := by rw [← hw1]; exact (Box.new w _ _).alloc _
  have HXW : Hid (Box w1 (w.heap.size + 1) 27 #[.int .i64 q.client, .string q.tag, .string q.query, .string q.pointer]) := by
    have := Box.new (w.alloc (Obj.cells #[.int .i64 x.epoch, .int .i64 x.next, .slice a1 x.conns.length c1, .slice a2 x.queue.length c2] 25)) 27 #[.int .i64 q.client, .string q.tag, .string q.query, .string q.pointer]
    rw [hw1, Deep.nblk_alloc] at this
    exact this
  have KS : Hid (∀ X, Below w1.heap.size w1 X → (X.cell? ⟨w.heap.size, 0, none⟩ = some (.int .i64 x.epoch) ∧ X.cell? ⟨w.heap.size, 1, none⟩ = some (.int .i64 x.next) ∧ X.cell? ⟨w.heap.size, 2, none⟩ = some (.slice a1 x.conns.length c1) ∧ X.cell? ⟨w.heap.size, 3, none⟩ = some (.slice a2 x.queue.length c2)) ∧ (X.cell? ⟨w.heap.size + 1, 0, none⟩ = some (.int .i64 q.client) ∧ X.cell? ⟨w.heap.size + 1, 1, none⟩ = some (.string q.tag) ∧ X.cell? ⟨w.heap.size + 1, 2, none⟩ = some (.string q.query) ∧ X.cell? ⟨w.heap.size + 1, 3, none⟩ = some (.string q.pointer))) := fun X hX => by
    have h2 := HXW.out.below hX
    exact ⟨(HXP.out.below hX).pool.1, h2.cell 0 (by simp), h2.cell 1 (by simp), h2.cell 2 (by simp), h2.cell 3 (by simp)⟩
  have KS4 : Hid (∀ X, Below w1.heap.size w1 X → ∀ b, w1.heap.size ≤ b → ∀ x0 x1 x2 x3 Y, ((((X.setCell ⟨b, 0, none⟩ x0).setCell ⟨b, 1, none⟩ x1).setCell ⟨b, 2, none⟩ x2).setCell ⟨b, 3, none⟩ x3) = Y → (Y.cell? ⟨w.heap.size, 0, none⟩ = some (.int .i64 x.epoch) ∧ Y.cell? ⟨w.heap.size, 1, none⟩ = some (.int .i64 x.next) ∧ Y.cell? ⟨w.heap.size, 2, none⟩ = some (.slice a1 x.conns.length c1) ∧ Y.cell? ⟨w.heap.size, 3, none⟩ = some (.slice a2 x.queue.length c2)) ∧ (Y.cell? ⟨w.heap.size + 1, 0, none⟩ = some (.int .i64 q.client) ∧ Y.cell? ⟨w.heap.size + 1, 1, none⟩ = some (.string q.tag) ∧ Y.cell? ⟨w.heap.size + 1, 2, none⟩ = some (.string q.query) ∧ Y.cell? ⟨w.heap.size + 1, 3, none⟩ = some (.string q.pointer))) := fun X hX b hb x0 x1 x2 x3 Y hY => KS.out Y (by rw [← hY]; exact hX.trans ((fill_only X b x0 x1 x2 x3).below hX.size fun d hd => by simp at hd; omega))
  have HPW : Hid (∀ X, Below w1.heap.size w1 X → PlAt lo X x (.slice a1 x.conns.length c1) (.slice a2 x.queue.length c2)) := fun X hX => hp.below (bjoin hX HB1.out)
  have HIT : Hid (∀ X, Below w1.heap.size w1 X → Ito X.heap.size X) := fun X hX => hI.up (bjoin hX HB1.out)
  have HZW := hide hz
  clear hp hI hz
  obtain ⟨⟨p0, p1, p2, p3⟩, q0, q1, q2, q3⟩ := KS.out w1 (Below.refl _ _)
  by_cases hsz : ¬ ((plSz x : Nat) : Int) ≤ 1048576
  · rw [rest_no hsz] at HSZ
    clear hsz
    go_enter Tryd.func3, Tryd.ntmps3
    go_wp2_with fail
    refine (HSZ.out _ (HPW.out _ (Below.refl _ _))).mono ?_
    rintro en W1 ⟨rfl, hb1⟩
    have HBW1 := hide (bjoin hb1 HB1.out)
    clear hb1
    go_wp2_with fail
    go_ret
    exact ⟨rfl, HBW1.out⟩
  have hsz := Decidable.not_not.1 hsz
  rw [rest_yes hsz] at HSZ
  have hn1 : x.conns.length ≤ 1048576 := by have : x.conns.length ≤ plSz x := by unfold plSz cnsSz lenSum; omega
                                            omega
  have hn2 : x.queue.length ≤ 1048576 := by have : x.queue.length ≤ plSz x := by unfold plSz wnsSz lenSum; omega
                                            omega
  have HTO := hide (fun W (h : PlAt lo W x (.slice a1 x.conns.length c1) (.slice a2 x.queue.length c2)) => toPl_any x _ _ W h.1 h.2 hn1 hn2)
  unfold plV at HTO
  obtain ⟨left, hleft⟩ : ∃ left : Int, 1048576 - (plSz x : Int) = left := ⟨_, rfl⟩
  rw [hleft] at HSZ
  have hl0 : 0 ≤ left := by omega
  have hl1 : left ≤ 1048576 := by omega
  have hlneg : ¬ left < 0 := by omega
  clear hsz hleft
  by_cases hsw : ¬ ((wnSz q : Nat) : Int) ≤ left
  · have HSW1 := hide (fun W => HSW.out left W hl0 hl1)
    rw [rest_no hsw] at HSW1
    clear hsw
    go_enter Tryd.func3, Tryd.ntmps3
    go_wp2_with fail
    refine (HSZ.out _ (HPW.out _ (Below.refl _ _))).mono ?_
    rintro en W1 ⟨rfl, hb1⟩
    obtain ⟨⟨p0, p1, p2, p3⟩, q0, q1, q2, q3⟩ := KS.out W1 hb1
    have HBW1 := hide hb1
    clear hb1
    go_wp2_with fail
    refine (HSW1.out _).mono ?_
    rintro en W2 ⟨rfl, hb2⟩
    have HBW2 := hide (bjoin (bjoin hb2 HBW1.out) HB1.out)
    clear hb2
    go_wp2_with fail
    go_ret
    exact ⟨rfl, HBW2.out⟩
  have HSW1 := hide (fun W => HSW.out left W hl0 hl1)
  have hsw := Decidable.not_not.1 hsw
  rw [rest_yes hsw] at HSW1
  obtain ⟨left2, hleft2⟩ : ∃ left2 : Int, left - (wnSz q : Int) = left2 := ⟨_, rfl⟩
  rw [hleft2] at HSW1
  have hlneg2 : ¬ left2 < 0 := by omega
  clear hsw hleft2 HSW
  -- what is called
  have HTW := hide (fun W => toWn_any q W)
  have HSP := hide (fun W cv qv (h : PlAt 0 W x cv qv) => askS_any x cv qv q now W h HZW.out)
  have HIM := hide (fun W cv qv (h : PlAt 0 W x cv qv) (hI : Ito W.heap.size W) => askI_any x cv qv q now W h HZW.out hI)
  have hlen := askP_len x q now
  unfold AskPost at HSP
  unfold AskI at HIM
  generalize askP x q now = A at HSP HIM hlen
  obtain ⟨R1, R2, C2⟩ := A
  simp only at HSP HIM hlen
  unfold plV wnV at HSP HIM
  unfold wnV at HTW
  have HEQ := hide (fun (y : Pl) (cv qv cv2 qv2 : Value) (W : World) (h1 : PlAt 0 W y cv qv) (h2 : PlAt 0 W y cv2 qv2) => eqPl_any y cv qv cv2 qv2 W h1.1 h1.2 h2.1 h2.2)
  have HES := hide (fun (v u : Value) (W : World) (h1 : StsAt 0 W v R2) (h2 : StsAt 0 W u R2) => eqSts_any R2 v u W h1 h2)
  have HMX := hide (fun (cv qv : Value) (b1 b2 : List Nat) (lo : Nat) (W : World) (h : PlO lo W x cv qv b1 b2) => markPl_any x cv qv _ _ _ _ b1 b2 1 W (by omega) (by omega) h.1 h.2.1 h.2.2.1)
  unfold plV at HEQ HMX
  obtain ⟨K0, hK0⟩ : ∃ K0 : Nat, 1 + x.conns.length * 7 + x.queue.length * 4 = K0 := ⟨_, rfl⟩
  rw [hK0] at HMX
  have hK0p : ¬ (K0 : Int) < 0 := by omega
  clear hn1 hn2 hK0
  obtain ⟨hl4, hl17, hls⟩ := hlen
  have HMK := hide (fun (cv qv : Value) (b1 b2 : List Nat) (lo : Nat) (W : World) (h : PlO lo W R1 cv qv b1 b2) => markPl_any R1 cv qv _ _ _ _ b1 b2 1 W (by omega) (by omega) h.1 h.2.1 h.2.2.1)
  have HHD := hide (fun (cv qv : Value) (b1 b2 : List Nat) (W : World) (h1 : RowC W cv R1.conns.length 7 (mvConn 1) b1) (h2 : RowC W qv R1.queue.length 4 (mvWant (1 + R1.conns.length * 7)) b2) => heldPl_any R1 cv qv _ _ b1 b2 1 W (by omega) (by omega) h1 h2)
  unfold plV at HMK HHD
  obtain ⟨K1, hK1⟩ : ∃ K1 : Nat, 1 + R1.conns.length * 7 + R1.queue.length * 4 = K1 := ⟨_, rfl⟩
  rw [hK1] at HMK HHD
  have hK1a : 1 ≤ K1 := by omega
  have hK1b : K1 ≤ 1000 := by omega
  have HMS := hide (fun (v : Value) (f : Nat → Value) (b : List Nat) (W : World) (h : RowC W v R2.length 6 f b) => markSents_any R2.length v f b K1 W hK1a (by omega) h)
  have HHS := hide (fun (v : Value) (b : List Nat) (W : World) (h : RowC W v R2.length 6 (mvSent K1) b) => heldSents_any R2.length v b K1 W hK1a (by omega) h)
  obtain ⟨K2, hK2⟩ : ∃ K2 : Nat, K1 + R2.length * 6 = K2 := ⟨_, rfl⟩
  rw [hK2] at HMS HHS
  have hK1p : ¬ (K1 : Int) < 0 := by omega
  have hK2p : ¬ (K2 : Int) < 0 := by omega
  clear hK1 hK2 hK1a hK1b hl4 hl17 hls hl0 hl1
  go_enter Tryd.func3, Tryd.ntmps3
  go_wp2_with fail
  refine (HSZ.out _ (HPW.out _ (Below.refl _ _))).mono ?_
  rintro en W1 ⟨rfl, hb1⟩
  obtain ⟨⟨p0, p1, p2, p3⟩, q0, q1, q2, q3⟩ := KS.out W1 hb1
  have HBW1 := hide hb1
  clear hb1
  go_wp2_with fail
  refine (HSW1.out _).mono ?_
  rintro en W2 ⟨rfl, hb2⟩
  have hD0 : Below w1.heap.size w1 W2.drew := (bjoin hb2 HBW1.out).drew
  obtain ⟨D2, hwd2⟩ : ∃ D2, W2.drew = D2 := ⟨_, rfl⟩
  have hD : Below w1.heap.size w1 D2 := by rw [← hwd2]; exact hD0
  clear hb2 p0 p1 p2 p3 q0 q1 q2 q3
  go_wp2_with fail
  -- the specification's answer
  go_cut [8, 9, 10] (fun s8 s9 s10 wx => ∃ B cv8 qv8 sv8, s8 = .pointer (some ⟨B, 0, none⟩) ∧ s9 = sv8 ∧ s10 = .int .i64 C2 ∧ SpecHeld w1.heap.size R1 R2 w1 B cv8 qv8 sv8 wx)
  case first =>
    go_region_held3 (fun X : World => (X.cell? ⟨w.heap.size, 0, none⟩ = some (.int .i64 x.epoch) ∧ X.cell? ⟨w.heap.size, 1, none⟩ = some (.int .i64 x.next) ∧ X.cell? ⟨w.heap.size, 2, none⟩ = some (.slice a1 x.conns.length c1) ∧ X.cell? ⟨w.heap.size, 3, none⟩ = some (.slice a2 x.queue.length c2)) ∧ (X.cell? ⟨w.heap.size + 1, 0, none⟩ = some (.int .i64 q.client) ∧ X.cell? ⟨w.heap.size + 1, 1, none⟩ = some (.string q.tag) ∧ X.cell? ⟨w.heap.size + 1, 2, none⟩ = some (.string q.query) ∧ X.cell? ⟨w.heap.size + 1, 3, none⟩ = some (.string q.pointer)))
      (first | with_reducible exact KS.out _ hD0 | with_reducible exact KS.out _ hD | with_reducible exact KS.out _ (hD.alloc hD.size _) | with_reducible exact KS.out _ hB3 | with_reducible exact KS.out _ (hB3.alloc hB3.size _) | with_reducible exact KS.out _ hB4 | with_reducible exact KS.out _ (hB4.alloc hB4.size _) | with_reducible exact KS.out _ hB5 | with_reducible exact KS.out _ (hB5.alloc hB5.size _) | with_reducible exact KS4.out _ hB5 _ hD.size _ _ _ _ _ rfl | with_reducible exact KS4.out _ hB5 _ hB3.size _ _ _ _ _ rfl | with_reducible exact KS4.out _ hB5 _ hB4.size _ _ _ _ _ rfl)
      (first
        | (go_at_call 10; refine (HTO.out _ (by first | with_reducible exact HPW.out _ hD | with_reducible exact HPW.out _ (hD.alloc hD.size _))).mono ?_; rintro e W3 ⟨cv3, qv3, b31, b32, rfl, hpo3, hbr3⟩; obtain ⟨⟨a3, c3, e3⟩, a4, c4, e4⟩ := hpo3.at.form; subst e3 e4; have hp3 := hpo3.at0; have hB3 : Below w1.heap.size w1 W3 := (by first | with_reducible exact bjoin hbr3 hD | with_reducible exact bjoin hbr3 (hD.alloc hD.size _)))
        | (go_at_call 11; refine (HTW.out _).mono ?_; rintro e W4 ⟨rfl, hbr4⟩; have hB4 : Below w1.heap.size w1 W4 := (by first | with_reducible exact bjoin hbr4 hB3 | with_reducible exact bjoin hbr4 (hB3.alloc hB3.size _)); have hp4 : PlAt 0 W4 x (.slice a3 x.conns.length c3) (.slice a4 x.queue.length c4) := (by first | with_reducible exact hp3.below hbr4 | with_reducible exact (hp3.below ((Below.refl _ _).alloc (Nat.le_refl _) _)).below hbr4))
        | (go_at_call 9; refine (HSP.out _ _ _ (by first | with_reducible exact hp4 | with_reducible exact hp4.below ((Below.refl _ _).alloc (Nat.le_refl _) _))).mono ?_; rintro e W5 ⟨cv5, qv5, sv5, rfl, hp5, hs5, hbr5⟩; obtain ⟨⟨a5, c5, e5⟩, a6, c6, e6⟩ := hp5.form; subst e5 e6; have hB5 : Below w1.heap.size w1 W5 := (by first | with_reducible exact bjoin hbr5 hB4 | with_reducible exact bjoin hbr5 (hB4.alloc hB4.size _)); first | (refine box4 ((((Box.new _ _ _).below hbr3).below hbr4).below hbr5) ?_; rintro hbz ⟨⟨z0, z1, z2, z3⟩, f0, f1, f2, f3⟩) | (refine box4 (((Box.new _ _ _).below hbr4).below hbr5) ?_; rintro hbz ⟨⟨z0, z1, z2, z3⟩, f0, f1, f2, f3⟩) | (refine box4 ((Box.new _ _ _).below hbr5) ?_; rintro hbz ⟨⟨z0, z1, z2, z3⟩, f0, f1, f2, f3⟩) | skip))
    all_goals
      go_wp2_with fail
      go_meet
      case rel => first
        | with_reducible exact ⟨_, _, _, _, rfl, rfl, rfl, SpecHeld.late hp5 hs5 hB5 (Nat.le_refl _)⟩
        | with_reducible exact ⟨_, _, _, _, rfl, rfl, rfl, SpecHeld.early hbz hp5 hs5 hB5 (Nat.le_refl _) hD.size⟩
        | with_reducible exact ⟨_, _, _, _, rfl, rfl, rfl, SpecHeld.early hbz hp5 hs5 hB5 (Nat.le_refl _) hB3.size⟩
        | with_reducible exact ⟨_, _, _, _, rfl, rfl, rfl, SpecHeld.early hbz hp5 hs5 hB5 (Nat.le_refl _) hB4.size⟩
  case rest =>
    obtain ⟨X8, rfl⟩ : ∃ X8, X8 = wc := ⟨_, rfl⟩
    obtain ⟨B8, cv8, qv8, sv8, rfl, rfl, rfl, hsh⟩ := hcut
    obtain ⟨hbx8, hpl8, hst8, hbl8, hB8⟩ := hsh
    obtain ⟨⟨a8, c8, e8⟩, a9, c9, e9⟩ := hpl8.form
    obtain ⟨a10, c10, e10, _⟩ := hst8.form
    subst e8 e9 e10
    have K8 : Hid (∀ X, Below X8.heap.size X8 X → (X.cell? ⟨B8, 0, none⟩ = some (.int .i64 R1.epoch) ∧ X.cell? ⟨B8, 1, none⟩ = some (.int .i64 R1.next) ∧ X.cell? ⟨B8, 2, none⟩ = some (.slice a8 R1.conns.length c8) ∧ X.cell? ⟨B8, 3, none⟩ = some (.slice a9 R1.queue.length c9)) ∧ PlAt 0 X R1 (.slice a8 R1.conns.length c8) (.slice a9 R1.queue.length c9) ∧ StsAt 0 X (.slice a10 R2.length c10) R2) := fun X hX => ⟨(hbx8.below hX).pool.1, hpl8.below hX, At.kept kept_flat hst8 hX⟩
    have HBL8 := hide hbl8
    obtain ⟨⟨p0, p1, p2, p3⟩, q0, q1, q2, q3⟩ := KS.out X8 hbl8
    clear hbx8 hpl8 hst8 hbl8 hD0 hD hwd2
    go_wp2_with fail
    refine (HTO.out _ (HPW.out _ HBL8.out)).mono ?_
    rintro en W9 ⟨cvx, qvx, bx1, bx2, rfl, hpx, hb9⟩
    obtain ⟨⟨ax, cx, ex⟩, ax2, cx2, ex2⟩ := hpx.at.form
    subst ex ex2
    obtain ⟨X9, hX9⟩ : ∃ X9, W9.alloc (Obj.cells #[.int .i64 x.epoch, .int .i64 x.next, .slice ax x.conns.length cx, .slice ax2 x.queue.length cx2] 33) = X9 := ⟨_, rfl⟩
    have hb9a : Below W9.heap.size W9 X9 := by rw [← hX9]; exact (Below.refl _ _).alloc (Nat.le_refl _) _
    have HBOX9 : Hid (Box X9 W9.heap.size 33 #[.int .i64 x.epoch, .int .i64 x.next, .slice ax x.conns.length cx, .slice ax2 x.queue.length cx2]) := by rw [← hX9]; exact Box.new _ _ _
    have HPX := hide (hpx.below hb9a)
    have HXLT : Hid (∀ d ∈ bx1 ++ bx2, X8.heap.size ≤ d ∧ d < W9.heap.size) := fun d hd => by
      rcases List.mem_append.1 hd with h | h
      · exact ⟨hpx.2.2.2.1 d h, RowC.lt hpx.1 d h⟩
      · exact ⟨hpx.2.2.2.2.1 d h, RowC.lt hpx.2.1 d h⟩
    have HB89 := hide (bjoin hb9a hb9)
    have HB9 := hide (bj2 HB89.out HBL8.out (Nat.le_refl _))
    have HW9 := hide hb9a.size
    have K9 : Hid (∀ X, Below X9.heap.size X9 X → (X.cell? ⟨W9.heap.size, 0, none⟩ = some (.int .i64 x.epoch) ∧ X.cell? ⟨W9.heap.size, 1, none⟩ = some (.int .i64 x.next) ∧ X.cell? ⟨W9.heap.size, 2, none⟩ = some (.slice ax x.conns.length cx) ∧ X.cell? ⟨W9.heap.size, 3, none⟩ = some (.slice ax2 x.queue.length cx2)) ∧ (X.cell? ⟨w.heap.size, 0, none⟩ = some (.int .i64 x.epoch) ∧ X.cell? ⟨w.heap.size, 1, none⟩ = some (.int .i64 x.next) ∧ X.cell? ⟨w.heap.size, 2, none⟩ = some (.slice a1 x.conns.length c1) ∧ X.cell? ⟨w.heap.size, 3, none⟩ = some (.slice a2 x.queue.length c2)) ∧ (X.cell? ⟨w.heap.size + 1, 0, none⟩ = some (.int .i64 q.client) ∧ X.cell? ⟨w.heap.size + 1, 1, none⟩ = some (.string q.tag) ∧ X.cell? ⟨w.heap.size + 1, 2, none⟩ = some (.string q.query) ∧ X.cell? ⟨w.heap.size + 1, 3, none⟩ = some (.string q.pointer))) := fun X hX => ⟨(HBOX9.out.below hX).pool.1, KS.out X (bj2 hX HB9.out (Nat.le_refl _))⟩
    have KT : Hid (∀ X, Below X9.heap.size X9 X → (X.cell? ⟨W9.heap.size, 0, none⟩ = some (.int .i64 x.epoch) ∧ X.cell? ⟨W9.heap.size, 1, none⟩ = some (.int .i64 x.next) ∧ X.cell? ⟨W9.heap.size, 2, none⟩ = some (.slice ax x.conns.length cx) ∧ X.cell? ⟨W9.heap.size, 3, none⟩ = some (.slice ax2 x.queue.length cx2)) ∧ (X.cell? ⟨w.heap.size + 1, 0, none⟩ = some (.int .i64 q.client) ∧ X.cell? ⟨w.heap.size + 1, 1, none⟩ = some (.string q.tag) ∧ X.cell? ⟨w.heap.size + 1, 2, none⟩ = some (.string q.query) ∧ X.cell? ⟨w.heap.size + 1, 3, none⟩ = some (.string q.pointer))) := fun X hX => ⟨(K9.out X hX).1, (K9.out X hX).2.2⟩
    have KT4 : Hid (∀ X, Below X9.heap.size X9 X → ∀ b, X9.heap.size ≤ b → ∀ x0 x1 x2 x3 Y, ((((X.setCell ⟨b, 0, none⟩ x0).setCell ⟨b, 1, none⟩ x1).setCell ⟨b, 2, none⟩ x2).setCell ⟨b, 3, none⟩ x3) = Y → (Y.cell? ⟨W9.heap.size, 0, none⟩ = some (.int .i64 x.epoch) ∧ Y.cell? ⟨W9.heap.size, 1, none⟩ = some (.int .i64 x.next) ∧ Y.cell? ⟨W9.heap.size, 2, none⟩ = some (.slice ax x.conns.length cx) ∧ Y.cell? ⟨W9.heap.size, 3, none⟩ = some (.slice ax2 x.queue.length cx2)) ∧ (Y.cell? ⟨w.heap.size + 1, 0, none⟩ = some (.int .i64 q.client) ∧ Y.cell? ⟨w.heap.size + 1, 1, none⟩ = some (.string q.tag) ∧ Y.cell? ⟨w.heap.size + 1, 2, none⟩ = some (.string q.query) ∧ Y.cell? ⟨w.heap.size + 1, 3, none⟩ = some (.string q.pointer))) := fun X hX b hb x0 x1 x2 x3 Y hY => KT.out Y (by rw [← hY]; exact hX.trans ((fill_only X b x0 x1 x2 x3).below hX.size fun d hd => by simp at hd; omega))
    have HPX9 : Hid (∀ X, Below X9.heap.size X9 X → PlAt 0 X x (.slice ax x.conns.length cx) (.slice ax2 x.queue.length cx2)) := fun X hX => HPX.out.at0.below hX
    have HIT9 : Hid (∀ X, Below X9.heap.size X9 X → Ito X.heap.size X) := fun X hX => HIT.out X (bj2 hX HB9.out (Nat.le_refl _))
    have hE0 : Below X9.heap.size X9 X9.drew := (Below.refl _ _).drew
    obtain ⟨D9, hwd9⟩ : ∃ D9, X9.drew = D9 := ⟨_, rfl⟩
    have hE : Below X9.heap.size X9 D9 := by rw [← hwd9]; exact hE0
    clear hpx hb9 hb9a p0 p1 p2 p3 q0 q1 q2 q3
    go_wp2_with fail
    -- the program's answer
    go_cut [12, 13, 14] (fun s12 s13 s14 wx => ∃ B cv qv sv, s12 = .pointer (some ⟨B, 0, none⟩) ∧ s13 = sv ∧ s14 = .int .i64 C2 ∧ ∃ b1 b2 b3, ImplHeld R1 R2 X9 B cv qv sv b1 b2 b3 wx)
    case first =>
      go_region_held3 (fun X : World => (X.cell? ⟨W9.heap.size, 0, none⟩ = some (.int .i64 x.epoch) ∧ X.cell? ⟨W9.heap.size, 1, none⟩ = some (.int .i64 x.next) ∧ X.cell? ⟨W9.heap.size, 2, none⟩ = some (.slice ax x.conns.length cx) ∧ X.cell? ⟨W9.heap.size, 3, none⟩ = some (.slice ax2 x.queue.length cx2)) ∧ (X.cell? ⟨w.heap.size + 1, 0, none⟩ = some (.int .i64 q.client) ∧ X.cell? ⟨w.heap.size + 1, 1, none⟩ = some (.string q.tag) ∧ X.cell? ⟨w.heap.size + 1, 2, none⟩ = some (.string q.query) ∧ X.cell? ⟨w.heap.size + 1, 3, none⟩ = some (.string q.pointer)))
        (first | with_reducible exact KT.out _ hE0 | with_reducible exact KT.out _ hE | with_reducible exact KT.out _ (hE.alloc hE.size _) | with_reducible exact KT.out _ hB10 | with_reducible exact KT.out _ (hB10.alloc hB10.size _) | with_reducible exact KT.out _ hB11 | with_reducible exact KT.out _ (hB11.alloc hB11.size _) | with_reducible exact KT4.out _ hB11 _ hE.size _ _ _ _ _ rfl | with_reducible exact KT4.out _ hB11 _ hB10.size _ _ _ _ _ rfl)
        (first
          | (go_at_call 11; refine (HTW.out _).mono ?_; rintro e W10 ⟨rfl, hbr10⟩; have hB10 : Below X9.heap.size X9 W10 := (by first | with_reducible exact bjoin hbr10 hE | with_reducible exact bjoin hbr10 (hE.alloc hE.size _)))
          | (go_at_call 12; refine (HIM.out _ _ _ (by first | with_reducible exact HPX9.out _ hB10 | with_reducible exact HPX9.out _ (hB10.alloc hB10.size _)) (by first | with_reducible exact HIT9.out _ hB10 | with_reducible exact HIT9.out _ (hB10.alloc hB10.size _))).mono ?_; rintro e W11 ⟨cvg, qvg, svg, rfl, hps⟩; obtain ⟨⟨ag, cg, eg⟩, ⟨ag2, cg2, eg2⟩, ⟨as3, cs3, es3⟩, hbr11⟩ := hps.form; subst eg eg2 es3; have hB11 : Below X9.heap.size X9 W11 := (by first | with_reducible exact bjoin hbr11 hB10 | with_reducible exact bjoin hbr11 (hB10.alloc hB10.size _)); first | (refine box4 (((Box.new _ _ _).below hbr10).below hbr11) ?_; rintro hbz ⟨⟨z0, z1, z2, z3⟩, f0, f1, f2, f3⟩) | (refine box4 ((Box.new _ _ _).below hbr11) ?_; rintro hbz ⟨⟨z0, z1, z2, z3⟩, f0, f1, f2, f3⟩) | skip))
      all_goals
        go_wp2_with fail
        go_meet
        case rel => first
          | with_reducible exact ⟨_, _, _, _, rfl, rfl, rfl, ImplHeld.late hps hB10⟩
          | with_reducible exact ⟨_, _, _, _, rfl, rfl, rfl, ImplHeld.early hbz hps (hB10.alloc hB10.size _) hB10.size (by rw [Deep.nblk_alloc]; omega)⟩
          | with_reducible exact ⟨_, _, _, _, rfl, rfl, rfl, ImplHeld.early hbz hps hB10 hE.size (by have := hbr10.size; rw [Deep.nblk_alloc] at this; omega)⟩
    case rest =>
      obtain ⟨X10, rfl⟩ : ∃ X10, X10 = wc := ⟨_, rfl⟩
      obtain ⟨B12, cvg, qvg, svg, rfl, rfl, rfl, b1, b2, b3, him⟩ := hcut
      obtain ⟨⟨ag, cg, eg⟩, ag2, cg2, eg2⟩ := him.2.1.at.form
      obtain ⟨ag3, cg3, eg3⟩ := RowC.form him.2.2.1
      subst eg eg2 eg3
      have HG : Hid (∀ Y, X10.heap.size ≤ Y.heap.size → (∀ d, X9.heap.size ≤ d → d < X10.heap.size → Y.heap[d]? = X10.heap[d]?) → (Y.cell? ⟨B12, 0, none⟩ = some (.int .i64 R1.epoch) ∧ Y.cell? ⟨B12, 1, none⟩ = some (.int .i64 R1.next) ∧ Y.cell? ⟨B12, 2, none⟩ = some (.slice ag R1.conns.length cg) ∧ Y.cell? ⟨B12, 3, none⟩ = some (.slice ag2 R1.queue.length cg2)) ∧ PlO X9.heap.size Y R1 (.slice ag R1.conns.length cg) (.slice ag2 R1.queue.length cg2) b1 b2 ∧ FO stC 6 Y (.slice ag3 R2.length cg3) R2 b3 ∧ StsAt 0 Y (.slice ag3 R2.length cg3) R2) := fun Y h1 h2 => by
        obtain ⟨k1, k2⟩ := him.keep h1 h2 (.inr trivial)
        exact ⟨k1.pool.1, k2⟩
      have HGB : Hid (∀ Y, Below X10.heap.size X10 Y → (Y.cell? ⟨B12, 0, none⟩ = some (.int .i64 R1.epoch) ∧ Y.cell? ⟨B12, 1, none⟩ = some (.int .i64 R1.next) ∧ Y.cell? ⟨B12, 2, none⟩ = some (.slice ag R1.conns.length cg) ∧ Y.cell? ⟨B12, 3, none⟩ = some (.slice ag2 R1.queue.length cg2)) ∧ PlO X9.heap.size Y R1 (.slice ag R1.conns.length cg) (.slice ag2 R1.queue.length cg2) b1 b2 ∧ FO stC 6 Y (.slice ag3 R2.length cg3) R2 b3 ∧ StsAt 0 Y (.slice ag3 R2.length cg3) R2) := fun Y h => HG.out Y h.size fun d _ hd => h.block d hd
      have HDJ : Hid ((∀ d ∈ b3, d ∉ b1 ∧ d ∉ b2) ∧ B12 ∉ b1 ∧ B12 ∉ b2 ∧ B12 ∉ b3 ∧ (∀ d ∈ b1 ++ b2 ++ b3, X9.heap.size ≤ d)) := ⟨fun d h => (him.2.2.2.2.1 d h).2, him.2.2.2.2.2.2.2.1, him.2.2.2.2.2.2.2.2.1, him.2.2.2.2.2.2.2.2.2, fun d hd => by
        rcases List.mem_append.1 hd with h | h
        · rcases List.mem_append.1 h with h | h
          · exact him.2.1.2.2.2.1 d h
          · exact him.2.1.2.2.2.2.1 d h
        · exact (him.2.2.2.2.1 d h).1⟩
      have HB910 := hide him.2.2.2.2.2.1
      have HBOX12 := hide him.1
      have HB12lo := hide him.2.2.2.2.2.2.1
      have HB810 := hide (bjoin HB910.out HB89.out)
      obtain ⟨⟨g0, g1, g2, g3⟩, hgp, hgf, hgs⟩ := HGB.out X10 (Below.refl _ _)
      obtain ⟨⟨r0, r1, r2, r3⟩, hrp, hrs⟩ := K8.out X10 HB810.out
      have HA := hide (And.intro hgp.at0 hrp)
      clear him hgp hgf hgs hrp hrs hE0 hE hwd9
      go_wp2_with fail
      refine (HEQ.out R1 _ _ _ _ _ HA.out.1 HA.out.2).mono ?_
      rintro en W12 ⟨rfl, hb12⟩
      have HB12 := hide hb12
      clear hb12 g0 g1 g2 g3 r0 r1 r2 r3
      go_wp2_with fail
      refine (HES.out _ _ _ (HGB.out W12 HB12.out).2.2.2 (K8.out W12 (bj2 HB12.out HB810.out (Nat.le_refl _))).2.2).mono ?_
      rintro en W13 ⟨rfl, hb13⟩
      have HB13 := hide (bjoin hb13 HB12.out)
      have KY : Hid (∀ X, Below X9.heap.size X9 X → (X.cell? ⟨W9.heap.size, 0, none⟩ = some (.int .i64 x.epoch) ∧ X.cell? ⟨W9.heap.size, 1, none⟩ = some (.int .i64 x.next) ∧ X.cell? ⟨W9.heap.size, 2, none⟩ = some (.slice ax x.conns.length cx) ∧ X.cell? ⟨W9.heap.size, 3, none⟩ = some (.slice ax2 x.queue.length cx2)) ∧ (X.cell? ⟨w.heap.size, 0, none⟩ = some (.int .i64 x.epoch) ∧ X.cell? ⟨w.heap.size, 1, none⟩ = some (.int .i64 x.next) ∧ X.cell? ⟨w.heap.size, 2, none⟩ = some (.slice a1 x.conns.length c1) ∧ X.cell? ⟨w.heap.size, 3, none⟩ = some (.slice a2 x.queue.length c2))) := fun X hX => ⟨(K9.out X hX).1, (K9.out X hX).2.1⟩
      have hF0 : Below X9.heap.size X9 W13.drew := (bj2 HB13.out HB910.out (Nat.le_refl _)).drew
      obtain ⟨D13, hwd13⟩ : ∃ D13, W13.drew = D13 := ⟨_, rfl⟩
      have hF : Below X9.heap.size X9 D13 := by rw [← hwd13]; exact hF0
      have hFX : Below X10.heap.size X10 D13 := by rw [← hwd13]; exact HB13.out.drew
      clear hb13
      go_wp2_with fail
      go_region_held3 (fun X : World => (X.cell? ⟨W9.heap.size, 0, none⟩ = some (.int .i64 x.epoch) ∧ X.cell? ⟨W9.heap.size, 1, none⟩ = some (.int .i64 x.next) ∧ X.cell? ⟨W9.heap.size, 2, none⟩ = some (.slice ax x.conns.length cx) ∧ X.cell? ⟨W9.heap.size, 3, none⟩ = some (.slice ax2 x.queue.length cx2)) ∧ (X.cell? ⟨w.heap.size, 0, none⟩ = some (.int .i64 x.epoch) ∧ X.cell? ⟨w.heap.size, 1, none⟩ = some (.int .i64 x.next) ∧ X.cell? ⟨w.heap.size, 2, none⟩ = some (.slice a1 x.conns.length c1) ∧ X.cell? ⟨w.heap.size, 3, none⟩ = some (.slice a2 x.queue.length c2)))
        (first | with_reducible exact KY.out _ hF0 | with_reducible exact KY.out _ hF | with_reducible exact KY.out _ hB14 | with_reducible exact KY.out _ hB15)
        (first
          | (go_at_call 10; refine (HTO.out _ (HPW.out _ (bj2 hF HB9.out (Nat.le_refl _)))).mono ?_; rintro e W14 ⟨cvt, qvt, bt1, bt2, rfl, hpt, hbr14⟩; obtain ⟨⟨a14, c14, e14⟩, a15, c15, e15⟩ := hpt.at.form; subst e14 e15; have hB14 : Below X9.heap.size X9 W14 := bjoin hbr14 hF)
          | (go_at_call 13; refine (HEQ.out x _ _ _ _ _ (HPX9.out _ hB14) hpt.at0).mono ?_; rintro e W15 ⟨rfl, hbr15⟩; have hB15 : Below X9.heap.size X9 W15 := bjoin hbr15 hB14))
      obtain ⟨⟨p0, p1, p2, p3⟩, _⟩ := KY.out W15 hB15
      have HB15 := hide hB15
      have HBX15 := hide (bjoin (bjoin hbr15 hbr14) hFX)
      clear hB15 hbr15 hbr14 hB14 hpt hF hF0 hFX hwd13
      go_wp2_with fail
      refine (HMX.out _ _ _ _ _ _ (HPX.out.below HB15.out)).mono ?_
      rintro en M1 ⟨rfl, hO1, _, _⟩
      have HM1 : Hid (X10.heap.size ≤ M1.heap.size ∧ ∀ d, X9.heap.size ≤ d → d < X10.heap.size → M1.heap[d]? = X10.heap[d]?) := ⟨Nat.le_trans HBX15.out.size hO1.size, fun d h1 h2 => (hO1.block d (by have := HBX15.out.size; omega) (fun h => by have := (HXLT.out d h).2; have := HW9.out; omega)).trans (HBX15.out.block d h2)⟩
      have HBM1 : Hid (Below X8.heap.size X8 M1) := (bj2 HB15.out HB89.out (Nat.le_refl _)).trans (hO1.below (bj2 HB15.out HB89.out (Nat.le_refl _)).size fun d hd => (HXLT.out d hd).1)
      have HGM : Hid (∀ Y, Below M1.heap.size M1 Y → (Y.cell? ⟨B12, 0, none⟩ = some (.int .i64 R1.epoch) ∧ Y.cell? ⟨B12, 1, none⟩ = some (.int .i64 R1.next) ∧ Y.cell? ⟨B12, 2, none⟩ = some (.slice ag R1.conns.length cg) ∧ Y.cell? ⟨B12, 3, none⟩ = some (.slice ag2 R1.queue.length cg2)) ∧ PlO X9.heap.size Y R1 (.slice ag R1.conns.length cg) (.slice ag2 R1.queue.length cg2) b1 b2 ∧ FO stC 6 Y (.slice ag3 R2.length cg3) R2 b3 ∧ StsAt 0 Y (.slice ag3 R2.length cg3) R2) := fun Y h => HG.out Y (Nat.le_trans HM1.out.1 h.size) fun d h1 h2 => (h.block d (by have := HM1.out.1; omega)).trans (HM1.out.2 d h1 h2)
      have HBOXM : Hid (Box M1 B12 33 #[.int .i64 R1.epoch, .int .i64 R1.next, .slice ag R1.conns.length cg, .slice ag2 R1.queue.length cg2]) := HBOX12.out.keep (HM1.out.2 B12 HB12lo.out HBOX12.out.lt)
      obtain ⟨⟨g0, g1, g2, g3⟩, hgp, hgf, hgs⟩ := HGM.out M1 (Below.refl _ _)
      obtain ⟨⟨r0, r1, r2, r3⟩, hrp, hrs⟩ := K8.out M1 HBM1.out
      have HA2 := hide (And.intro hgp.at0 hrp)
      clear hO1 p0 p1 p2 p3 hgp hgf hgs hrp hrs
      go_wp2_with fail
      refine (HEQ.out R1 _ _ _ _ _ HA2.out.1 HA2.out.2).mono ?_
      rintro en M2 ⟨rfl, hb2⟩
      have HM2 := hide hb2
      clear hb2 g0 g1 g2 g3 r0 r1 r2 r3
      go_wp2_with fail
      refine (HES.out _ _ _ (HGM.out M2 HM2.out).2.2.2 (K8.out M2 (bj2 HM2.out HBM1.out (by have := HBM1.out.size; omega))).2.2).mono ?_
      rintro en M3 ⟨rfl, hb3⟩
      have HM3 := hide (bjoin hb3 HM2.out)
      obtain ⟨⟨g0, g1, g2, g3⟩, hgp, hgf, _⟩ := HGM.out M3 HM3.out
      have HP3 := hide (And.intro hgp hgf)
      have HBOX3 := hide (HBOXM.out.below HM3.out)
      clear hb3 hgp hgf
      go_wp2_with fail
      refine (HMK.out _ _ _ _ _ _ HP3.out.1).mono ?_
      rintro en M4 ⟨rfl, hO4, hR1, hR2⟩
      have HS4 : Hid (FO stC 6 M4 (.slice ag3 R2.length cg3) R2 b3) := RowC.kept HP3.out.2 hO4.size fun d hd => hO4.block d (RowC.lt HP3.out.2 d hd) fun h => by
        rcases List.mem_append.1 h with h | h
        · exact (HDJ.out.1 d hd).1 h
        · exact (HDJ.out.1 d hd).2 h
      have HBOX4 := hide (HBOX3.out.only hO4 fun h => by
        rcases List.mem_append.1 h with h | h
        · exact HDJ.out.2.1 h
        · exact HDJ.out.2.2.1 h)
      have HR12 := hide (And.intro hR1 hR2)
      have HO4 := hide hO4
      clear hO4 hR1 hR2 g0 g1 g2 g3
      go_wp2_with fail
      refine (HMS.out _ _ _ _ HS4.out).mono ?_
      rintro en M5 ⟨rfl, hO5, hR3⟩
      have HBOX5 := hide (HBOX4.out.only hO5 HDJ.out.2.2.2.1)
      obtain ⟨⟨g0, g1, g2, g3⟩, _⟩ := HBOX5.out.pool
      have HR5 := hide (And.intro (RowC.kept HR12.out.1 hO5.size fun d hd => hO5.block d (RowC.lt HR12.out.1 d hd) fun h => (HDJ.out.1 d h).1 hd) (And.intro (RowC.kept HR12.out.2 hO5.size fun d hd => hO5.block d (RowC.lt HR12.out.2 d hd) fun h => (HDJ.out.1 d h).2 hd) hR3))
      have HB85 : Hid (Below X8.heap.size X8 M5) := by
        have hs8 : X8.heap.size ≤ X9.heap.size := HB89.out.size
        have c3 := bj2 HM3.out HBM1.out (by have := HBM1.out.size; omega)
        have c4 := c3.trans (HO4.out.below c3.size fun d hd => by have := HDJ.out.2.2.2.2 d (List.mem_append.2 (.inl hd)); omega)
        exact c4.trans (hO5.below c4.size fun d hd => by have := HDJ.out.2.2.2.2 d (List.mem_append.2 (.inr hd)); omega)
      clear hO5 hR3
      go_wp2_with fail
      refine (HHD.out _ _ _ _ _ HR5.out.1 HR5.out.2.1).mono ?_
      rintro en M6 ⟨rfl, hb6⟩
      have HM6 := hide hb6
      clear hb6 g0 g1 g2 g3
      go_wp2_with fail
      refine (HHS.out _ _ _ (RowC.below HR5.out.2.2 HM6.out)).mono ?_
      rintro en M7 ⟨rfl, hb7⟩
      have HB87 := hide (bj2 (bjoin hb7 HM6.out) HB85.out (by have := HB85.out.size; omega))
      have KS8 : Hid (∀ X, Below X8.heap.size X8 X → (X.cell? ⟨w.heap.size, 0, none⟩ = some (.int .i64 x.epoch) ∧ X.cell? ⟨w.heap.size, 1, none⟩ = some (.int .i64 x.next) ∧ X.cell? ⟨w.heap.size, 2, none⟩ = some (.slice a1 x.conns.length c1) ∧ X.cell? ⟨w.heap.size, 3, none⟩ = some (.slice a2 x.queue.length c2)) ∧ (X.cell? ⟨w.heap.size + 1, 0, none⟩ = some (.int .i64 q.client) ∧ X.cell? ⟨w.heap.size + 1, 1, none⟩ = some (.string q.tag) ∧ X.cell? ⟨w.heap.size + 1, 2, none⟩ = some (.string q.query) ∧ X.cell? ⟨w.heap.size + 1, 3, none⟩ = some (.string q.pointer))) := fun X hX => KS.out X (bj2 hX HBL8.out (Nat.le_refl _))
      have KS84 : Hid (∀ X, Below X8.heap.size X8 X → ∀ b, X8.heap.size ≤ b → ∀ x0 x1 x2 x3 Y, ((((X.setCell ⟨b, 0, none⟩ x0).setCell ⟨b, 1, none⟩ x1).setCell ⟨b, 2, none⟩ x2).setCell ⟨b, 3, none⟩ x3) = Y → (Y.cell? ⟨w.heap.size, 0, none⟩ = some (.int .i64 x.epoch) ∧ Y.cell? ⟨w.heap.size, 1, none⟩ = some (.int .i64 x.next) ∧ Y.cell? ⟨w.heap.size, 2, none⟩ = some (.slice a1 x.conns.length c1) ∧ Y.cell? ⟨w.heap.size, 3, none⟩ = some (.slice a2 x.queue.length c2)) ∧ (Y.cell? ⟨w.heap.size + 1, 0, none⟩ = some (.int .i64 q.client) ∧ Y.cell? ⟨w.heap.size + 1, 1, none⟩ = some (.string q.tag) ∧ Y.cell? ⟨w.heap.size + 1, 2, none⟩ = some (.string q.query) ∧ Y.cell? ⟨w.heap.size + 1, 3, none⟩ = some (.string q.pointer))) := fun X hX b hb x0 x1 x2 x3 Y hY => KS8.out Y (by rw [← hY]; exact hX.trans ((fill_only X b x0 x1 x2 x3).below hX.size fun d hd => by simp at hd; omega))
      have HPW8 : Hid (∀ X, Below X8.heap.size X8 X → PlAt lo X x (.slice a1 x.conns.length c1) (.slice a2 x.queue.length c2)) := fun X hX => HPW.out X (bj2 hX HBL8.out (Nat.le_refl _))
      have HIT8 : Hid (∀ X, Below X8.heap.size X8 X → Ito X.heap.size X) := fun X hX => HIT.out X (bj2 hX HBL8.out (Nat.le_refl _))
      have hD0 : Below X8.heap.size X8 M7.drew := HB87.out.drew
      obtain ⟨D7, hwd7⟩ : ∃ D7, M7.drew = D7 := ⟨_, rfl⟩
      have hD : Below X8.heap.size X8 D7 := by rw [← hwd7]; exact hD0
      clear hb7
      go_wp2_with fail
      -- once more
      go_cut [18, 19, 20] (fun s18 s19 s20 wx => ∃ B cv8 qv8 sv8, s18 = .pointer (some ⟨B, 0, none⟩) ∧ s19 = sv8 ∧ s20 = .int .i64 C2 ∧ SpecHeld X8.heap.size R1 R2 X8 B cv8 qv8 sv8 wx)
      case first =>
        go_region_held3 (fun X : World => (X.cell? ⟨w.heap.size, 0, none⟩ = some (.int .i64 x.epoch) ∧ X.cell? ⟨w.heap.size, 1, none⟩ = some (.int .i64 x.next) ∧ X.cell? ⟨w.heap.size, 2, none⟩ = some (.slice a1 x.conns.length c1) ∧ X.cell? ⟨w.heap.size, 3, none⟩ = some (.slice a2 x.queue.length c2)) ∧ (X.cell? ⟨w.heap.size + 1, 0, none⟩ = some (.int .i64 q.client) ∧ X.cell? ⟨w.heap.size + 1, 1, none⟩ = some (.string q.tag) ∧ X.cell? ⟨w.heap.size + 1, 2, none⟩ = some (.string q.query) ∧ X.cell? ⟨w.heap.size + 1, 3, none⟩ = some (.string q.pointer)))
          (first | with_reducible exact KS8.out _ hD0 | with_reducible exact KS8.out _ hD | with_reducible exact KS8.out _ (hD.alloc hD.size _) | with_reducible exact KS8.out _ hB3 | with_reducible exact KS8.out _ (hB3.alloc hB3.size _) | with_reducible exact KS8.out _ hB4 | with_reducible exact KS8.out _ (hB4.alloc hB4.size _) | with_reducible exact KS8.out _ hB5 | with_reducible exact KS8.out _ (hB5.alloc hB5.size _) | with_reducible exact KS84.out _ hB5 _ hD.size _ _ _ _ _ rfl | with_reducible exact KS84.out _ hB5 _ hB3.size _ _ _ _ _ rfl | with_reducible exact KS84.out _ hB5 _ hB4.size _ _ _ _ _ rfl)
          (first
            | (go_at_call 10; refine (HTO.out _ (by first | with_reducible exact HPW8.out _ hD | with_reducible exact HPW8.out _ (hD.alloc hD.size _))).mono ?_; rintro e W3 ⟨cv3, qv3, b31, b32, rfl, hpo3, hbr3⟩; obtain ⟨⟨a3, c3, e3⟩, a4, c4, e4⟩ := hpo3.at.form; subst e3 e4; have hp3 := hpo3.at0; have hB3 : Below X8.heap.size X8 W3 := (by first | with_reducible exact bjoin hbr3 hD | with_reducible exact bjoin hbr3 (hD.alloc hD.size _)))
            | (go_at_call 11; refine (HTW.out _).mono ?_; rintro e W4 ⟨rfl, hbr4⟩; have hB4 : Below X8.heap.size X8 W4 := (by first | with_reducible exact bjoin hbr4 hB3 | with_reducible exact bjoin hbr4 (hB3.alloc hB3.size _)); have hp4 : PlAt 0 W4 x (.slice a3 x.conns.length c3) (.slice a4 x.queue.length c4) := (by first | with_reducible exact hp3.below hbr4 | with_reducible exact (hp3.below ((Below.refl _ _).alloc (Nat.le_refl _) _)).below hbr4))
            | (go_at_call 12; refine (HIM.out _ _ _ (by first | with_reducible exact hp4 | with_reducible exact hp4.below ((Below.refl _ _).alloc (Nat.le_refl _) _)) (by first | with_reducible exact HIT8.out _ hB4 | with_reducible exact HIT8.out _ (hB4.alloc hB4.size _))).mono ?_; rintro e W5 ⟨cv5, qv5, sv5, rfl, hps⟩; obtain ⟨⟨a5, c5, e5⟩, ⟨a6, c6, e6⟩, ⟨a7, c7, e7⟩, hbr5⟩ := hps.form; subst e5 e6 e7; have hp5 := hps.at0.1; have hs5 := hps.at0.2; have hB5 : Below X8.heap.size X8 W5 := (by first | with_reducible exact bjoin hbr5 hB4 | with_reducible exact bjoin hbr5 (hB4.alloc hB4.size _)); first | (refine box4 ((((Box.new _ _ _).below hbr3).below hbr4).below hbr5) ?_; rintro hbz ⟨⟨z0, z1, z2, z3⟩, f0, f1, f2, f3⟩) | (refine box4 (((Box.new _ _ _).below hbr4).below hbr5) ?_; rintro hbz ⟨⟨z0, z1, z2, z3⟩, f0, f1, f2, f3⟩) | (refine box4 ((Box.new _ _ _).below hbr5) ?_; rintro hbz ⟨⟨z0, z1, z2, z3⟩, f0, f1, f2, f3⟩) | skip))
        all_goals
          go_wp2_with fail
          go_meet
          case rel => first
            | with_reducible exact ⟨_, _, _, _, rfl, rfl, rfl, SpecHeld.late hp5 hs5 hB5 (Nat.le_refl _)⟩
            | with_reducible exact ⟨_, _, _, _, rfl, rfl, rfl, SpecHeld.early hbz hp5 hs5 hB5 (Nat.le_refl _) hD.size⟩
            | with_reducible exact ⟨_, _, _, _, rfl, rfl, rfl, SpecHeld.early hbz hp5 hs5 hB5 (Nat.le_refl _) hB3.size⟩
            | with_reducible exact ⟨_, _, _, _, rfl, rfl, rfl, SpecHeld.early hbz hp5 hs5 hB5 (Nat.le_refl _) hB4.size⟩
      case rest =>
        obtain ⟨X18, rfl⟩ : ∃ X18, X18 = wc := ⟨_, rfl⟩
        obtain ⟨B18, cvh, qvh, svh, rfl, rfl, rfl, hsh⟩ := hcut
        obtain ⟨hbxh, hplh, hsth, hblh, hBh⟩ := hsh
        obtain ⟨⟨ah, ch, eh⟩, ah2, ch2, eh2⟩ := hplh.form
        obtain ⟨ah3, ch3, eh3, _⟩ := hsth.form
        subst eh eh2 eh3
        obtain ⟨⟨g0, g1, g2, g3⟩, _⟩ := hbxh.pool
        obtain ⟨⟨r0, r1, r2, r3⟩, hrp, hrs⟩ := K8.out X18 hblh
        have HA3 := hide (And.intro hplh hrp)
        have HST := hide hsth
        have HBH := hide hblh
        clear hbxh hplh hsth hblh hrp hrs hD0 hD hwd7
        go_wp2_with fail
        refine (HEQ.out R1 _ _ _ _ _ HA3.out.1 HA3.out.2).mono ?_
        rintro en M8 ⟨rfl, hb8⟩
        have HM8 := hide hb8
        clear hb8 g0 g1 g2 g3 r0 r1 r2 r3
        go_wp2_with fail
        refine (HES.out _ _ _ (At.kept kept_flat HST.out HM8.out) (K8.out M8 (bj2 HM8.out HBH.out (by have := HBH.out.size; omega))).2.2).mono ?_
        rintro en M9 ⟨rfl, hb9⟩
        have HEND := hide (bjoin (bj2 (bj2 (bjoin hb9 HM8.out) HBH.out (by have := HBH.out.size; omega)) HBL8.out (Nat.le_refl _)) HB1.out)
        clear hb9
        go_wp2_with fail
        go_ret
        exact ⟨rfl, HEND.out⟩
end Go.Proofs.YtfeccdhadgpnkaaDoor.Msg
