import Derived.Test.YtfeccdhadgpnkaaDoorLawKitwithDeskRel
import Derived.Test.YtfeccdhadgpnkaaDoorDelFn5withFgtI
import Derived.Test.YtfeccdhadgpnkaaDoorMarkInt
namespace Go.Proofs.YtfeccdhadgpnkaaDoor.Msg
open Go.ChangeShapes Go.WideShapes Go.ChangeAt Go.RowKit
set_option linter.unusedVariables false
set_option linter.unusedSimpArgs false

theorem fgP_len (x : Pl) (cl : Int) (tg : ByteArray) (now : Int) : (fgP x cl tg now).1.conns.length ≤ 4 ∧ (fgP x cl tg now).1.queue.length ≤ 17 ∧ (fgP x cl tg now).2.1.length ≤ 17 ∧ (fgP x cl tg now).2.2.length ≤ 4 := by
  unfold fgP
  split
  · rename_i h
    obtain ⟨g1, g2, g3, g4, g5, g6, g7⟩ := okPl_head_of h.1.1
    have hw := fgN_len cl tg x.conns
    have hq := fgQ_len cl tg x.queue
    have hs := served (fgD cl tg ⟨x.epoch, x.next, now, x.conns, freeIdx x.conns, fgQ cl tg x.queue, []⟩ x.conns.length) (fgD_serves cl tg now h.1.1) rfl
    have e : serveA now ⟨x.epoch, x.next, x.conns.map (fgC cl tg), fgQ cl tg x.queue⟩ = serveA (fgD cl tg ⟨x.epoch, x.next, now, x.conns, freeIdx x.conns, fgQ cl tg x.queue, []⟩ x.conns.length).now ⟨(fgD cl tg ⟨x.epoch, x.next, now, x.conns, freeIdx x.conns, fgQ cl tg x.queue, []⟩ x.conns.length).epoch, (fgD cl tg ⟨x.epoch, x.next, now, x.conns, freeIdx x.conns, fgQ cl tg x.queue, []⟩ x.conns.length).next, (fgD cl tg ⟨x.epoch, x.next, now, x.conns, freeIdx x.conns, fgQ cl tg x.queue, []⟩ x.conns.length).conns, (fgD cl tg ⟨x.epoch, x.next, now, x.conns, freeIdx x.conns, fgQ cl tg x.queue, []⟩ x.conns.length).queue⟩ := by
      rw [(fgD_all cl tg ⟨x.epoch, x.next, now, x.conns, freeIdx x.conns, fgQ cl tg x.queue, []⟩).1]
      rfl
    rw [e, hs]
    obtain ⟨i2, i3, i4⟩ := serveD_len (fgD cl tg ⟨x.epoch, x.next, now, x.conns, freeIdx x.conns, fgQ cl tg x.queue, []⟩ x.conns.length).queue.length (fgD cl tg ⟨x.epoch, x.next, now, x.conns, freeIdx x.conns, fgQ cl tg x.queue, []⟩ x.conns.length)
    have j1 := fgD_len cl tg ⟨x.epoch, x.next, now, x.conns, freeIdx x.conns, fgQ cl tg x.queue, []⟩ x.conns.length
    have j2 : (fgD cl tg ⟨x.epoch, x.next, now, x.conns, freeIdx x.conns, fgQ cl tg x.queue, []⟩ x.conns.length).queue.length = (fgQ cl tg x.queue).length := rfl
    have j3 : (fgD cl tg ⟨x.epoch, x.next, now, x.conns, freeIdx x.conns, fgQ cl tg x.queue, []⟩ x.conns.length).sent.length = 0 := rfl
    rw [j1] at i2
    rw [j3] at i4
    rw [j2] at i2 i3 i4 ⊢
    simp only at i2 i3 i4 ⊢
    omega
  · simp [pl0]

set_option maxRecDepth 100000 in
set_option maxHeartbeats 8000000 in
theorem lawFgt (x : Pl) (cv qv : Value) (cl : Int) (tg : ByteArray) (now : Int) (w : World) {lo : Nat} (hp : PlAt lo w x cv qv) (htl : tg.size ≤ 9223372036854775807) (hI : Ito w.heap.size w) :
    Calls Tryd.prog 6 #[plV x cv qv , .int .i64 cl, .string tg, .int .i64 now] w fun en w' => en = .returned (.bool true) ∧ Below w.heap.size w w' := by
  obtain ⟨⟨a1, c1, e1⟩, a2, c2, e2⟩ := hp.form
  subst e1 e2
  have HSZ := hide (fun W (h : PlAt lo W x (.slice a1 x.conns.length c1) (.slice a2 x.queue.length c2)) => szPl_any x _ _ 1048576 W (by omega) (by omega) h.1 h.2)
  unfold plV at HSZ
  show Calls Tryd.prog 6 #[.agg #[.int .i64 x.epoch, .int .i64 x.next, .slice a1 x.conns.length c1, .slice a2 x.queue.length c2] , .int .i64 cl, .string tg, .int .i64 now] w _
  obtain ⟨w1, hw1⟩ : ∃ w1, w.alloc (Obj.cells #[.int .i64 x.epoch, .int .i64 x.next, .slice a1 x.conns.length c1, .slice a2 x.queue.length c2] 25) = w1 := ⟨_, rfl⟩
  have HB1 : Hid (Below w.heap.size w w1) := by rw [← hw1]; exact (Below.refl w.heap.size w).alloc (Nat.le_refl _) _
  have HXP : Hid (Box w1 w.heap.size 25 #[.int .i64 x.epoch, .int .i64 x.next, .slice a1 x.conns.length c1, .slice a2 x.queue.length c2]) := by rw [← hw1]; exact Box.new w _ _
  have KS : Hid (∀ X, Below w1.heap.size w1 X → (X.cell? ⟨w.heap.size, 0, none⟩ = some (.int .i64 x.epoch) ∧ X.cell? ⟨w.heap.size, 1, none⟩ = some (.int .i64 x.next) ∧ X.cell? ⟨w.heap.size, 2, none⟩ = some (.slice a1 x.conns.length c1) ∧ X.cell? ⟨w.heap.size, 3, none⟩ = some (.slice a2 x.queue.length c2))) := fun X hX => (HXP.out.below hX).pool.1
  have HPW : Hid (∀ X, Below w1.heap.size w1 X → PlAt lo X x (.slice a1 x.conns.length c1) (.slice a2 x.queue.length c2)) := fun X hX => hp.below (bjoin hX HB1.out)
  have HIT : Hid (∀ X, Below w1.heap.size w1 X → Ito X.heap.size X) := fun X hX => hI.up (bjoin hX HB1.out)
  clear hp hI
  obtain ⟨p0, p1, p2, p3⟩ := KS.out w1 (Below.refl _ _)
  by_cases htg : ¬ (tg.size : Int) ≤ 1048576
  · clear HSZ
    go_enter Tryd.func6, Tryd.ntmps6
    go_wp2_with fail
    go_ret
    exact ⟨rfl, HB1.out⟩
  have htg := Decidable.not_not.1 htg
  have htg2 : ¬ 1048576 < (tg.size : Int) := by omega
  by_cases hsz : ¬ ((plSz x : Nat) : Int) ≤ 1048576
  · rw [rest_no hsz] at HSZ
    clear hsz
    go_enter Tryd.func6, Tryd.ntmps6
    go_wp2_with fail
    refine (HSZ.out _ (HPW.out _ (Below.refl _ _))).mono ?_
    rintro en W1 ⟨rfl, hb1⟩
    have HBW1 := hide (bjoin hb1 HB1.out)
    clear hb1
    go_wp2_with fail
    go_ret
    exact ⟨rfl, HBW1.out⟩
  have hsz := Decidable.not_not.1 hsz
  rw [rest_yes hsz] at HSZ
  have hn1 : x.conns.length ≤ 1048576 := by have : x.conns.length ≤ plSz x := by unfold plSz cnsSz lenSum; omega
                                            omega
  have hn2 : x.queue.length ≤ 1048576 := by have : x.queue.length ≤ plSz x := by unfold plSz wnsSz lenSum; omega
                                            omega
  have HTO := hide (fun W (h : PlAt lo W x (.slice a1 x.conns.length c1) (.slice a2 x.queue.length c2)) => toPl_any x _ _ W h.1 h.2 hn1 hn2)
  unfold plV at HTO
  obtain ⟨left, hleft⟩ : ∃ left : Int, 1048576 - (plSz x : Int) = left := ⟨_, rfl⟩
  rw [hleft] at HSZ
  have hlneg : ¬ left < 0 := by omega
  clear hsz hleft
  have HSP := hide (fun W cv qv (h : PlAt 0 W x cv qv) => fgtS_any x cv qv cl tg now W h htl)
  have HIM := hide (fun W cv qv (h : PlAt 0 W x cv qv) (hI : Ito W.heap.size W) => fgtI_any x cv qv cl tg now W h htl hI)
  have hlen := fgP_len x cl tg now
  unfold FgtSP at HSP
  unfold FgtI at HIM
  generalize fgP x cl tg now = A at HSP HIM hlen
  obtain ⟨R1, R2, R3⟩ := A
  simp only at HSP HIM hlen
  unfold plV at HSP HIM
  have HEQ := hide (fun (y : Pl) (cv qv cv2 qv2 : Value) (W : World) (h1 : PlAt 0 W y cv qv) (h2 : PlAt 0 W y cv2 qv2) => eqPl_any y cv qv cv2 qv2 W h1.1 h1.2 h2.1 h2.2)
  have HES := hide (fun (v u : Value) (W : World) (h1 : StsAt 0 W v R2) (h2 : StsAt 0 W u R2) => eqSts_any R2 v u W h1 h2)
  have HEW := hide (fun (v u : Value) (W : World) (h1 : InsAt 0 W v R3) (h2 : InsAt 0 W u R3) => eqIns_any R3 v u W h1 h2)
  have HMX := hide (fun (cv qv : Value) (b1 b2 : List Nat) (lo : Nat) (W : World) (h : PlO lo W x cv qv b1 b2) => markPl_any x cv qv _ _ _ _ b1 b2 1 W (by omega) (by omega) h.1 h.2.1 h.2.2.1)
  unfold plV at HEQ HMX
  obtain ⟨K0, hK0⟩ : ∃ K0 : Nat, 1 + x.conns.length * 7 + x.queue.length * 4 = K0 := ⟨_, rfl⟩
  rw [hK0] at HMX
  have hK0p : ¬ (K0 : Int) < 0 := by omega
  clear hn1 hn2 hK0
  obtain ⟨hl4, hl17, hls, hlw⟩ := hlen
  have HMK := hide (fun (cv qv : Value) (b1 b2 : List Nat) (lo : Nat) (W : World) (h : PlO lo W R1 cv qv b1 b2) => markPl_any R1 cv qv _ _ _ _ b1 b2 1 W (by omega) (by omega) h.1 h.2.1 h.2.2.1)
  have HHD := hide (fun (cv qv : Value) (b1 b2 : List Nat) (W : World) (h1 : RowC W cv R1.conns.length 7 (mvConn 1) b1) (h2 : RowC W qv R1.queue.length 4 (mvWant (1 + R1.conns.length * 7)) b2) => heldPl_any R1 cv qv _ _ b1 b2 1 W (by omega) (by omega) h1 h2)
  unfold plV at HMK HHD
  obtain ⟨K1, hK1⟩ : ∃ K1 : Nat, 1 + R1.conns.length * 7 + R1.queue.length * 4 = K1 := ⟨_, rfl⟩
  rw [hK1] at HMK HHD
  have hK1a : 1 ≤ K1 := by omega
  have hK1b : K1 ≤ 1000 := by omega
  have HMS := hide (fun (v : Value) (f : Nat → Value) (b : List Nat) (W : World) (h : RowC W v R2.length 6 f b) => markSents_any R2.length v f b K1 W hK1a (by omega) h)
  have HHS := hide (fun (v : Value) (b : List Nat) (W : World) (h : RowC W v R2.length 6 (mvSent K1) b) => heldSents_any R2.length v b K1 W hK1a (by omega) h)
  obtain ⟨K2, hK2⟩ : ∃ K2 : Nat, K1 + R2.length * 6 = K2 := ⟨_, rfl⟩
  rw [hK2] at HMS HHS
  have hK2a : 1 ≤ K2 := by omega
  have hK2b : K2 ≤ 2000 := by omega
  have HMW := hide (fun (v : Value) (f : Nat → Value) (b : List Nat) (W : World) (h : RowC W v R3.length 1 f b) => markIns_any R3.length v f b K2 W hK2a (by omega) h)
  have HHW := hide (fun (v : Value) (b : List Nat) (W : World) (h : RowC W v R3.length 1 (mvInt K2) b) => heldIns_any R3.length v b K2 W hK2a (by omega) h)
  obtain ⟨K3, hK3⟩ : ∃ K3 : Nat, K2 + R3.length * 1 = K3 := ⟨_, rfl⟩
  rw [hK3] at HMW HHW
  have hK1p : ¬ (K1 : Int) < 0 := by omega
  have hK2p : ¬ (K2 : Int) < 0 := by omega
  have hK3p : ¬ (K3 : Int) < 0 := by omega
  clear hK1 hK2 hK3 hK1a hK1b hK2a hK2b hl4 hl17 hls hlw
  go_enter Tryd.func6, Tryd.ntmps6
  go_wp2_with fail
  refine (HSZ.out _ (HPW.out _ (Below.refl _ _))).mono ?_
  rintro en W1 ⟨rfl, hb1⟩
  obtain ⟨p0, p1, p2, p3⟩ := KS.out W1 hb1
  have HBW1 := hide hb1
  clear hb1
  go_wp2_with fail
  refine (HTO.out _ (HPW.out _ HBW1.out)).mono ?_
  rintro en W2 ⟨cv2, qv2, b21, b22, rfl, hpo2, hb2⟩
  obtain ⟨⟨a3, c3, e3⟩, a4, c4, e4⟩ := hpo2.at.form
  subst e3 e4
  have HP2 := hide hpo2.at0
  have HBW2 := hide (bjoin hb2 HBW1.out)
  clear hpo2 hb2
  go_wp2_with fail
  refine (HSP.out _ _ _ HP2.out).mono ?_
  rintro en W3 ⟨cv8, qv8, sv8, lv8, rfl, hpl8, hst8, hlw8, hb3⟩
  obtain ⟨⟨a8, c8, e8⟩, a9, c9, e9⟩ := hpl8.form
  obtain ⟨a10, c10, e10, _⟩ := hst8.form
  obtain ⟨a11, c11, e11, _⟩ := hlw8.form
  subst e8 e9 e10 e11
  obtain ⟨X3, hX3⟩ : ∃ X3, W3.alloc (Obj.cells #[.int .i64 R1.epoch, .int .i64 R1.next, .slice a8 R1.conns.length c8, .slice a9 R1.queue.length c9] 33) = X3 := ⟨_, rfl⟩
  have hb3a : Below W3.heap.size W3 X3 := by rw [← hX3]; exact (Below.refl _ _).alloc (Nat.le_refl _) _
  have hbx3 : Box X3 W3.heap.size 33 #[.int .i64 R1.epoch, .int .i64 R1.next, .slice a8 R1.conns.length c8, .slice a9 R1.queue.length c9] := by rw [← hX3]; exact Box.new _ _ _
  have hpl3 := hpl8.below hb3a
  have hst3 : StsAt 0 X3 (.slice a10 R2.length c10) R2 := At.kept kept_flat hst8 hb3a
  have hlw3 : InsAt 0 X3 (.slice a11 R3.length c11) R3 := At.kept kept_flat hlw8 hb3a
  have K8 : Hid (∀ X, Below X3.heap.size X3 X → (X.cell? ⟨W3.heap.size, 0, none⟩ = some (.int .i64 R1.epoch) ∧ X.cell? ⟨W3.heap.size, 1, none⟩ = some (.int .i64 R1.next) ∧ X.cell? ⟨W3.heap.size, 2, none⟩ = some (.slice a8 R1.conns.length c8) ∧ X.cell? ⟨W3.heap.size, 3, none⟩ = some (.slice a9 R1.queue.length c9)) ∧ PlAt 0 X R1 (.slice a8 R1.conns.length c8) (.slice a9 R1.queue.length c9) ∧ StsAt 0 X (.slice a10 R2.length c10) R2 ∧ InsAt 0 X (.slice a11 R3.length c11) R3) := fun X hX => ⟨(hbx3.below hX).pool.1, hpl3.below hX, At.kept kept_flat hst3 hX, At.kept kept_flat hlw3 hX⟩
  have HB3 := hide (bjoin (bjoin hb3a hb3) HBW2.out)
  obtain ⟨p0, p1, p2, p3⟩ := KS.out X3 HB3.out
  clear hpl8 hst8 hlw8 hb3 hb3a hbx3 hpl3 hst3 hlw3
  go_wp2_with fail
  refine (HTO.out _ (HPW.out _ HB3.out)).mono ?_
  rintro en W4 ⟨cvx, qvx, bx1, bx2, rfl, hpx, hb4⟩
  obtain ⟨⟨ax, cx, ex⟩, ax2, cx2, ex2⟩ := hpx.at.form
  subst ex ex2
  obtain ⟨X4, hX4⟩ : ∃ X4, W4.alloc (Obj.cells #[.int .i64 x.epoch, .int .i64 x.next, .slice ax x.conns.length cx, .slice ax2 x.queue.length cx2] 33) = X4 := ⟨_, rfl⟩
  have hb4a : Below W4.heap.size W4 X4 := by rw [← hX4]; exact (Below.refl _ _).alloc (Nat.le_refl _) _
  have HBOX4 : Hid (Box X4 W4.heap.size 33 #[.int .i64 x.epoch, .int .i64 x.next, .slice ax x.conns.length cx, .slice ax2 x.queue.length cx2]) := by rw [← hX4]; exact Box.new _ _ _
  have HPX := hide (hpx.below hb4a)
  have HXLT : Hid (∀ d ∈ bx1 ++ bx2, X3.heap.size ≤ d ∧ d < W4.heap.size) := fun d hd => by
    rcases List.mem_append.1 hd with h | h
    · exact ⟨hpx.2.2.2.1 d h, RowC.lt hpx.1 d h⟩
    · exact ⟨hpx.2.2.2.2.1 d h, RowC.lt hpx.2.1 d h⟩
  have HB34 := hide (bjoin hb4a hb4)
  have HB4 := hide (bj2 HB34.out HB3.out (Nat.le_refl _))
  have HW4 := hide hb4a.size
  have K9 : Hid (∀ X, Below X4.heap.size X4 X → (X.cell? ⟨W4.heap.size, 0, none⟩ = some (.int .i64 x.epoch) ∧ X.cell? ⟨W4.heap.size, 1, none⟩ = some (.int .i64 x.next) ∧ X.cell? ⟨W4.heap.size, 2, none⟩ = some (.slice ax x.conns.length cx) ∧ X.cell? ⟨W4.heap.size, 3, none⟩ = some (.slice ax2 x.queue.length cx2)) ∧ (X.cell? ⟨w.heap.size, 0, none⟩ = some (.int .i64 x.epoch) ∧ X.cell? ⟨w.heap.size, 1, none⟩ = some (.int .i64 x.next) ∧ X.cell? ⟨w.heap.size, 2, none⟩ = some (.slice a1 x.conns.length c1) ∧ X.cell? ⟨w.heap.size, 3, none⟩ = some (.slice a2 x.queue.length c2))) := fun X hX => ⟨(HBOX4.out.below hX).pool.1, KS.out X (bj2 hX HB4.out (Nat.le_refl _))⟩
  have HPX4 : Hid (∀ X, Below X4.heap.size X4 X → PlAt 0 X x (.slice ax x.conns.length cx) (.slice ax2 x.queue.length cx2)) := fun X hX => HPX.out.at0.below hX
  obtain ⟨⟨q0, q1, q2, q3⟩, _⟩ := K9.out X4 (Below.refl _ _)
  clear hpx hb4 hb4a p0 p1 p2 p3
  go_wp2_with fail
  refine (HIM.out _ _ _ (HPX4.out _ (Below.refl _ _)) (HIT.out _ HB4.out)).mono ?_
  rintro en W5 ⟨cvg, qvg, svg, lvg, b1, b2, b3, b4, rfl, hpg, hsg, hzg, hdg, hlg, hdl, hb5⟩
  obtain ⟨⟨ag, cg, eg⟩, ag2, cg2, eg2⟩ := hpg.at.form
  obtain ⟨ag3, cg3, eg3⟩ := RowC.form hsg
  obtain ⟨ag4, cg4, eg4⟩ := RowC.form hlg
  subst eg eg2 eg3 eg4
  obtain ⟨X5, hX5⟩ : ∃ X5, W5.alloc (Obj.cells #[.int .i64 R1.epoch, .int .i64 R1.next, .slice ag R1.conns.length cg, .slice ag2 R1.queue.length cg2] 33) = X5 := ⟨_, rfl⟩
  have hb5a : Below W5.heap.size W5 X5 := by rw [← hX5]; exact (Below.refl _ _).alloc (Nat.le_refl _) _
  have HBOX5 : Hid (Box X5 W5.heap.size 33 #[.int .i64 R1.epoch, .int .i64 R1.next, .slice ag R1.conns.length cg, .slice ag2 R1.queue.length cg2]) := by rw [← hX5]; exact Box.new _ _ _
  have HPG := hide (hpg.below hb5a)
  have HSG : Hid (FO stC 6 X5 (.slice ag3 R2.length cg3) R2 b3) := RowC.below hsg hb5a
  have HLG : Hid (FO inC 1 X5 (.slice ag4 R3.length cg4) R3 b4) := RowC.below hlg hb5a
  have HZS : Hid (∀ i (h : i < R2.length), stZ R2[i]) := mem_all hzg
  have HLO : Hid (∀ d ∈ (b1 ++ b2) ++ (b3 ++ b4), X4.heap.size ≤ d ∧ d < W5.heap.size) := fun d hd => by
    rcases List.mem_append.1 hd with h | h
    · rcases List.mem_append.1 h with h | h
      · exact ⟨hpg.2.2.2.1 d h, RowC.lt hpg.1 d h⟩
      · exact ⟨hpg.2.2.2.2.1 d h, RowC.lt hpg.2.1 d h⟩
    · rcases List.mem_append.1 h with h | h
      · exact ⟨(hdg d h).1, RowC.lt hsg d h⟩
      · exact ⟨(hdl d h).1, RowC.lt hlg d h⟩
  have HDJ : Hid ((∀ d ∈ b3, d ∉ b1 ∧ d ∉ b2) ∧ ∀ d ∈ b4, d ∉ b1 ∧ d ∉ b2 ∧ d ∉ b3) := ⟨fun d h => (hdg d h).2, fun d h => (hdl d h).2⟩
  have HB45 := hide (bjoin hb5a hb5)
  have HB45lo := hide hb5.size
  have HG : Hid (∀ Y, X5.heap.size ≤ Y.heap.size → (∀ d, X4.heap.size ≤ d → d < X5.heap.size → Y.heap[d]? = X5.heap[d]?) → (Y.cell? ⟨W5.heap.size, 0, none⟩ = some (.int .i64 R1.epoch) ∧ Y.cell? ⟨W5.heap.size, 1, none⟩ = some (.int .i64 R1.next) ∧ Y.cell? ⟨W5.heap.size, 2, none⟩ = some (.slice ag R1.conns.length cg) ∧ Y.cell? ⟨W5.heap.size, 3, none⟩ = some (.slice ag2 R1.queue.length cg2)) ∧ PlO X4.heap.size Y R1 (.slice ag R1.conns.length cg) (.slice ag2 R1.queue.length cg2) b1 b2 ∧ FO stC 6 Y (.slice ag3 R2.length cg3) R2 b3 ∧ FO inC 1 Y (.slice ag4 R3.length cg4) R3 b4 ∧ StsAt 0 Y (.slice ag3 R2.length cg3) R2 ∧ InsAt 0 Y (.slice ag4 R3.length cg4) R3) := fun Y h1 h2 => by
    have hlt5 : W5.heap.size < X5.heap.size := HBOX5.out.lt
    have hk : ∀ d ∈ (b1 ++ b2) ++ (b3 ++ b4), Y.heap[d]? = X5.heap[d]? := fun d hd => h2 d (HLO.out d hd).1 (by have := (HLO.out d hd).2; omega)
    have k3 : FO stC 6 Y (.slice ag3 R2.length cg3) R2 b3 := RowC.kept HSG.out h1 fun d hd => hk d (by simp [hd])
    have k4 : FO inC 1 Y (.slice ag4 R3.length cg4) R3 b4 := RowC.kept HLG.out h1 fun d hd => hk d (by simp [hd])
    exact ⟨(HBOX5.out.keep (h2 W5.heap.size (by have := hb5.size; omega) hlt5)).pool.1, ⟨RowC.kept HPG.out.1 h1 fun d hd => hk d (by simp [hd]), RowC.kept HPG.out.2.1 h1 fun d hd => hk d (by simp [hd]), HPG.out.2.2⟩, k3, k4, FO.at stC_len k3 HZS.out (fun _ _ => Nat.zero_le _), FO.at inC_len k4 (fun _ _ => trivial) (fun _ _ => Nat.zero_le _)⟩
  have HGB : Hid (∀ Y, Below X5.heap.size X5 Y → (Y.cell? ⟨W5.heap.size, 0, none⟩ = some (.int .i64 R1.epoch) ∧ Y.cell? ⟨W5.heap.size, 1, none⟩ = some (.int .i64 R1.next) ∧ Y.cell? ⟨W5.heap.size, 2, none⟩ = some (.slice ag R1.conns.length cg) ∧ Y.cell? ⟨W5.heap.size, 3, none⟩ = some (.slice ag2 R1.queue.length cg2)) ∧ PlO X4.heap.size Y R1 (.slice ag R1.conns.length cg) (.slice ag2 R1.queue.length cg2) b1 b2 ∧ FO stC 6 Y (.slice ag3 R2.length cg3) R2 b3 ∧ FO inC 1 Y (.slice ag4 R3.length cg4) R3 b4 ∧ StsAt 0 Y (.slice ag3 R2.length cg3) R2 ∧ InsAt 0 Y (.slice ag4 R3.length cg4) R3) := fun Y h => HG.out Y h.size fun d _ hd => h.block d hd
  have HB35 := hide (bjoin HB45.out HB34.out)
  obtain ⟨⟨g0, g1, g2, g3⟩, hgp, _⟩ := HGB.out X5 (Below.refl _ _)
  obtain ⟨⟨r0, r1, r2, r3⟩, hrp, _⟩ := K8.out X5 HB35.out
  have HA := hide (And.intro hgp.at0 hrp)
  clear hpg hsg hzg hdg hlg hdl hb5 hb5a hgp hrp q0 q1 q2 q3
  go_wp2_with fail
  refine (HEQ.out R1 _ _ _ _ _ HA.out.1 HA.out.2).mono ?_
  rintro en W6 ⟨rfl, hb6⟩
  have HB6 := hide hb6
  clear hb6 g0 g1 g2 g3 r0 r1 r2 r3
  go_wp2_with fail
  refine (HES.out _ _ _ (HGB.out W6 HB6.out).2.2.2.2.1 (K8.out W6 (bj2 HB6.out HB35.out (Nat.le_refl _))).2.2.1).mono ?_
  rintro en W7 ⟨rfl, hb7⟩
  have HB7 := hide (bjoin hb7 HB6.out)
  clear hb7
  go_wp2_with fail
  refine (HEW.out _ _ _ (HGB.out W7 HB7.out).2.2.2.2.2 (K8.out W7 (bj2 HB7.out HB35.out (Nat.le_refl _))).2.2.2).mono ?_
  rintro en W8 ⟨rfl, hb8⟩
  have HB8 := hide (bjoin hb8 HB7.out)
  have hF0 : Below X4.heap.size X4 W8.drew := (bj2 HB8.out HB45.out (Nat.le_refl _)).drew
  obtain ⟨D8, hwd8⟩ : ∃ D8, W8.drew = D8 := ⟨_, rfl⟩
  have hF : Below X4.heap.size X4 D8 := by rw [← hwd8]; exact hF0
  have hFX : Below X5.heap.size X5 D8 := by rw [← hwd8]; exact HB8.out.drew
  clear hb8
  go_wp2_with fail
  go_region_held3 (fun X : World => (X.cell? ⟨W4.heap.size, 0, none⟩ = some (.int .i64 x.epoch) ∧ X.cell? ⟨W4.heap.size, 1, none⟩ = some (.int .i64 x.next) ∧ X.cell? ⟨W4.heap.size, 2, none⟩ = some (.slice ax x.conns.length cx) ∧ X.cell? ⟨W4.heap.size, 3, none⟩ = some (.slice ax2 x.queue.length cx2)) ∧ (X.cell? ⟨w.heap.size, 0, none⟩ = some (.int .i64 x.epoch) ∧ X.cell? ⟨w.heap.size, 1, none⟩ = some (.int .i64 x.next) ∧ X.cell? ⟨w.heap.size, 2, none⟩ = some (.slice a1 x.conns.length c1) ∧ X.cell? ⟨w.heap.size, 3, none⟩ = some (.slice a2 x.queue.length c2)))
    (first | with_reducible exact K9.out _ hF0 | with_reducible exact K9.out _ hF | with_reducible exact K9.out _ hB14 | with_reducible exact K9.out _ hB15)
    (first
      | (go_at_call 10; refine (HTO.out _ (HPW.out _ (bj2 hF HB4.out (Nat.le_refl _)))).mono ?_; rintro e W14 ⟨cvt, qvt, bt1, bt2, rfl, hpt, hbr14⟩; obtain ⟨⟨a14, c14, e14⟩, a15, c15, e15⟩ := hpt.at.form; subst e14 e15; have hB14 : Below X4.heap.size X4 W14 := bjoin hbr14 hF)
      | (go_at_call 13; refine (HEQ.out x _ _ _ _ _ (HPX4.out _ hB14) hpt.at0).mono ?_; rintro e W15 ⟨rfl, hbr15⟩; have hB15 : Below X4.heap.size X4 W15 := bjoin hbr15 hB14))
  obtain ⟨⟨p0, p1, p2, p3⟩, _⟩ := K9.out W15 hB15
  have HB15 := hide hB15
  have HBX15 := hide (bjoin (bjoin hbr15 hbr14) hFX)
  clear hB15 hbr15 hbr14 hB14 hpt hF hF0 hFX hwd8
  go_wp2_with fail
  refine (HMX.out _ _ _ _ _ _ (HPX.out.below HB15.out)).mono ?_
  rintro en M1 ⟨rfl, hO1, _, _⟩
  have HM1 : Hid (X5.heap.size ≤ M1.heap.size ∧ ∀ d, X4.heap.size ≤ d → d < X5.heap.size → M1.heap[d]? = X5.heap[d]?) := ⟨Nat.le_trans HBX15.out.size hO1.size, fun d h1 h2 => (hO1.block d (by have := HBX15.out.size; omega) (fun h => by have := (HXLT.out d h).2; have := HW4.out; omega)).trans (HBX15.out.block d h2)⟩
  have HBM1 : Hid (Below X3.heap.size X3 M1) := (bj2 HB15.out HB34.out (Nat.le_refl _)).trans (hO1.below (bj2 HB15.out HB34.out (Nat.le_refl _)).size fun d hd => (HXLT.out d hd).1)
  have HGM : Hid (∀ Y, Below M1.heap.size M1 Y → (Y.cell? ⟨W5.heap.size, 0, none⟩ = some (.int .i64 R1.epoch) ∧ Y.cell? ⟨W5.heap.size, 1, none⟩ = some (.int .i64 R1.next) ∧ Y.cell? ⟨W5.heap.size, 2, none⟩ = some (.slice ag R1.conns.length cg) ∧ Y.cell? ⟨W5.heap.size, 3, none⟩ = some (.slice ag2 R1.queue.length cg2)) ∧ PlO X4.heap.size Y R1 (.slice ag R1.conns.length cg) (.slice ag2 R1.queue.length cg2) b1 b2 ∧ FO stC 6 Y (.slice ag3 R2.length cg3) R2 b3 ∧ FO inC 1 Y (.slice ag4 R3.length cg4) R3 b4 ∧ StsAt 0 Y (.slice ag3 R2.length cg3) R2 ∧ InsAt 0 Y (.slice ag4 R3.length cg4) R3) := fun Y h => HG.out Y (Nat.le_trans HM1.out.1 h.size) fun d h1 h2 => (h.block d (by have := HM1.out.1; omega)).trans (HM1.out.2 d h1 h2)
  have HBOXM : Hid (Box M1 W5.heap.size 33 #[.int .i64 R1.epoch, .int .i64 R1.next, .slice ag R1.conns.length cg, .slice ag2 R1.queue.length cg2]) := HBOX5.out.keep (HM1.out.2 W5.heap.size HB45lo.out HBOX5.out.lt)
  obtain ⟨⟨g0, g1, g2, g3⟩, hgp, _⟩ := HGM.out M1 (Below.refl _ _)
  obtain ⟨⟨r0, r1, r2, r3⟩, hrp, _⟩ := K8.out M1 HBM1.out
  have HA2 := hide (And.intro hgp.at0 hrp)
  clear hO1 p0 p1 p2 p3 hgp hrp
  go_wp2_with fail
  refine (HEQ.out R1 _ _ _ _ _ HA2.out.1 HA2.out.2).mono ?_
  rintro en M2 ⟨rfl, hb2⟩
  have HM2 := hide hb2
  clear hb2 g0 g1 g2 g3 r0 r1 r2 r3
  go_wp2_with fail
  refine (HES.out _ _ _ (HGM.out M2 HM2.out).2.2.2.2.1 (K8.out M2 (bj2 HM2.out HBM1.out (by have := HBM1.out.size; omega))).2.2.1).mono ?_
  rintro en M3 ⟨rfl, hb3⟩
  have HM3 := hide (bjoin hb3 HM2.out)
  clear hb3
  go_wp2_with fail
  refine (HEW.out _ _ _ (HGM.out M3 HM3.out).2.2.2.2.2 (K8.out M3 (bj2 HM3.out HBM1.out (by have := HBM1.out.size; omega))).2.2.2).mono ?_
  rintro en M4 ⟨rfl, hb4⟩
  have HM4 := hide (bjoin hb4 HM3.out)
  obtain ⟨⟨g0, g1, g2, g3⟩, hgp, hgf, hgl, _⟩ := HGM.out M4 HM4.out
  have HP4 := hide (And.intro hgp (And.intro hgf hgl))
  have HBOX6 := hide (HBOXM.out.below HM4.out)
  clear hb4 hgp hgf hgl
  go_wp2_with fail
  refine (HMK.out _ _ _ _ _ _ HP4.out.1).mono ?_
  rintro en M5 ⟨rfl, hO5, hR1, hR2⟩
  have nO : ∀ d, d ∈ b3 ++ b4 → d ∉ b1 ++ b2 := fun d hd h => by
    rcases List.mem_append.1 hd with hd | hd <;> rcases List.mem_append.1 h with h | h
    · exact (HDJ.out.1 d hd).1 h
    · exact (HDJ.out.1 d hd).2 h
    · exact (HDJ.out.2 d hd).1 h
    · exact (HDJ.out.2 d hd).2.1 h
  have nB : ∀ bs : List Nat, (∀ d ∈ bs, d ∈ (b1 ++ b2) ++ (b3 ++ b4)) → W5.heap.size ∉ bs := fun bs h hm => by have := (HLO.out _ (h _ hm)).2; omega
  have HNB := hide nB
  have HS5 : Hid (FO stC 6 M5 (.slice ag3 R2.length cg3) R2 b3) := RowC.kept HP4.out.2.1 hO5.size fun d hd => hO5.block d (RowC.lt HP4.out.2.1 d hd) (nO d (by simp [hd]))
  have HL5 : Hid (FO inC 1 M5 (.slice ag4 R3.length cg4) R3 b4) := RowC.kept HP4.out.2.2 hO5.size fun d hd => hO5.block d (RowC.lt HP4.out.2.2 d hd) (nO d (by simp [hd]))
  have HBOX7 := hide (HBOX6.out.only hO5 (nB _ fun d hd => List.mem_append.2 (.inl hd)))
  have HR12 := hide (And.intro hR1 hR2)
  have HO5 := hide hO5
  clear hO5 hR1 hR2 g0 g1 g2 g3 nO nB
  go_wp2_with fail
  refine (HMS.out _ _ _ _ HS5.out).mono ?_
  rintro en M6 ⟨rfl, hO6, hR3⟩
  have HL6 : Hid (FO inC 1 M6 (.slice ag4 R3.length cg4) R3 b4) := RowC.kept HL5.out hO6.size fun d hd => hO6.block d (RowC.lt HL5.out d hd) (HDJ.out.2 d hd).2.2
  have HBOX8 := hide (HBOX7.out.only hO6 (HNB.out _ fun d hd => by simp [hd]))
  have HR6 := hide (And.intro (RowC.kept HR12.out.1 hO6.size fun d hd => hO6.block d (RowC.lt HR12.out.1 d hd) fun h => (HDJ.out.1 d h).1 hd) (And.intro (RowC.kept HR12.out.2 hO6.size fun d hd => hO6.block d (RowC.lt HR12.out.2 d hd) fun h => (HDJ.out.1 d h).2 hd) hR3))
  have HO6 := hide hO6
  clear hO6 hR3
  go_wp2_with fail
  refine (HMW.out _ _ _ _ HL6.out).mono ?_
  rintro en M7 ⟨rfl, hO7, hR4⟩
  have HBOX9 := hide (HBOX8.out.only hO7 (HNB.out _ fun d hd => by simp [hd]))
  obtain ⟨⟨g0, g1, g2, g3⟩, _⟩ := HBOX9.out.pool
  have HR7 := hide (And.intro (RowC.kept HR6.out.1 hO7.size fun d hd => hO7.block d (RowC.lt HR6.out.1 d hd) fun h => (HDJ.out.2 d h).1 hd) (And.intro (RowC.kept HR6.out.2.1 hO7.size fun d hd => hO7.block d (RowC.lt HR6.out.2.1 d hd) fun h => (HDJ.out.2 d h).2.1 hd) (And.intro (RowC.kept HR6.out.2.2 hO7.size fun d hd => hO7.block d (RowC.lt HR6.out.2.2 d hd) fun h => (HDJ.out.2 d h).2.2 hd) hR4)))
  have HB37 : Hid (Below X3.heap.size X3 M7) := by
    have hs8 : X3.heap.size ≤ X4.heap.size := HB34.out.size
    have c4 := bj2 HM4.out HBM1.out (by have := HBM1.out.size; omega)
    have c5 := c4.trans (HO5.out.below c4.size fun d hd => by have := (HLO.out d (List.mem_append.2 (.inl hd))).1; omega)
    have c6 := c5.trans (HO6.out.below c5.size fun d hd => by have := (HLO.out d (by simp [hd])).1; omega)
    exact c6.trans (hO7.below c6.size fun d hd => by have := (HLO.out d (by simp [hd])).1; omega)
  clear hO7 hR4
  go_wp2_with fail
  refine (HHD.out _ _ _ _ _ HR7.out.1 HR7.out.2.1).mono ?_
  rintro en M8 ⟨rfl, hb8⟩
  have HM8 := hide hb8
  clear hb8 g0 g1 g2 g3
  go_wp2_with fail
  refine (HHS.out _ _ _ (RowC.below HR7.out.2.2.1 HM8.out)).mono ?_
  rintro en M9 ⟨rfl, hb9⟩
  have HM9 := hide (bjoin hb9 HM8.out)
  clear hb9
  go_wp2_with fail
  refine (HHW.out _ _ _ (RowC.below HR7.out.2.2.2 HM9.out)).mono ?_
  rintro en M10 ⟨rfl, hb10⟩
  have HB310 := hide (bj2 (bjoin hb10 HM9.out) HB37.out (by have := HB37.out.size; omega))
  obtain ⟨p0, p1, p2, p3⟩ := KS.out M10 (bj2 HB310.out HB3.out (Nat.le_refl _))
  clear hb10
  go_wp2_with fail
  refine (HTO.out _ (HPW.out _ (bj2 HB310.out HB3.out (Nat.le_refl _)))).mono ?_
  rintro en M11 ⟨cv2, qv2, b21, b22, rfl, hpo2, hb11⟩
  obtain ⟨⟨a3, c3, e3⟩, a4, c4, e4⟩ := hpo2.at.form
  subst e3 e4
  have HP11 := hide hpo2.at0
  have HB311 := hide (bj2 hb11 HB310.out (by have := HB310.out.size; omega))
  clear hpo2 hb11 p0 p1 p2 p3
  go_wp2_with fail
  refine (HIM.out _ _ _ HP11.out (HIT.out _ (bj2 HB311.out HB3.out (Nat.le_refl _)))).mono ?_
  rintro en M12 ⟨cvh, qvh, svh, lvh, b1h, b2h, b3h, b4h, rfl, hph, hsh, hzh, _, hlh, _, hb12⟩
  obtain ⟨⟨ah, ch, eh⟩, ah2, ch2, eh2⟩ := hph.at.form
  obtain ⟨ah3, ch3, eh3⟩ := RowC.form hsh
  obtain ⟨ah4, ch4, eh4⟩ := RowC.form hlh
  subst eh eh2 eh3 eh4
  obtain ⟨X12, hX12⟩ : ∃ X12, M12.alloc (Obj.cells #[.int .i64 R1.epoch, .int .i64 R1.next, .slice ah R1.conns.length ch, .slice ah2 R1.queue.length ch2] 33) = X12 := ⟨_, rfl⟩
  have hb12a : Below M12.heap.size M12 X12 := by rw [← hX12]; exact (Below.refl _ _).alloc (Nat.le_refl _) _
  have hbx12 : Box X12 M12.heap.size 33 #[.int .i64 R1.epoch, .int .i64 R1.next, .slice ah R1.conns.length ch, .slice ah2 R1.queue.length ch2] := by rw [← hX12]; exact Box.new _ _ _
  obtain ⟨⟨g0, g1, g2, g3⟩, _⟩ := hbx12.pool
  have HB312 := hide (bj2 (bjoin hb12a hb12) HB311.out (by have := HB311.out.size; omega))
  obtain ⟨⟨r0, r1, r2, r3⟩, hrp, _⟩ := K8.out X12 HB312.out
  have HA3 := hide (And.intro (hph.at0.below hb12a) hrp)
  have HST : Hid (StsAt 0 X12 (.slice ah3 R2.length ch3) R2) := FO.at stC_len (RowC.below hsh hb12a) (mem_all hzh) (fun _ _ => Nat.zero_le _)
  have HLT : Hid (InsAt 0 X12 (.slice ah4 R3.length ch4) R3) := FO.at inC_len (RowC.below hlh hb12a) (fun _ _ => trivial) (fun _ _ => Nat.zero_le _)
  clear hph hsh hzh hlh hb12 hb12a hbx12 hrp
  go_wp2_with fail
  refine (HEQ.out R1 _ _ _ _ _ HA3.out.1 HA3.out.2).mono ?_
  rintro en M13 ⟨rfl, hb13⟩
  have HM13 := hide hb13
  clear hb13 g0 g1 g2 g3 r0 r1 r2 r3
  go_wp2_with fail
  refine (HES.out _ _ _ (At.kept kept_flat HST.out HM13.out) (K8.out M13 (bj2 HM13.out HB312.out (by have := HB312.out.size; omega))).2.2.1).mono ?_
  rintro en M14 ⟨rfl, hb14⟩
  have HM14 := hide (bjoin hb14 HM13.out)
  clear hb14
  go_wp2_with fail
  refine (HEW.out _ _ _ (At.kept kept_flat HLT.out HM14.out) (K8.out M14 (bj2 HM14.out HB312.out (by have := HB312.out.size; omega))).2.2.2).mono ?_
  rintro en M15 ⟨rfl, hb15⟩
  have HEND := hide (bjoin (bj2 (bj2 (bjoin hb15 HM14.out) HB312.out (by have := HB312.out.size; omega)) HB3.out (Nat.le_refl _)) HB1.out)
  clear hb15
  go_wp2_with fail
  go_ret
  exact ⟨rfl, HEND.out⟩
end Go.Proofs.YtfeccdhadgpnkaaDoor.Msg
