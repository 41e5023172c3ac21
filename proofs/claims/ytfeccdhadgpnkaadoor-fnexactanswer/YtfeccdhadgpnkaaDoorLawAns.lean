import Derived.Test.YtfeccdhadgpnkaaDoorLawKitwithDeskRel
import Derived.Test.YtfeccdhadgpnkaaDoorAnsI
import Derived.Test.YtfeccdhadgpnkaaDoorAnsS
namespace Go.Proofs.YtfeccdhadgpnkaaDoor.Msg
open Go.ChangeShapes Go.WideShapes Go.ChangeAt Go.RowKit
set_option linter.unusedVariables false
set_option linter.unusedSimpArgs false

theorem ansP_len (x : Pl) (conn : Int) (control tag : ByteArray) (now : Int) : (ansP x conn control tag now).1.conns.length ≤ 4 ∧ (ansP x conn control tag now).1.queue.length ≤ 17 ∧ (ansP x conn control tag now).2.1.length ≤ 17 := by
  by_cases h : okPl x = true ∧ nowB now = true
  · obtain ⟨g1, g2, g3, g4, g5, g6, g7⟩ := okPl_head_of h.1
    cases hh : hitN x.conns conn control tag with
    | none => rw [ansP_none h hh]; exact ⟨g6, by simp only; omega, by simp⟩
    | some k =>
      rw [ansP_some h hh]
      have hk : k < x.conns.length := by
        unfold hitN at hh
        split at hh
        · rename_i c hc
          split at hh
          · injection hh with hh
            rw [← hh]
            exact (List.getElem?_eq_some_iff.1 hc).1
          · cases hh
        · cases hh
      have hs := served (relD ⟨x.epoch, x.next, now, x.conns, freeIdx x.conns, x.queue, []⟩ k) (relD_serves now h.1 hk) rfl
      have e : serveA now ⟨x.epoch, x.next, x.conns.set k cn0, x.queue⟩ = serveA (relD ⟨x.epoch, x.next, now, x.conns, freeIdx x.conns, x.queue, []⟩ k).now ⟨(relD ⟨x.epoch, x.next, now, x.conns, freeIdx x.conns, x.queue, []⟩ k).epoch, (relD ⟨x.epoch, x.next, now, x.conns, freeIdx x.conns, x.queue, []⟩ k).next, (relD ⟨x.epoch, x.next, now, x.conns, freeIdx x.conns, x.queue, []⟩ k).conns, (relD ⟨x.epoch, x.next, now, x.conns, freeIdx x.conns, x.queue, []⟩ k).queue⟩ := rfl
      rw [e, hs]
      obtain ⟨i2, i3, i4⟩ := serveD_len (relD ⟨x.epoch, x.next, now, x.conns, freeIdx x.conns, x.queue, []⟩ k).queue.length (relD ⟨x.epoch, x.next, now, x.conns, freeIdx x.conns, x.queue, []⟩ k)
      have j1 : (relD ⟨x.epoch, x.next, now, x.conns, freeIdx x.conns, x.queue, []⟩ k).conns.length = x.conns.length := by simp [relD]
      have j2 : (relD ⟨x.epoch, x.next, now, x.conns, freeIdx x.conns, x.queue, []⟩ k).queue.length = x.queue.length := rfl
      have j3 : (relD ⟨x.epoch, x.next, now, x.conns, freeIdx x.conns, x.queue, []⟩ k).sent.length = 0 := rfl
      rw [j1] at i2
      rw [j3] at i4
      rw [j2] at i2 i3 i4 ⊢
      simp only at i2 i3 i4 ⊢
      omega
  · rw [ansP_bad h]; simp [pl0]
/-- the four cells of a want's box -/
theorem Box.want {W : World} {b : Nat} {t : TypeId} {q : Wn} (h : Box W b t #[.int .i64 q.client, .string q.tag, .string q.query, .string q.pointer]) : W.cell? ⟨b, 0, none⟩ = some (.int .i64 q.client) ∧ W.cell? ⟨b, 1, none⟩ = some (.string q.tag) ∧ W.cell? ⟨b, 2, none⟩ = some (.string q.query) ∧ W.cell? ⟨b, 3, none⟩ = some (.string q.pointer) := ⟨h.cell 0 (by simp), h.cell 1 (by simp), h.cell 2 (by simp), h.cell 3 (by simp)⟩

set_option maxRecDepth 100000 in
set_option maxHeartbeats 8000000 in
theorem lawAns (x : Pl) (cv qv : Value) (conn : Int) (control tag : ByteArray) (now : Int) (w : World) {lo : Nat} (hp : PlAt lo w x cv qv) (hI : Ito w.heap.size w) (hcw : (Lit.int .i64 conn).wf = true) :
    Calls Tryd.prog 4 #[plV x cv qv, .int .i64 conn, .string control, .string tag, .int .i64 now] w fun en w' => en = .returned (.bool true) ∧ Below w.heap.size w w' := by
  obtain ⟨⟨a1, c1, e1⟩, a2, c2, e2⟩ := hp.form
  subst e1 e2
  have HSZ := hide (fun W (h : PlAt lo W x (.slice a1 x.conns.length c1) (.slice a2 x.queue.length c2)) => szPl_any x _ _ 1048576 W (by omega) (by omega) h.1 h.2)
  unfold plV at HSZ
  show Calls Tryd.prog 4 #[.agg #[.int .i64 x.epoch, .int .i64 x.next, .slice a1 x.conns.length c1, .slice a2 x.queue.length c2], .int .i64 conn, .string control, .string tag, .int .i64 now] w _
  obtain ⟨w1, hw1⟩ : ∃ w1, w.alloc (Obj.cells #[.int .i64 x.epoch, .int .i64 x.next, .slice a1 x.conns.length c1, .slice a2 x.queue.length c2] 25) = w1 := ⟨_, rfl⟩
  have HB1 : Hid (Below w.heap.size w w1) := by rw [← hw1]; exact (Below.refl w.heap.size w).alloc (Nat.le_refl _) _
  have HXP : Hid (Box w1 w.heap.size 25 #[.int .i64 x.epoch, .int .i64 x.next, .slice a1 x.conns.length c1, .slice a2 x.queue.length c2]) := by rw [← hw1]; exact Box.new w _ _
  have KS : Hid (∀ X, Below w1.heap.size w1 X → (X.cell? ⟨w.heap.size, 0, none⟩ = some (.int .i64 x.epoch) ∧ X.cell? ⟨w.heap.size, 1, none⟩ = some (.int .i64 x.next) ∧ X.cell? ⟨w.heap.size, 2, none⟩ = some (.slice a1 x.conns.length c1) ∧ X.cell? ⟨w.heap.size, 3, none⟩ = some (.slice a2 x.queue.length c2))) := fun X hX => (HXP.out.below hX).pool.1
  have HPW : Hid (∀ X, Below w1.heap.size w1 X → PlAt lo X x (.slice a1 x.conns.length c1) (.slice a2 x.queue.length c2)) := fun X hX => hp.below (bjoin hX HB1.out)
  have HIT : Hid (∀ X, Below w1.heap.size w1 X → Ito X.heap.size X) := fun X hX => hI.up (bjoin hX HB1.out)
  clear hp hI
  obtain ⟨p0, p1, p2, p3⟩ := KS.out w1 (Below.refl _ _)
  by_cases hl1 : (1048576 : Int) < (control.size : Int)
  · go_enter Tryd.func4, Tryd.ntmps4
    go_wp2_with fail
    go_ret
    exact ⟨rfl, HB1.out⟩
  by_cases hl2 : (1048576 : Int) < (tag.size : Int)
  · go_enter Tryd.func4, Tryd.ntmps4
    go_wp2_with fail
    go_ret
    exact ⟨rfl, HB1.out⟩
  by_cases hsz : ¬ ((plSz x : Nat) : Int) ≤ 1048576
  · rw [rest_no hsz] at HSZ
    clear hsz
    go_enter Tryd.func4, Tryd.ntmps4
    go_wp2_with fail
    refine (HSZ.out _ (HPW.out _ (Below.refl _ _))).mono ?_
    rintro en W1 ⟨rfl, hb1⟩
    have HBW1 := hide (bjoin hb1 HB1.out)
    clear hb1
    go_wp2_with fail
    go_ret
    exact ⟨rfl, HBW1.out⟩
  have hsz := Decidable.not_not.1 hsz
  rw [rest_yes hsz] at HSZ
  have hn1 : x.conns.length ≤ 1048576 := by have : x.conns.length ≤ plSz x := by unfold plSz cnsSz lenSum; omega
                                            omega
  have hn2 : x.queue.length ≤ 1048576 := by have : x.queue.length ≤ plSz x := by unfold plSz wnsSz lenSum; omega
                                            omega
  have HTO := hide (fun W (h : PlAt lo W x (.slice a1 x.conns.length c1) (.slice a2 x.queue.length c2)) => toPl_any x _ _ W h.1 h.2 hn1 hn2)
  unfold plV at HTO
  obtain ⟨left, hleft⟩ : ∃ left : Int, 1048576 - (plSz x : Int) = left := ⟨_, rfl⟩
  rw [hleft] at HSZ
  have hlneg : ¬ left < 0 := by omega
  clear hsz hleft
  have HSP := hide (fun W cv qv (h : PlAt 0 W x cv qv) => ansS_any x cv qv conn control tag now W h)
  have HIM := hide (fun W cv qv (h : PlAt 0 W x cv qv) (hI : Ito W.heap.size W) => ansI_any x cv qv conn control tag now W h hI hcw (by omega) (by omega))
  have hlen := ansP_len x conn control tag now
  unfold AnsSP at HSP
  unfold AnsI at HIM
  generalize ansP x conn control tag now = A at HSP HIM hlen
  obtain ⟨R1, R2, R3, C3⟩ := A
  simp only at HSP HIM hlen
  unfold plV wnV at HSP HIM
  have HEQ := hide (fun (y : Pl) (cv qv cv2 qv2 : Value) (W : World) (h1 : PlAt 0 W y cv qv) (h2 : PlAt 0 W y cv2 qv2) => eqPl_any y cv qv cv2 qv2 W h1.1 h1.2 h2.1 h2.2)
  have HES := hide (fun (v u : Value) (W : World) (h1 : StsAt 0 W v R2) (h2 : StsAt 0 W u R2) => eqSts_any R2 v u W h1 h2)
  have HEW := hide (fun (W : World) => eqWn_any R3 W)
  unfold wnV at HEW
  have HMX := hide (fun (cv qv : Value) (b1 b2 : List Nat) (lo : Nat) (W : World) (h : PlO lo W x cv qv b1 b2) => markPl_any x cv qv _ _ _ _ b1 b2 1 W (by omega) (by omega) h.1 h.2.1 h.2.2.1)
  unfold plV at HEQ HMX
  obtain ⟨K0, hK0⟩ : ∃ K0 : Nat, 1 + x.conns.length * 7 + x.queue.length * 4 = K0 := ⟨_, rfl⟩
  rw [hK0] at HMX
  have hK0p : ¬ (K0 : Int) < 0 := by omega
  clear hn1 hn2 hK0
  obtain ⟨hl4, hl17, hls⟩ := hlen
  have HMK := hide (fun (cv qv : Value) (b1 b2 : List Nat) (lo : Nat) (W : World) (h : PlO lo W R1 cv qv b1 b2) => markPl_any R1 cv qv _ _ _ _ b1 b2 1 W (by omega) (by omega) h.1 h.2.1 h.2.2.1)
  have HHD := hide (fun (cv qv : Value) (b1 b2 : List Nat) (W : World) (h1 : RowC W cv R1.conns.length 7 (mvConn 1) b1) (h2 : RowC W qv R1.queue.length 4 (mvWant (1 + R1.conns.length * 7)) b2) => heldPl_any R1 cv qv _ _ b1 b2 1 W (by omega) (by omega) h1 h2)
  unfold plV at HMK HHD
  obtain ⟨K1, hK1⟩ : ∃ K1 : Nat, 1 + R1.conns.length * 7 + R1.queue.length * 4 = K1 := ⟨_, rfl⟩
  rw [hK1] at HMK HHD
  have hK1a : 1 ≤ K1 := by omega
  have hK1b : K1 ≤ 1000 := by omega
  have HMS := hide (fun (v : Value) (f : Nat → Value) (b : List Nat) (W : World) (h : RowC W v R2.length 6 f b) => markSents_any R2.length v f b K1 W hK1a (by omega) h)
  have HHS := hide (fun (v : Value) (b : List Nat) (W : World) (h : RowC W v R2.length 6 (mvSent K1) b) => heldSents_any R2.length v b K1 W hK1a (by omega) h)
  obtain ⟨K2, hK2⟩ : ∃ K2 : Nat, K1 + R2.length * 6 = K2 := ⟨_, rfl⟩
  rw [hK2] at HMS HHS
  have hK1p : ¬ (K1 : Int) < 0 := by omega
  have hK2p : ¬ (K2 : Int) < 0 := by omega
  clear hK1 hK2 hK1a hK1b hl4 hl17 hls
  go_enter Tryd.func4, Tryd.ntmps4
  go_wp2_with fail
  refine (HSZ.out _ (HPW.out _ (Below.refl _ _))).mono ?_
  rintro en W1 ⟨rfl, hb1⟩
  obtain ⟨p0, p1, p2, p3⟩ := KS.out W1 hb1
  have HBW1 := hide hb1
  clear hb1
  go_wp2_with fail
  refine (HTO.out _ (HPW.out _ HBW1.out)).mono ?_
  rintro en W2 ⟨cv2, qv2, b21, b22, rfl, hpo2, hb2⟩
  obtain ⟨⟨a3, c3, e3⟩, a4, c4, e4⟩ := hpo2.at.form
  subst e3 e4
  have HP2 := hide hpo2.at0
  have HBW2 := hide (bjoin hb2 HBW1.out)
  clear hpo2 hb2
  go_wp2_with fail
  refine (HSP.out _ _ _ HP2.out).mono ?_
  rintro en W3 ⟨cv8, qv8, sv8, rfl, hpl8, hst8, hb3⟩
  obtain ⟨⟨a8, c8, e8⟩, a9, c9, e9⟩ := hpl8.form
  obtain ⟨a10, c10, e10, _⟩ := hst8.form
  subst e8 e9 e10
  obtain ⟨X3, hX3⟩ : ∃ X3, (W3.alloc (Obj.cells #[.int .i64 R1.epoch, .int .i64 R1.next, .slice a8 R1.conns.length c8, .slice a9 R1.queue.length c9] 33)).alloc (Obj.cells #[.int .i64 R3.client, .string R3.tag, .string R3.query, .string R3.pointer] 38) = X3 := ⟨_, rfl⟩
  have hbX3 : Below W3.heap.size W3 X3 := by rw [← hX3]; exact ((Below.refl _ _).alloc (Nat.le_refl _) _).alloc (by simp) _
  have hbxX3 : Box X3 W3.heap.size 33 #[.int .i64 R1.epoch, .int .i64 R1.next, .slice a8 R1.conns.length c8, .slice a9 R1.queue.length c9] := by rw [← hX3]; exact (Box.new _ _ _).alloc _
  have hbwX3 : Box X3 (W3.heap.size + 1) 38 #[.int .i64 R3.client, .string R3.tag, .string R3.query, .string R3.pointer] := by
    have := Box.new (W3.alloc (Obj.cells #[.int .i64 R1.epoch, .int .i64 R1.next, .slice a8 R1.conns.length c8, .slice a9 R1.queue.length c9] 33)) 38 #[.int .i64 R3.client, .string R3.tag, .string R3.query, .string R3.pointer]
    rw [hX3, Deep.nblk_alloc] at this
    exact this
  have hpl3 := hpl8.below hbX3
  have hst3 : StsAt 0 X3 (.slice a10 R2.length c10) R2 := At.kept kept_flat hst8 hbX3
  have K8 : Hid (∀ X, Below X3.heap.size X3 X → (X.cell? ⟨W3.heap.size, 0, none⟩ = some (.int .i64 R1.epoch) ∧ X.cell? ⟨W3.heap.size, 1, none⟩ = some (.int .i64 R1.next) ∧ X.cell? ⟨W3.heap.size, 2, none⟩ = some (.slice a8 R1.conns.length c8) ∧ X.cell? ⟨W3.heap.size, 3, none⟩ = some (.slice a9 R1.queue.length c9)) ∧ PlAt 0 X R1 (.slice a8 R1.conns.length c8) (.slice a9 R1.queue.length c9) ∧ StsAt 0 X (.slice a10 R2.length c10) R2 ∧ (X.cell? ⟨W3.heap.size + 1, 0, none⟩ = some (.int .i64 R3.client) ∧ X.cell? ⟨W3.heap.size + 1, 1, none⟩ = some (.string R3.tag) ∧ X.cell? ⟨W3.heap.size + 1, 2, none⟩ = some (.string R3.query) ∧ X.cell? ⟨W3.heap.size + 1, 3, none⟩ = some (.string R3.pointer))) := fun X hX => ⟨(hbxX3.below hX).pool.1, hpl3.below hX, At.kept kept_flat hst3 hX, (hbwX3.below hX).want⟩
  have HB3 := hide (bjoin (bjoin hbX3 hb3) HBW2.out)
  obtain ⟨p0, p1, p2, p3⟩ := KS.out X3 HB3.out
  clear hpl8 hst8 hb3 hbX3 hbxX3 hbwX3 hpl3 hst3
  go_wp2_with fail
  refine (HTO.out _ (HPW.out _ HB3.out)).mono ?_
  rintro en W4 ⟨cvx, qvx, bx1, bx2, rfl, hpx, hb4⟩
  obtain ⟨⟨ax, cx, ex⟩, ax2, cx2, ex2⟩ := hpx.at.form
  subst ex ex2
  obtain ⟨X4, hX4⟩ : ∃ X4, W4.alloc (Obj.cells #[.int .i64 x.epoch, .int .i64 x.next, .slice ax x.conns.length cx, .slice ax2 x.queue.length cx2] 33) = X4 := ⟨_, rfl⟩
  have hb4a : Below W4.heap.size W4 X4 := by rw [← hX4]; exact (Below.refl _ _).alloc (Nat.le_refl _) _
  have HBOX4 : Hid (Box X4 W4.heap.size 33 #[.int .i64 x.epoch, .int .i64 x.next, .slice ax x.conns.length cx, .slice ax2 x.queue.length cx2]) := by rw [← hX4]; exact Box.new _ _ _
  have HPX := hide (hpx.below hb4a)
  have HXLT : Hid (∀ d ∈ bx1 ++ bx2, X3.heap.size ≤ d ∧ d < W4.heap.size) := fun d hd => by
    rcases List.mem_append.1 hd with h | h
    · exact ⟨hpx.2.2.2.1 d h, RowC.lt hpx.1 d h⟩
    · exact ⟨hpx.2.2.2.2.1 d h, RowC.lt hpx.2.1 d h⟩
  have HB34 := hide (bjoin hb4a hb4)
  have HB4 := hide (bj2 HB34.out HB3.out (Nat.le_refl _))
  have HW4 := hide hb4a.size
  have K9 : Hid (∀ X, Below X4.heap.size X4 X → (X.cell? ⟨W4.heap.size, 0, none⟩ = some (.int .i64 x.epoch) ∧ X.cell? ⟨W4.heap.size, 1, none⟩ = some (.int .i64 x.next) ∧ X.cell? ⟨W4.heap.size, 2, none⟩ = some (.slice ax x.conns.length cx) ∧ X.cell? ⟨W4.heap.size, 3, none⟩ = some (.slice ax2 x.queue.length cx2)) ∧ (X.cell? ⟨w.heap.size, 0, none⟩ = some (.int .i64 x.epoch) ∧ X.cell? ⟨w.heap.size, 1, none⟩ = some (.int .i64 x.next) ∧ X.cell? ⟨w.heap.size, 2, none⟩ = some (.slice a1 x.conns.length c1) ∧ X.cell? ⟨w.heap.size, 3, none⟩ = some (.slice a2 x.queue.length c2))) := fun X hX => ⟨(HBOX4.out.below hX).pool.1, KS.out X (bj2 hX HB4.out (Nat.le_refl _))⟩
  have HPX4 : Hid (∀ X, Below X4.heap.size X4 X → PlAt 0 X x (.slice ax x.conns.length cx) (.slice ax2 x.queue.length cx2)) := fun X hX => HPX.out.at0.below hX
  obtain ⟨⟨q0, q1, q2, q3⟩, _⟩ := K9.out X4 (Below.refl _ _)
  clear hpx hb4 hb4a p0 p1 p2 p3
  go_wp2_with fail
  refine (HIM.out _ _ _ (HPX4.out _ (Below.refl _ _)) (HIT.out _ HB4.out)).mono ?_
  rintro en W5 ⟨cvg, qvg, svg, rfl, b1, b2, b3, hpg, hsg, hzg, hdg, hb5⟩
  obtain ⟨⟨ag, cg, eg⟩, ag2, cg2, eg2⟩ := hpg.at.form
  obtain ⟨ag3, cg3, eg3⟩ := RowC.form hsg
  subst eg eg2 eg3
  obtain ⟨X5, hX5⟩ : ∃ X5, (W5.alloc (Obj.cells #[.int .i64 R1.epoch, .int .i64 R1.next, .slice ag R1.conns.length cg, .slice ag2 R1.queue.length cg2] 33)).alloc (Obj.cells #[.int .i64 R3.client, .string R3.tag, .string R3.query, .string R3.pointer] 38) = X5 := ⟨_, rfl⟩
  have hbX5 : Below W5.heap.size W5 X5 := by rw [← hX5]; exact ((Below.refl _ _).alloc (Nat.le_refl _) _).alloc (by simp) _
  have hbxX5 : Box X5 W5.heap.size 33 #[.int .i64 R1.epoch, .int .i64 R1.next, .slice ag R1.conns.length cg, .slice ag2 R1.queue.length cg2] := by rw [← hX5]; exact (Box.new _ _ _).alloc _
  have hbwX5 : Box X5 (W5.heap.size + 1) 38 #[.int .i64 R3.client, .string R3.tag, .string R3.query, .string R3.pointer] := by
    have := Box.new (W5.alloc (Obj.cells #[.int .i64 R1.epoch, .int .i64 R1.next, .slice ag R1.conns.length cg, .slice ag2 R1.queue.length cg2] 33)) 38 #[.int .i64 R3.client, .string R3.tag, .string R3.query, .string R3.pointer]
    rw [hX5, Deep.nblk_alloc] at this
    exact this
  have HBOX5 := hide hbxX5
  have HBOW5 := hide hbwX5
  have HPG := hide (hpg.below hbX5)
  have HSG : Hid (FO stC 6 X5 (.slice ag3 R2.length cg3) R2 b3) := RowC.below hsg hbX5
  have HZS : Hid (∀ i (h : i < R2.length), stZ R2[i]) := mem_all hzg
  have HLO : Hid (∀ d ∈ (b1 ++ b2) ++ b3, X4.heap.size ≤ d ∧ d < W5.heap.size) := fun d hd => by
    rcases List.mem_append.1 hd with h | h
    · rcases List.mem_append.1 h with h | h
      · exact ⟨hpg.2.2.2.1 d h, RowC.lt hpg.1 d h⟩
      · exact ⟨hpg.2.2.2.2.1 d h, RowC.lt hpg.2.1 d h⟩
    · exact ⟨(hdg d h).1, RowC.lt hsg d h⟩
  have HDJ : Hid (∀ d ∈ b3, d ∉ b1 ∧ d ∉ b2) := fun d h => (hdg d h).2
  have HB45 := hide (bjoin hbX5 hb5)
  have HB45lo := hide hb5.size
  have HG : Hid (∀ Y, X5.heap.size ≤ Y.heap.size → (∀ d, X4.heap.size ≤ d → d < X5.heap.size → Y.heap[d]? = X5.heap[d]?) → (Y.cell? ⟨W5.heap.size, 0, none⟩ = some (.int .i64 R1.epoch) ∧ Y.cell? ⟨W5.heap.size, 1, none⟩ = some (.int .i64 R1.next) ∧ Y.cell? ⟨W5.heap.size, 2, none⟩ = some (.slice ag R1.conns.length cg) ∧ Y.cell? ⟨W5.heap.size, 3, none⟩ = some (.slice ag2 R1.queue.length cg2)) ∧ PlO X4.heap.size Y R1 (.slice ag R1.conns.length cg) (.slice ag2 R1.queue.length cg2) b1 b2 ∧ FO stC 6 Y (.slice ag3 R2.length cg3) R2 b3 ∧ StsAt 0 Y (.slice ag3 R2.length cg3) R2 ∧ (Y.cell? ⟨W5.heap.size + 1, 0, none⟩ = some (.int .i64 R3.client) ∧ Y.cell? ⟨W5.heap.size + 1, 1, none⟩ = some (.string R3.tag) ∧ Y.cell? ⟨W5.heap.size + 1, 2, none⟩ = some (.string R3.query) ∧ Y.cell? ⟨W5.heap.size + 1, 3, none⟩ = some (.string R3.pointer))) := fun Y h1 h2 => by
    have hlt5 : W5.heap.size < X5.heap.size := HBOX5.out.lt
    have hk : ∀ d ∈ (b1 ++ b2) ++ b3, Y.heap[d]? = X5.heap[d]? := fun d hd => h2 d (HLO.out d hd).1 (by have := (HLO.out d hd).2; omega)
    have k3 : FO stC 6 Y (.slice ag3 R2.length cg3) R2 b3 := RowC.kept HSG.out h1 fun d hd => hk d (by simp [hd])
    exact ⟨(HBOX5.out.keep (h2 W5.heap.size HB45lo.out hlt5)).pool.1, ⟨RowC.kept HPG.out.1 h1 fun d hd => hk d (by simp [hd]), RowC.kept HPG.out.2.1 h1 fun d hd => hk d (by simp [hd]), HPG.out.2.2⟩, k3, FO.at stC_len k3 HZS.out (fun _ _ => Nat.zero_le _), (HBOW5.out.keep (h2 (W5.heap.size + 1) (by have := HB45lo.out; omega) HBOW5.out.lt)).want⟩
  have HGB : Hid (∀ Y, Below X5.heap.size X5 Y → (Y.cell? ⟨W5.heap.size, 0, none⟩ = some (.int .i64 R1.epoch) ∧ Y.cell? ⟨W5.heap.size, 1, none⟩ = some (.int .i64 R1.next) ∧ Y.cell? ⟨W5.heap.size, 2, none⟩ = some (.slice ag R1.conns.length cg) ∧ Y.cell? ⟨W5.heap.size, 3, none⟩ = some (.slice ag2 R1.queue.length cg2)) ∧ PlO X4.heap.size Y R1 (.slice ag R1.conns.length cg) (.slice ag2 R1.queue.length cg2) b1 b2 ∧ FO stC 6 Y (.slice ag3 R2.length cg3) R2 b3 ∧ StsAt 0 Y (.slice ag3 R2.length cg3) R2 ∧ (Y.cell? ⟨W5.heap.size + 1, 0, none⟩ = some (.int .i64 R3.client) ∧ Y.cell? ⟨W5.heap.size + 1, 1, none⟩ = some (.string R3.tag) ∧ Y.cell? ⟨W5.heap.size + 1, 2, none⟩ = some (.string R3.query) ∧ Y.cell? ⟨W5.heap.size + 1, 3, none⟩ = some (.string R3.pointer))) := fun Y h => HG.out Y h.size fun d _ hd => h.block d hd
  have HB35 := hide (bjoin HB45.out HB34.out)
  obtain ⟨⟨g0, g1, g2, g3⟩, hgp, _⟩ := HGB.out X5 (Below.refl _ _)
  obtain ⟨⟨r0, r1, r2, r3⟩, hrp, _⟩ := K8.out X5 HB35.out
  have HA := hide (And.intro hgp.at0 hrp)
  clear hpg hsg hzg hdg hb5 hbX5 hbxX5 hbwX5 hgp hrp q0 q1 q2 q3
  go_wp2_with fail
  refine (HEQ.out R1 _ _ _ _ _ HA.out.1 HA.out.2).mono ?_
  rintro en W6 ⟨rfl, hb6⟩
  have HB6 := hide hb6
  clear hb6 g0 g1 g2 g3 r0 r1 r2 r3
  go_wp2_with fail
  refine (HES.out _ _ _ (HGB.out W6 HB6.out).2.2.2.1 (K8.out W6 (bj2 HB6.out HB35.out (Nat.le_refl _))).2.2.1).mono ?_
  rintro en W7 ⟨rfl, hb7⟩
  have HB7 := hide (bjoin hb7 HB6.out)
  obtain ⟨_, _, _, _, m0, m1, m2, m3⟩ := HGB.out W7 HB7.out
  obtain ⟨_, _, _, l0, l1, l2, l3⟩ := K8.out W7 (bj2 HB7.out HB35.out (Nat.le_refl _))
  clear hb7
  go_wp2_with fail
  refine (HEW.out _).mono ?_
  rintro en W8 ⟨rfl, hb8⟩
  have HB8 := hide (bjoin hb8 HB7.out)
  clear m0 m1 m2 m3 l0 l1 l2 l3
  have hF0 : Below X4.heap.size X4 W8.drew := (bj2 HB8.out HB45.out (Nat.le_refl _)).drew
  obtain ⟨D8, hwd8⟩ : ∃ D8, W8.drew = D8 := ⟨_, rfl⟩
  have hF : Below X4.heap.size X4 D8 := by rw [← hwd8]; exact hF0
  have hFX : Below X5.heap.size X5 D8 := by rw [← hwd8]; exact HB8.out.drew
  clear hb8
  go_wp2_with fail
  go_region_held3 (fun X : World => (X.cell? ⟨W4.heap.size, 0, none⟩ = some (.int .i64 x.epoch) ∧ X.cell? ⟨W4.heap.size, 1, none⟩ = some (.int .i64 x.next) ∧ X.cell? ⟨W4.heap.size, 2, none⟩ = some (.slice ax x.conns.length cx) ∧ X.cell? ⟨W4.heap.size, 3, none⟩ = some (.slice ax2 x.queue.length cx2)) ∧ (X.cell? ⟨w.heap.size, 0, none⟩ = some (.int .i64 x.epoch) ∧ X.cell? ⟨w.heap.size, 1, none⟩ = some (.int .i64 x.next) ∧ X.cell? ⟨w.heap.size, 2, none⟩ = some (.slice a1 x.conns.length c1) ∧ X.cell? ⟨w.heap.size, 3, none⟩ = some (.slice a2 x.queue.length c2)))
    (first | with_reducible exact K9.out _ hF0 | with_reducible exact K9.out _ hF | with_reducible exact K9.out _ hB14 | with_reducible exact K9.out _ hB15)
    (first
      | (go_at_call 10; refine (HTO.out _ (HPW.out _ (bj2 hF HB4.out (Nat.le_refl _)))).mono ?_; rintro e W14 ⟨cvt, qvt, bt1, bt2, rfl, hpt, hbr14⟩; obtain ⟨⟨a14, c14, e14⟩, a15, c15, e15⟩ := hpt.at.form; subst e14 e15; have hB14 : Below X4.heap.size X4 W14 := bjoin hbr14 hF)
      | (go_at_call 13; refine (HEQ.out x _ _ _ _ _ (HPX4.out _ hB14) hpt.at0).mono ?_; rintro e W15 ⟨rfl, hbr15⟩; have hB15 : Below X4.heap.size X4 W15 := bjoin hbr15 hB14))
  obtain ⟨⟨p0, p1, p2, p3⟩, _⟩ := K9.out W15 hB15
  have HB15 := hide hB15
  have HBX15 := hide (bjoin (bjoin hbr15 hbr14) hFX)
  clear hB15 hbr15 hbr14 hB14 hpt hF hF0 hFX hwd8
  go_wp2_with fail
  refine (HMX.out _ _ _ _ _ _ (HPX.out.below HB15.out)).mono ?_
  rintro en M1 ⟨rfl, hO1, _, _⟩
  have HM1 : Hid (X5.heap.size ≤ M1.heap.size ∧ ∀ d, X4.heap.size ≤ d → d < X5.heap.size → M1.heap[d]? = X5.heap[d]?) := ⟨Nat.le_trans HBX15.out.size hO1.size, fun d h1 h2 => (hO1.block d (by have := HBX15.out.size; omega) (fun h => by have := (HXLT.out d h).2; have := HW4.out; omega)).trans (HBX15.out.block d h2)⟩
  have HBM1 : Hid (Below X3.heap.size X3 M1) := (bj2 HB15.out HB34.out (Nat.le_refl _)).trans (hO1.below (bj2 HB15.out HB34.out (Nat.le_refl _)).size fun d hd => (HXLT.out d hd).1)
  have HGM : Hid (∀ Y, Below M1.heap.size M1 Y → (Y.cell? ⟨W5.heap.size, 0, none⟩ = some (.int .i64 R1.epoch) ∧ Y.cell? ⟨W5.heap.size, 1, none⟩ = some (.int .i64 R1.next) ∧ Y.cell? ⟨W5.heap.size, 2, none⟩ = some (.slice ag R1.conns.length cg) ∧ Y.cell? ⟨W5.heap.size, 3, none⟩ = some (.slice ag2 R1.queue.length cg2)) ∧ PlO X4.heap.size Y R1 (.slice ag R1.conns.length cg) (.slice ag2 R1.queue.length cg2) b1 b2 ∧ FO stC 6 Y (.slice ag3 R2.length cg3) R2 b3 ∧ StsAt 0 Y (.slice ag3 R2.length cg3) R2 ∧ (Y.cell? ⟨W5.heap.size + 1, 0, none⟩ = some (.int .i64 R3.client) ∧ Y.cell? ⟨W5.heap.size + 1, 1, none⟩ = some (.string R3.tag) ∧ Y.cell? ⟨W5.heap.size + 1, 2, none⟩ = some (.string R3.query) ∧ Y.cell? ⟨W5.heap.size + 1, 3, none⟩ = some (.string R3.pointer))) := fun Y h => HG.out Y (Nat.le_trans HM1.out.1 h.size) fun d h1 h2 => (h.block d (by have := HM1.out.1; omega)).trans (HM1.out.2 d h1 h2)
  have HBOXM : Hid (Box M1 W5.heap.size 33 #[.int .i64 R1.epoch, .int .i64 R1.next, .slice ag R1.conns.length cg, .slice ag2 R1.queue.length cg2]) := HBOX5.out.keep (HM1.out.2 W5.heap.size HB45lo.out HBOX5.out.lt)
  obtain ⟨⟨g0, g1, g2, g3⟩, hgp, _⟩ := HGM.out M1 (Below.refl _ _)
  obtain ⟨⟨r0, r1, r2, r3⟩, hrp, _⟩ := K8.out M1 HBM1.out
  have HA2 := hide (And.intro hgp.at0 hrp)
  clear hO1 p0 p1 p2 p3 hgp hrp
  go_wp2_with fail
  refine (HEQ.out R1 _ _ _ _ _ HA2.out.1 HA2.out.2).mono ?_
  rintro en M2 ⟨rfl, hb2⟩
  have HM2 := hide hb2
  clear hb2 g0 g1 g2 g3 r0 r1 r2 r3
  go_wp2_with fail
  refine (HES.out _ _ _ (HGM.out M2 HM2.out).2.2.2.1 (K8.out M2 (bj2 HM2.out HBM1.out (by have := HBM1.out.size; omega))).2.2.1).mono ?_
  rintro en M3 ⟨rfl, hb3⟩
  have HM3 := hide (bjoin hb3 HM2.out)
  obtain ⟨_, _, _, _, m0, m1, m2, m3⟩ := HGM.out M3 HM3.out
  obtain ⟨_, _, _, l0, l1, l2, l3⟩ := K8.out M3 (bj2 HM3.out HBM1.out (by have := HBM1.out.size; omega))
  clear hb3
  go_wp2_with fail
  refine (HEW.out _).mono ?_
  rintro en M4 ⟨rfl, hb4⟩
  have HM4 := hide (bjoin hb4 HM3.out)
  obtain ⟨⟨g0, g1, g2, g3⟩, hgp, hgf, _⟩ := HGM.out M4 HM4.out
  have HP4 := hide (And.intro hgp hgf)
  have HBOX6 := hide (HBOXM.out.below HM4.out)
  clear hb4 hgp hgf m0 m1 m2 m3 l0 l1 l2 l3
  go_wp2_with fail
  refine (HMK.out _ _ _ _ _ _ HP4.out.1).mono ?_
  rintro en M5 ⟨rfl, hO5, hR1, hR2⟩
  have HS5 : Hid (FO stC 6 M5 (.slice ag3 R2.length cg3) R2 b3) := RowC.kept HP4.out.2 hO5.size fun d hd => hO5.block d (RowC.lt HP4.out.2 d hd) fun h => by
    rcases List.mem_append.1 h with h | h
    · exact (HDJ.out d hd).1 h
    · exact (HDJ.out d hd).2 h
  have HBOX7 := hide (HBOX6.out.only hO5 fun h => by have := (HLO.out _ (List.mem_append.2 (.inl h))).2; omega)
  have HR12 := hide (And.intro hR1 hR2)
  have HO5 := hide hO5
  clear hO5 hR1 hR2 g0 g1 g2 g3
  go_wp2_with fail
  refine (HMS.out _ _ _ _ HS5.out).mono ?_
  rintro en M7 ⟨rfl, hO7, hR3⟩
  have HBOX9 := hide (HBOX7.out.only hO7 fun h => by have := (HLO.out _ (List.mem_append.2 (.inr h))).2; omega)
  obtain ⟨⟨g0, g1, g2, g3⟩, _⟩ := HBOX9.out.pool
  have HR7 := hide (And.intro (RowC.kept HR12.out.1 hO7.size fun d hd => hO7.block d (RowC.lt HR12.out.1 d hd) fun h => (HDJ.out d h).1 hd) (And.intro (RowC.kept HR12.out.2 hO7.size fun d hd => hO7.block d (RowC.lt HR12.out.2 d hd) fun h => (HDJ.out d h).2 hd) hR3))
  have HB37 : Hid (Below X3.heap.size X3 M7) := by
    have hs8 : X3.heap.size ≤ X4.heap.size := HB34.out.size
    have c4 := bj2 HM4.out HBM1.out (by have := HBM1.out.size; omega)
    have c5 := c4.trans (HO5.out.below c4.size fun d hd => by have := (HLO.out d (List.mem_append.2 (.inl hd))).1; omega)
    exact c5.trans (hO7.below c5.size fun d hd => by have := (HLO.out d (List.mem_append.2 (.inr hd))).1; omega)
  clear hO7 hR3
  go_wp2_with fail
  refine (HHD.out _ _ _ _ _ HR7.out.1 HR7.out.2.1).mono ?_
  rintro en M8 ⟨rfl, hb8⟩
  have HM8 := hide hb8
  clear hb8 g0 g1 g2 g3
  go_wp2_with fail
  refine (HHS.out _ _ _ (RowC.below HR7.out.2.2 HM8.out)).mono ?_
  rintro en M10 ⟨rfl, hb10⟩
  have HB310 := hide (bj2 (bjoin hb10 HM8.out) HB37.out (by have := HB37.out.size; omega))
  obtain ⟨p0, p1, p2, p3⟩ := KS.out M10 (bj2 HB310.out HB3.out (Nat.le_refl _))
  clear hb10
  go_wp2_with fail
  refine (HTO.out _ (HPW.out _ (bj2 HB310.out HB3.out (Nat.le_refl _)))).mono ?_
  rintro en M11 ⟨cv2, qv2, b21, b22, rfl, hpo2, hb11⟩
  obtain ⟨⟨a3, c3, e3⟩, a4, c4, e4⟩ := hpo2.at.form
  subst e3 e4
  have HP11 := hide hpo2.at0
  have HB311 := hide (bj2 hb11 HB310.out (by have := HB310.out.size; omega))
  clear hpo2 hb11 p0 p1 p2 p3
  go_wp2_with fail
  refine (HIM.out _ _ _ HP11.out (HIT.out _ (bj2 HB311.out HB3.out (Nat.le_refl _)))).mono ?_
  rintro en M12 ⟨cvh, qvh, svh, rfl, b1h, b2h, b3h, hph, hsh, hzh, _, hb12⟩
  obtain ⟨⟨ah, ch, eh⟩, ah2, ch2, eh2⟩ := hph.at.form
  obtain ⟨ah3, ch3, eh3⟩ := RowC.form hsh
  subst eh eh2 eh3
  obtain ⟨X12, hX12⟩ : ∃ X12, (M12.alloc (Obj.cells #[.int .i64 R1.epoch, .int .i64 R1.next, .slice ah R1.conns.length ch, .slice ah2 R1.queue.length ch2] 33)).alloc (Obj.cells #[.int .i64 R3.client, .string R3.tag, .string R3.query, .string R3.pointer] 38) = X12 := ⟨_, rfl⟩
  have hbX12 : Below M12.heap.size M12 X12 := by rw [← hX12]; exact ((Below.refl _ _).alloc (Nat.le_refl _) _).alloc (by simp) _
  have hbxX12 : Box X12 M12.heap.size 33 #[.int .i64 R1.epoch, .int .i64 R1.next, .slice ah R1.conns.length ch, .slice ah2 R1.queue.length ch2] := by rw [← hX12]; exact (Box.new _ _ _).alloc _
  have hbwX12 : Box X12 (M12.heap.size + 1) 38 #[.int .i64 R3.client, .string R3.tag, .string R3.query, .string R3.pointer] := by
    have := Box.new (M12.alloc (Obj.cells #[.int .i64 R1.epoch, .int .i64 R1.next, .slice ah R1.conns.length ch, .slice ah2 R1.queue.length ch2] 33)) 38 #[.int .i64 R3.client, .string R3.tag, .string R3.query, .string R3.pointer]
    rw [hX12, Deep.nblk_alloc] at this
    exact this
  obtain ⟨⟨g0, g1, g2, g3⟩, _⟩ := hbxX12.pool
  have HBW12 := hide hbwX12
  have HB312 := hide (bj2 (bjoin hbX12 hb12) HB311.out (by have := HB311.out.size; omega))
  obtain ⟨⟨r0, r1, r2, r3⟩, hrp, _⟩ := K8.out X12 HB312.out
  have HA3 := hide (And.intro (hph.at0.below hbX12) hrp)
  have HST : Hid (StsAt 0 X12 (.slice ah3 R2.length ch3) R2) := FO.at stC_len (RowC.below hsh hbX12) (mem_all hzh) (fun _ _ => Nat.zero_le _)
  clear hph hsh hzh hb12 hbX12 hbxX12 hbwX12 hrp
  go_wp2_with fail
  refine (HEQ.out R1 _ _ _ _ _ HA3.out.1 HA3.out.2).mono ?_
  rintro en M13 ⟨rfl, hb13⟩
  have HM13 := hide hb13
  clear hb13 g0 g1 g2 g3 r0 r1 r2 r3
  go_wp2_with fail
  refine (HES.out _ _ _ (At.kept kept_flat HST.out HM13.out) (K8.out M13 (bj2 HM13.out HB312.out (by have := HB312.out.size; omega))).2.2.1).mono ?_
  rintro en M14 ⟨rfl, hb14⟩
  have HM14 := hide (bjoin hb14 HM13.out)
  obtain ⟨m0, m1, m2, m3⟩ := (HBW12.out.below HM14.out).want
  obtain ⟨_, _, _, l0, l1, l2, l3⟩ := K8.out M14 (bj2 HM14.out HB312.out (by have := HB312.out.size; omega))
  clear hb14
  go_wp2_with fail
  refine (HEW.out _).mono ?_
  rintro en M15 ⟨rfl, hb15⟩
  have HEND := hide (bjoin (bj2 (bj2 (bjoin hb15 HM14.out) HB312.out (by have := HB312.out.size; omega)) HB3.out (Nat.le_refl _)) HB1.out)
  clear hb15
  go_wp2_with fail
  go_ret
  exact ⟨rfl, HEND.out⟩
end Go.Proofs.YtfeccdhadgpnkaaDoor.Msg
