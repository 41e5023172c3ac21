import Derived.Test.YtfeccdhadgpnkaaPoolNewI
namespace Go.Proofs.Ytfeccdhadgpnkaa.Msg
open Go.ChangeShapes Go.WideShapes Go.ChangeAt Go.RowKit
set_option linter.unusedVariables false
set_option linter.unusedSimpArgs false

theorem PlAt.below {lo : Nat} {w w' : World} {x : Pl} {cv qv : Value} (h : PlAt lo w x cv qv) (hb : Below w.heap.size w w') : PlAt lo w' x cv qv := ⟨At.kept kept_flat h.1 hb, At.kept kept_flat h.2 hb⟩
theorem PlAt.form {lo : Nat} {w : World} {x : Pl} {cv qv : Value} (h : PlAt lo w x cv qv) : (∃ a c, cv = .slice a x.conns.length c) ∧ ∃ a c, qv = .slice a x.queue.length c := by
  obtain ⟨a, c, e, _⟩ := h.1.form
  obtain ⟨a2, c2, e2, _⟩ := h.2.form
  exact ⟨⟨a, c, e⟩, a2, c2, e2⟩
theorem PlO.below {lo : Nat} {w w' : World} {x : Pl} {cv qv : Value} {b1 b2 : List Nat} (h : PlO lo w x cv qv b1 b2) (hb : Below w.heap.size w w') : PlO lo w' x cv qv b1 b2 :=
  ⟨RowC.below h.1 hb, RowC.below h.2.1 hb, h.2.2⟩

/-- two cells of a box of a pool -/
theorem plBox {w W : World} {e n : Int} {cv qv : Value} (t : TypeId) (h : Below (w.heap.size + 1) (w.alloc (.cells #[.int .i64 e, .int .i64 n, cv, qv] t)) W) :
    W.cell? ⟨w.heap.size, 0, none⟩ = some (.int .i64 e) ∧ W.cell? ⟨w.heap.size, 1, none⟩ = some (.int .i64 n) ∧ W.cell? ⟨w.heap.size, 2, none⟩ = some cv ∧ W.cell? ⟨w.heap.size, 3, none⟩ = some qv := by
  have hX := (Box.new w t #[.int .i64 e, .int .i64 n, cv, qv]).keep (w' := W) (h.block w.heap.size (by omega))
  exact ⟨hX.cell 0 (by simp), hX.cell 1 (by simp), hX.cell 2 (by simp), hX.cell 3 (by simp)⟩

set_option maxRecDepth 100000 in
set_option maxHeartbeats 4000000 in
theorem lawNew (e c : Int) (w : World) : Calls Try.prog 3 #[.int .i64 e, .int .i64 c] w fun en w' => en = .returned (.bool true) ∧ Below w.heap.size w w' := by
  have HS := hide (fun W => newS_any e c W)
  have HI := hide (fun W => newI_any e c W)
  have hnum : (newP e c).conns.length ≤ 4 ∧ (newP e c).queue.length ≤ 16 := by
    unfold newP
    split
    · rename_i h; have := h.2.2.2; simp; omega
    · simp
  have HEQ := hide (fun (cv qv cv2 qv2 : Value) (W : World) (l1 l2 : Nat) (h1 : PlAt l1 W (newP e c) cv qv) (h2 : PlAt l2 W (newP e c) cv2 qv2) => eqPl_any (newP e c) cv qv cv2 qv2 W h1.1 h1.2 h2.1 h2.2)
  generalize newP e c = P at HS HI HEQ hnum
  obtain ⟨hn1, hn2⟩ := hnum
  have HMK := hide (fun (cv qv : Value) (b1 b2 : List Nat) (lo : Nat) (W : World) (h : PlO lo W P cv qv b1 b2) => markPl_any P cv qv _ _ _ _ b1 b2 1 W (by omega) (by omega) h.1 h.2.1 h.2.2.1)
  have HHD := hide (fun (cv qv : Value) (b1 b2 : List Nat) (W : World) (h1 : RowC W cv P.conns.length 7 (mvConn 1) b1) (h2 : RowC W qv P.queue.length 4 (mvWant (1 + P.conns.length * 7)) b2) => heldPl_any P cv qv _ _ b1 b2 1 W (by omega) (by omega) h1 h2)
  obtain ⟨E, N, cs, qs⟩ := P
  unfold plV at *
  simp only at *
  obtain ⟨K, hK⟩ : ∃ K : Nat, 1 + cs.length * 7 + qs.length * 4 = K := ⟨_, rfl⟩
  rw [hK] at HMK HHD
  have hKp : ¬ (K : Int) < 0 := by omega
  clear hK
  go_enter Try.func3, Try.ntmps3
  go_wp2_with fail
  refine (HS.out _).mono ?_
  rintro en w1 ⟨cv, qv, rfl, hp1, hb1⟩
  obtain ⟨⟨a1, c1, e1⟩, a2, c2, e2⟩ := hp1.form
  simp only at e1 e2
  subst e1 e2
  obtain ⟨x1, hx1⟩ : ∃ x1, w1.alloc (Obj.cells #[.int .i64 E, .int .i64 N, .slice a1 cs.length c1, .slice a2 qs.length c2] 25) = x1 := ⟨_, rfl⟩
  have sx1 : x1.heap.size = w1.heap.size + 1 := by rw [← hx1]; simp
  have hbx1 : Below w1.heap.size w1 x1 := by rw [← hx1]; exact (Below.refl _ _).alloc (Nat.le_refl _) _
  have HX1 := hide (hp1.below hbx1)
  have HBOX1 : Hid (∀ W, Below x1.heap.size x1 W → W.cell? ⟨w1.heap.size, 0, none⟩ = some (.int .i64 E) ∧ W.cell? ⟨w1.heap.size, 1, none⟩ = some (.int .i64 N) ∧ W.cell? ⟨w1.heap.size, 2, none⟩ = some (.slice a1 cs.length c1) ∧ W.cell? ⟨w1.heap.size, 3, none⟩ = some (.slice a2 qs.length c2)) := fun W h => plBox 25 (by rw [hx1, ← sx1]; exact h)
  have HB1 := hide (bjoin hbx1 hb1)
  clear hp1 hb1 hbx1
  go_wp2_with fail
  refine (HI.out _).mono ?_
  rintro en w2 ⟨cv2, qv2, b1, b2, rfl, hp2, hb2⟩
  obtain ⟨⟨a3, c3, e1⟩, a4, c4, e2⟩ := hp2.at.form
  simp only at e1 e2
  subst e1 e2
  obtain ⟨x2, hx2⟩ : ∃ x2, w2.alloc (Obj.cells #[.int .i64 E, .int .i64 N, .slice a3 cs.length c3, .slice a4 qs.length c4] 25) = x2 := ⟨_, rfl⟩
  have sx2 : x2.heap.size = w2.heap.size + 1 := by rw [← hx2]; simp
  have hbx2 : Below w2.heap.size w2 x2 := by rw [← hx2]; exact (Below.refl _ _).alloc (Nat.le_refl _) _
  have HX2 := hide (hp2.below hbx2)
  have HBOX2 : Hid (Box x2 w2.heap.size 25 #[.int .i64 E, .int .i64 N, .slice a3 cs.length c3, .slice a4 qs.length c4]) := by rw [← hx2]; exact Box.new _ _ _
  have HB2 := hide (bjoin hbx2 hb2)
  have HLT : Hid (∀ d ∈ b1 ++ b2, x1.heap.size ≤ d ∧ d < w2.heap.size) := fun d hd => by
    rcases List.mem_append.1 hd with h | h
    · exact ⟨hp2.2.2.2.1 d h, RowC.lt hp2.1 d h⟩
    · exact ⟨hp2.2.2.2.2.1 d h, RowC.lt hp2.2.1 d h⟩
  obtain ⟨p0, p1, p2, p3⟩ := HBOX1.out _ HB2.out
  have q0 : x2.cell? ⟨w2.heap.size, 0, none⟩ = some (.int .i64 E) := HBOX2.out.cell 0 (by simp)
  have q1 : x2.cell? ⟨w2.heap.size, 1, none⟩ = some (.int .i64 N) := HBOX2.out.cell 1 (by simp)
  have q2 : x2.cell? ⟨w2.heap.size, 2, none⟩ = some (.slice a3 cs.length c3) := HBOX2.out.cell 2 (by simp)
  have q3 : x2.cell? ⟨w2.heap.size, 3, none⟩ = some (.slice a4 qs.length c4) := HBOX2.out.cell 3 (by simp)
  clear hp2 hb2 hbx2
  go_wp2_with fail
  refine (HEQ.out _ _ _ _ _ _ _ HX2.out.at (HX1.out.below HB2.out)).mono ?_
  rintro en w3 ⟨rfl, hb3⟩
  have HBOX3 := hide (HBOX2.out.below hb3)
  have q0 : w3.cell? ⟨w2.heap.size, 0, none⟩ = some (.int .i64 E) := HBOX3.out.cell 0 (by simp)
  have q1 : w3.cell? ⟨w2.heap.size, 1, none⟩ = some (.int .i64 N) := HBOX3.out.cell 1 (by simp)
  have q2 : w3.cell? ⟨w2.heap.size, 2, none⟩ = some (.slice a3 cs.length c3) := HBOX3.out.cell 2 (by simp)
  have q3 : w3.cell? ⟨w2.heap.size, 3, none⟩ = some (.slice a4 qs.length c4) := HBOX3.out.cell 3 (by simp)
  have HX3 := hide (HX2.out.below hb3)
  have HB3 := hide (bjoin hb3 HB2.out)
  have hs3 := hb3.size
  clear hb3 p0 p1 p2 p3
  go_wp2_with fail
  refine (HMK.out _ _ _ _ _ _ HX3.out).mono ?_
  rintro en w4 ⟨rfl, hO, hR1, hR2⟩
  have hlow : Below x1.heap.size x1 w4 := HB3.out.trans (hO.below HB3.out.size fun d hd => (HLT.out d hd).1)
  have HBOX4 := hide (HBOX3.out.only hO fun h => by have := (HLT.out _ h).2; omega)
  have q0 : w4.cell? ⟨w2.heap.size, 0, none⟩ = some (.int .i64 E) := HBOX4.out.cell 0 (by simp)
  have q1 : w4.cell? ⟨w2.heap.size, 1, none⟩ = some (.int .i64 N) := HBOX4.out.cell 1 (by simp)
  have q2 : w4.cell? ⟨w2.heap.size, 2, none⟩ = some (.slice a3 cs.length c3) := HBOX4.out.cell 2 (by simp)
  have q3 : w4.cell? ⟨w2.heap.size, 3, none⟩ = some (.slice a4 qs.length c4) := HBOX4.out.cell 3 (by simp)
  have HB4 := hide hlow
  have HR1 := hide hR1
  have HR2 := hide hR2
  clear hO hlow hR1 hR2
  go_wp2_with fail
  refine (HHD.out _ _ _ _ _ HR1.out HR2.out).mono ?_
  rintro en w5 ⟨rfl, hb5⟩
  have HB5 := hide (bjoin hb5 HB4.out)
  clear hb5
  go_wp2_with fail
  refine (HI.out _).mono ?_
  rintro en w6 ⟨cv3, qv3, b3, b4, rfl, hp6, hb6⟩
  obtain ⟨⟨a5, c5, e1⟩, a6, c6, e2⟩ := hp6.at.form
  simp only at e1 e2
  subst e1 e2
  obtain ⟨x6, hx6⟩ : ∃ x6, w6.alloc (Obj.cells #[.int .i64 E, .int .i64 N, .slice a5 cs.length c5, .slice a6 qs.length c6] 25) = x6 := ⟨_, rfl⟩
  have hbx6 : Below w6.heap.size w6 x6 := by rw [← hx6]; exact (Below.refl _ _).alloc (Nat.le_refl _) _
  have HX6 := hide (hp6.below hbx6)
  have HBOX6 : Hid (Box x6 w6.heap.size 25 #[.int .i64 E, .int .i64 N, .slice a5 cs.length c5, .slice a6 qs.length c6]) := by rw [← hx6]; exact Box.new _ _ _
  have HB6 := hide (bjoin hbx6 (bjoin hb6 HB5.out))
  obtain ⟨p0, p1, p2, p3⟩ := HBOX1.out _ HB6.out
  have q0 : x6.cell? ⟨w6.heap.size, 0, none⟩ = some (.int .i64 E) := HBOX6.out.cell 0 (by simp)
  have q1 : x6.cell? ⟨w6.heap.size, 1, none⟩ = some (.int .i64 N) := HBOX6.out.cell 1 (by simp)
  have q2 : x6.cell? ⟨w6.heap.size, 2, none⟩ = some (.slice a5 cs.length c5) := HBOX6.out.cell 2 (by simp)
  have q3 : x6.cell? ⟨w6.heap.size, 3, none⟩ = some (.slice a6 qs.length c6) := HBOX6.out.cell 3 (by simp)
  clear hp6 hb6 hbx6
  go_wp2_with fail
  refine (HEQ.out _ _ _ _ _ _ _ HX6.out.at (HX1.out.below HB6.out)).mono ?_
  rintro en w7 ⟨rfl, hb7⟩
  have HB7 := hide (bjoin (bjoin hb7 HB6.out) HB1.out)
  clear hb7
  go_wp2_with fail
  go_ret
  exact ⟨rfl, HB7.out⟩
end Go.Proofs.Ytfeccdhadgpnkaa.Msg
