import Derived.Test.YtfdefjdogmhinaaDoorDeskPoolwithPoolOut
import Derived.Test.YtfdefjdogmhinaaDoorDeskSendwithDeskOf2
import Derived.Test.YtfdefjdogmhinaaDoorFgtPurewithDeskMap
namespace Go.Proofs.YtfdefjdogmhinaaDoor.Msg
open Go.ChangeShapes Go.WideShapes Go.ChangeAt Go.RowKit
set_option linter.unusedVariables false
set_option linter.unusedSimpArgs false

theorem Ito.up {w w1 : World} (h : Ito w.heap.size w) (hb : Below w.heap.size w w1) : Ito w1.heap.size w1 := fun W hW => h W (bjoin hW hb)
theorem bj2 {B : Nat} {w W c : World} (h2 : Below W.heap.size W c) (h1 : Below B w W) (hB : B ≤ w.heap.size) : Below B w c := h1.trans (h2.mono (by have := h1.size; omega))
set_option maxRecDepth 100000 in
set_option maxHeartbeats 8000000 in
theorem askI_any (x : Pl) (cv qv : Value) (q : Wn) (now : Int) (w : World) {lo : Nat} (hp : PlAt lo w x cv qv) (hz : wnZ q) (hI : Ito w.heap.size w) :
    Calls Tryd.prog 8 #[plV x cv qv, wnV q, .int .i64 now] w (AskI x q now w) := by
  have HZW := hide hz
  obtain ⟨a1, c1, hf1, _⟩ := hp.1.form
  obtain ⟨a2, c2, hf2, _⟩ := hp.2.form
  subst hf1 hf2
  have HZC : Hid (∀ i (h : i < x.conns.length), cnZ x.conns[i]) := fun i h => by obtain ⟨_, _, _, _, _, hz⟩ := at_place hp.1 h; exact hz
  have HZQ : Hid (∀ i (h : i < x.queue.length), wnZ x.queue[i]) := fun i h => by obtain ⟨_, _, _, _, _, hz⟩ := at_place hp.2 h; exact hz
  have HOF := hide (fun W (h : PlAt lo W x (.slice a1 x.conns.length c1) (.slice a2 x.queue.length c2)) => deskOf_any x _ _ now W h)
  unfold plV at HOF
  have HWO := hide (fun W => wantI_any q W hz)
  unfold wnV at HWO
  show Calls Tryd.prog 8 #[.agg #[.int .i64 x.epoch, .int .i64 x.next, .slice a1 x.conns.length c1, .slice a2 x.queue.length c2], .agg #[.int .i64 q.client, .string q.tag, .string q.query, .string q.pointer], .int .i64 now] w _
  obtain ⟨w1, hw1⟩ : ∃ w1, ((w.alloc (Obj.cells #[.int .i64 x.epoch, .int .i64 x.next, .slice a1 x.conns.length c1, .slice a2 x.queue.length c2] 27)).alloc (Obj.cells #[.int .i64 q.client, .string q.tag, .string q.query, .string q.pointer] 33)).alloc (Obj.cells #[.int .i64 0, .int .i64 0, .slice none 0 0, .slice none 0 0] 27) = w1 := ⟨_, rfl⟩
  have HB1 : Hid (Below w.heap.size w w1) := by rw [← hw1]; exact (((Below.refl w.heap.size w).alloc (Nat.le_refl _) _).alloc (by simp) _).alloc (by simp; omega) _
  have HXP : Hid (Box w1 w.heap.size 27 #[.int .i64 x.epoch, .int .i64 x.next, .slice a1 x.conns.length c1, .slice a2 x.queue.length c2]) := by rw [← hw1]; exact ((Box.new w _ _).alloc _).alloc _
  have HXW : Hid (Box w1 (w.heap.size + 1) 33 #[.int .i64 q.client, .string q.tag, .string q.query, .string q.pointer]) := by
    have := (Box.new (w.alloc (Obj.cells #[.int .i64 x.epoch, .int .i64 x.next, .slice a1 x.conns.length c1, .slice a2 x.queue.length c2] 27)) 33 #[.int .i64 q.client, .string q.tag, .string q.query, .string q.pointer]).alloc (Obj.cells #[.int .i64 0, .int .i64 0, .slice none 0 0, .slice none 0 0] 27)
    rw [hw1, Deep.nblk_alloc] at this
    exact this
  have HXR : Hid (Box w1 (w.heap.size + 1 + 1) 27 #[.int .i64 0, .int .i64 0, .slice none 0 0, .slice none 0 0]) := by
    have := Box.new ((w.alloc (Obj.cells #[.int .i64 x.epoch, .int .i64 x.next, .slice a1 x.conns.length c1, .slice a2 x.queue.length c2] 27)).alloc (Obj.cells #[.int .i64 q.client, .string q.tag, .string q.query, .string q.pointer] 33)) 27 #[.int .i64 0, .int .i64 0, .slice none 0 0, .slice none 0 0]
    rw [hw1, Deep.nblk_alloc, Deep.nblk_alloc] at this
    exact this
  have HPL := hide (hp.below HB1.out)
  have HI1 := hide (hI.up HB1.out)
  have KS : Hid (∀ W, Below w1.heap.size w1 W → ((W.cell? ⟨w.heap.size, 0, none⟩ = some (.int .i64 x.epoch) ∧ W.cell? ⟨w.heap.size, 1, none⟩ = some (.int .i64 x.next) ∧ W.cell? ⟨w.heap.size, 2, none⟩ = some (.slice a1 x.conns.length c1) ∧ W.cell? ⟨w.heap.size, 3, none⟩ = some (.slice a2 x.queue.length c2)) ∧ (W.cell? ⟨w.heap.size + 1, 0, none⟩ = some (.int .i64 q.client) ∧ W.cell? ⟨w.heap.size + 1, 1, none⟩ = some (.string q.tag) ∧ W.cell? ⟨w.heap.size + 1, 2, none⟩ = some (.string q.query) ∧ W.cell? ⟨w.heap.size + 1, 3, none⟩ = some (.string q.pointer))) ∧ ((W.cell? ⟨w.heap.size + 1 + 1, 0, none⟩ = some (.int .i64 0) ∧ W.cell? ⟨w.heap.size + 1 + 1, 1, none⟩ = some (.int .i64 0) ∧ W.cell? ⟨w.heap.size + 1 + 1, 2, none⟩ = some (.slice none 0 0) ∧ W.cell? ⟨w.heap.size + 1 + 1, 3, none⟩ = some (.slice none 0 0)) ∧ W.frozen? ⟨w.heap.size + 1 + 1, 0, none⟩ = false ∧ W.frozen? ⟨w.heap.size + 1 + 1, 1, none⟩ = false ∧ W.frozen? ⟨w.heap.size + 1 + 1, 2, none⟩ = false ∧ W.frozen? ⟨w.heap.size + 1 + 1, 3, none⟩ = false) ∧ w.heap.size + 1 + 1 < W.heap.size) := fun W hW => by
    have h2 := HXW.out.below hW
    exact ⟨⟨(HXP.out.below hW).pool.1, h2.cell 0 (by simp), h2.cell 1 (by simp), h2.cell 2 (by simp), h2.cell 3 (by simp)⟩, (HXR.out.below hW).pool, (HXR.out.below hW).lt⟩
  have HB2lt : Hid (w.heap.size + 1 + 1 < w1.heap.size) := HXR.out.lt
  clear hp hI hz
  obtain ⟨⟨⟨p0, p1, p2, p3⟩, q0, q1, q2, q3⟩, ⟨⟨r0, r1, r2, r3⟩, f0, f1, f2, f3⟩, hz9⟩ := KS.out w1 (Below.refl _ _)
  have HBAD : Hid (¬ (okPl x = true ∧ okWn q = true ∧ nowB now = true) → ∀ W, Below w1.heap.size w1 W → ∀ x0 x1 x2 x3, AskI x q now w (.returned (.tuple #[.agg #[.int .i64 0, .int .i64 0, .slice none 0 0, .slice none 0 0], .slice none 0 0, .int .i64 9])) ((((W.setCell ⟨w.heap.size + 1 + 1, 0, none⟩ x0).setCell ⟨w.heap.size + 1 + 1, 1, none⟩ x1).setCell ⟨w.heap.size + 1 + 1, 2, none⟩ x2).setCell ⟨w.heap.size + 1 + 1, 3, none⟩ x3)) := fun h W hW x0 x1 x2 x3 => by
    have e : askP x q now = (pl0, [], 9) := if_neg h
    unfold AskI
    rw [e]
    exact ⟨_, _, _, rfl, PoolSent.none _ _ _ _ _ _ _ _ _ _ (((((bjoin hW HB1.out).setCell (by simp; omega) _).setCell (by simp; omega) _).setCell (by simp; omega) _).setCell (by simp; omega) _)⟩
  by_cases hok : okPl x = true ∧ nowB now = true
  · cases h2 : okWn q with
    | false =>
      rw [h2] at HWO
      have HG := hide (HBAD.out (by rw [h2]; simp))
      clear h2
      go_enter Tryd.func8, Tryd.ntmps8
      go_wp2_with fail
      refine (HOF.out _ HPL.out).mono ?_
      rintro en W ⟨⟨_, _, D, M, Ls, lv, fv, qv2, n, rfl, hdn, hn⟩ | ⟨hno, _⟩, hbW⟩
      case inr => exact absurd hok hno
      obtain ⟨⟨⟨p0, p1, p2, p3⟩, q0, q1, q2, q3⟩, ⟨⟨r0, r1, r2, r3⟩, f0, f1, f2, f3⟩, hz9⟩ := KS.out W hbW
      have HBW := hide hbW
      clear hbW hdn
      go_wp2_with fail
      refine (HWO.out _).mono ?_
      rintro en W2 ⟨rfl, hb2⟩
      obtain ⟨⟨⟨p0, p1, p2, p3⟩, q0, q1, q2, q3⟩, ⟨⟨r0, r1, r2, r3⟩, f0, f1, f2, f3⟩, hz9⟩ := KS.out W2 (bjoin hb2 HBW.out)
      have HB2 := hide (bjoin hb2 HBW.out)
      clear hb2
      go_wp2_with fail
      exact bodyPost_ret (v := .tuple #[.agg #[.int .i64 0, .int .i64 0, .slice none 0 0, .slice none 0 0], .slice none 0 0, .int .i64 9]) (by simp [results, Tryd.results8, go_sem, r0, r1, r2, r3, hz9]) rfl (HG.out _ HB2.out _ _ _ _)
    | true =>
      rw [h2] at HWO
      obtain ⟨g1, g2, g3, g4, g5, g6, g7⟩ := okPl_head_of hok.1
      obtain ⟨g8, g9⟩ := nowB_of hok.2
      by_cases hq16 : x.queue.length = 16
      · have HAP : Hid (askP x q now = (x, [], 1)) := by unfold askP; rw [if_pos ⟨hok.1, h2, hok.2⟩, if_pos (full_free hok.1 hq16)]; exact rfl
        have HQ16 := hide hq16
        clear h2 HBAD hq16
        go_enter Tryd.func8, Tryd.ntmps8
        go_wp2_with fail
        refine (HOF.out _ HPL.out).mono ?_
        rintro en W ⟨⟨_, _, D, M, Ls, lv, fv, qv2, n, rfl, hdn, hn⟩ | ⟨hno, _⟩, hbW⟩
        case inr => exact absurd hok hno
        obtain ⟨⟨⟨p0, p1, p2, p3⟩, q0, q1, q2, q3⟩, ⟨⟨r0, r1, r2, r3⟩, f0, f1, f2, f3⟩, hz9⟩ := KS.out W hbW
        have HBW := hide hbW
        have HDN := hide hdn
        clear hbW hdn
        go_wp2_with fail
        refine (HWO.out _).mono ?_
        rintro en W2 ⟨rfl, hb2⟩
        have HB2 := hide (bjoin hb2 HBW.out)
        have hd2 := HDN.out.desk.below hb2
        obtain ⟨aq, cq, hqf⟩ := hd2.queue.form
        simp only at hqf
        subst hqf
        have d6 : W2.cell? ⟨D, 6, none⟩ = some (.slice aq x.queue.length cq) := hd2.cells.1.2.2.2.2.2.2.1
        have HPI := hide (poolI_any hd2 HZC.out HZQ.out (by rw [hd2.len]; simp only; omega) (by simp only; omega) (HB2.out.size))
        unfold plV at HPI
        have HD2 := hide hd2
        clear hb2 hd2
        have hq16' : (x.queue.length : Int) = 16 := by have := HQ16.out; omega
        go_wp2_with fail
        clear hq16'
        refine HPI.out.mono ?_
        rintro en W3 ⟨cv3, qv3, b1, b2, rfl, hpo, hb1, hb2, hb3⟩
        obtain ⟨⟨a3, c3, e3⟩, a4, c4, e4⟩ := hpo.at.form
        simp only at e3 e4
        subst e3 e4
        obtain ⟨⟨⟨p0, p1, p2, p3⟩, q0, q1, q2, q3⟩, ⟨⟨r0, r1, r2, r3⟩, f0, f1, f2, f3⟩, hz9⟩ := KS.out W3 (bjoin hb3 HB2.out)
        have HF : Hid (∀ x0 x1 x2 x3, PoolSent x [] w (.slice a3 x.conns.length c3) (.slice a4 x.queue.length c4) (.slice none 0 0) ((((W3.setCell ⟨w.heap.size + 1 + 1, 0, none⟩ x0).setCell ⟨w.heap.size + 1 + 1, 1, none⟩ x1).setCell ⟨w.heap.size + 1 + 1, 2, none⟩ x2).setCell ⟨w.heap.size + 1 + 1, 3, none⟩ x3)) := fun x0 x1 x2 x3 =>
          PoolSent.of HD2.out HB1.out HB2.out (B := w.heap.size + 1 + 1) (by omega) HB2lt.out hpo hb1 hb2 hb3 (by simp) (by simp) (((((Only.refl _ _).setCell (by simp) _).setCell (by simp) _).setCell (by simp) _).setCell (by simp) _)
        clear hpo hb1 hb2 hb3
        go_wp2_with fail
        refine bodyPost_ret (v := .tuple #[.agg #[.int .i64 x.epoch, .int .i64 x.next, .slice a3 x.conns.length c3, .slice a4 x.queue.length c4], .slice none 0 0, .int .i64 1]) (by simp [results, Tryd.results8, go_sem, r0, r1, r2, r3, hz9]) rfl ?_
        unfold AskI
        rw [HAP.out]
        exact ⟨_, _, _, rfl, HF.out _ _ _ _⟩
      · obtain ⟨s1, hs1⟩ : ∃ s1 : Ds, (⟨x.epoch, x.next, now, x.conns, freeIdx x.conns, x.queue ++ [q], []⟩ : Ds) = s1 := ⟨_, rfl⟩
        obtain ⟨R, hR⟩ : ∃ R, serveD (x.queue.length + 1) s1 = R := ⟨_, rfl⟩
        have HAP : Hid (askP x q now = (⟨R.epoch, R.next, R.conns, R.queue⟩, R.sent, 0)) := by
          have hs := served s1 (.inl (by rw [← hs1])) (by rw [← hs1])
          have e1 : s1.queue.length = x.queue.length + 1 := by rw [← hs1]; simp
          rw [e1, hR] at hs
          have e2 : serveA now (addQ x q) = serveA s1.now ⟨s1.epoch, s1.next, s1.conns, s1.queue⟩ := by rw [← hs1]; rfl
          unfold askP
          rw [if_pos ⟨hok.1, h2, hok.2⟩, if_neg (fun h => hq16 (by have := h.2; omega)), e2, hs]
          exact rfl
        have HZR := hide (serveD_Z (x.queue.length + 1) s1 (by rw [← hs1]; simp only; omega) (by rw [← hs1]; simp only; omega) (by rw [← hs1]; exact ⟨all_mem HZC.out, fun y hy => by
          rcases List.mem_append.1 hy with h | h
          · exact all_mem HZQ.out y h
          · simp at h; rw [h]; exact HZW.out, by simp⟩))
        rw [hR] at HZR
        have hq16' : ¬ (x.queue.length : Int) = 16 := by omega
        have HS1 := hide hs1
        have HR := hide hR
        clear h2 HBAD hs1 hR
        go_enter Tryd.func8, Tryd.ntmps8
        go_wp2_with fail
        refine (HOF.out _ HPL.out).mono ?_
        rintro en W ⟨⟨_, _, D, M, Ls, lv, fv, qv2, n, rfl, hdn, hn⟩ | ⟨hno, _⟩, hbW⟩
        case inr => exact absurd hok hno
        obtain ⟨⟨⟨p0, p1, p2, p3⟩, q0, q1, q2, q3⟩, ⟨⟨r0, r1, r2, r3⟩, f0, f1, f2, f3⟩, hz9⟩ := KS.out W hbW
        have HBW := hide hbW
        have HDN := hide hdn
        clear hbW hdn
        go_wp2_with fail
        refine (HWO.out _).mono ?_
        rintro en W2 ⟨rfl, hb2⟩
        have HB2 := hide (bjoin hb2 HBW.out)
        have hd2 := HDN.out.below hb2
        obtain ⟨aq, cq, hqf, _⟩ := hd2.fqueue.form
        simp only at hqf
        subst hqf
        have d6 : W2.cell? ⟨D, 6, none⟩ = some (.slice aq x.queue.length cq) := hd2.desk.cells.1.2.2.2.2.2.2.1
        have HD2 := hide hd2
        clear hb2 hd2 p0 p1 p2 p3 q0 q1 q2 q3 r0 r1 r2 r3 f0 f1 f2 f3
        go_wp2_with fail
        obtain ⟨D3, hwd3⟩ : ∃ D3, W2.drew = D3 := ⟨_, rfl⟩
        have hb3 : Below W2.heap.size W2 D3 := by rw [← hwd3]; exact (Below.refl _ _).drew
        have hd3 := HD2.out.below hb3
        have hB3 := bjoin hb3 HB2.out
        obtain ⟨v', W5, hr, hF5, o5, hat⟩ := app1 Tryd.underlying25 info_Want rfl (by decide) wnC_len wnC_one hd3.fqueue 25 q hB3.size (by simp only; omega) (by omega)
        have hr2 : (Builtin.append_ #[25, 25] 25 #[.slice aq x.queue.length cq, .slice (some ⟨D3.heap.size, 0, none⟩) 1 1]).run Tryd.prog (D3.alloc (.cells #[.int .i64 q.client, .string q.tag, .string q.query, .string q.pointer] 33)) = .ok v' W5 := hr
        have hdY := hd3.desk.setQueue hd3.fqueue o5 hF5
        have hB5 : Below w1.heap.size w1 W5 := hB3.trans (o5.below hB3.size fun d hd => (hd3.fqueue.own d hd).1)
        have hbx5 : Box W5 D 58 _ := hd3.desk.box.keepT (TSame.own hd3.fqueue o5 (by decide))
        obtain ⟨av', cv', hsv', _⟩ := hF5.form
        simp only [List.length_append, List.length_singleton] at hsv'
        subst hsv'
        obtain ⟨Y, hY⟩ : ∃ Y, W5.setCell ⟨D, 6, none⟩ (.slice av' (x.queue.length + 1) cv') = Y := ⟨_, rfl⟩
        rw [hY] at hdY
        have HBY : Hid (Below w1.heap.size w1 Y) := by rw [← hY]; exact hB5.setCell (by have := hd3.desk.lows.1; simp; omega) _
        have HCALL := hide (serveI_any sendOk hdY HBY.out.size (HI1.out.keep HBY.out) (by simp only; omega) (by simp only; omega) (by simp only; omega) (by simp only; omega) (by simp only; omega) (by simp only; omega) (by simp) (by omega) (by rw [hdY.len]; simp only; omega) (by simp; omega))
        have HEQ : Hid (serveD (x.queue ++ [q]).length ⟨x.epoch, x.next, now, x.conns, freeIdx x.conns, x.queue ++ [q], []⟩ = R) := by rw [List.length_append, List.length_singleton, HS1.out, HR.out]; exact rfl
        simp only at HCALL
        rw [HEQ.out] at HCALL
        have q7 : D3.cell? ⟨D, 6, none⟩ = some (.slice aq x.queue.length cq) := hd3.desk.cells.1.2.2.2.2.2.2.1
        have hSd : (fun X : World => X.cell? ⟨D, 6, none⟩ = some (.slice aq x.queue.length cq) ∧ X.cell? ⟨w.heap.size + 1, 0, none⟩ = some (.int .i64 q.client) ∧ X.cell? ⟨w.heap.size + 1, 1, none⟩ = some (.string q.tag) ∧ X.cell? ⟨w.heap.size + 1, 2, none⟩ = some (.string q.query) ∧ X.cell? ⟨w.heap.size + 1, 3, none⟩ = some (.string q.pointer)) D3 := ⟨q7, (KS.out D3 hB3).1.2⟩
        have hSa : (fun X : World => X.cell? ⟨D, 6, none⟩ = some (.slice aq x.queue.length cq) ∧ X.cell? ⟨w.heap.size + 1, 0, none⟩ = some (.int .i64 q.client) ∧ X.cell? ⟨w.heap.size + 1, 1, none⟩ = some (.string q.tag) ∧ X.cell? ⟨w.heap.size + 1, 2, none⟩ = some (.string q.query) ∧ X.cell? ⟨w.heap.size + 1, 3, none⟩ = some (.string q.pointer)) (D3.alloc (.cells #[.int .i64 q.client, .string q.tag, .string q.query, .string q.pointer] 33)) := ⟨(((Below.refl D3.heap.size D3).alloc (Nat.le_refl _) _).cell (p := ⟨D, 6, none⟩) hd3.desk.box.lt).trans q7, (KS.out _ (hB3.alloc hB3.size _)).1.2⟩
        have r7 : W5.cell? ⟨D, 6, none⟩ = some (.slice aq x.queue.length cq) := hbx5.cell 6 (by simp)
        have rf7 := hbx5.frozen 6
        have hS6 : (fun X : World => X.cell? ⟨D, 6, none⟩ = some (.slice aq x.queue.length cq) ∧ X.cell? ⟨w.heap.size + 1, 0, none⟩ = some (.int .i64 q.client) ∧ X.cell? ⟨w.heap.size + 1, 1, none⟩ = some (.string q.tag) ∧ X.cell? ⟨w.heap.size + 1, 2, none⟩ = some (.string q.query) ∧ X.cell? ⟨w.heap.size + 1, 3, none⟩ = some (.string q.pointer)) W5 := ⟨r7, (KS.out W5 hB5).1.2⟩
        have HLEN := hide hdY.len
        clear hd3 hr hF5 o5 hat hdY hbx5 hb3 hB5 q7 d6
        have hB3' := hide hB3
        clear hB3
        refine wp_region_two (fun X : World => X.cell? ⟨D, 6, none⟩ = some (.slice aq x.queue.length cq) ∧ X.cell? ⟨w.heap.size + 1, 0, none⟩ = some (.int .i64 q.client) ∧ X.cell? ⟨w.heap.size + 1, 1, none⟩ = some (.string q.tag) ∧ X.cell? ⟨w.heap.size + 1, 2, none⟩ = some (.string q.query) ∧ X.cell? ⟨w.heap.size + 1, 3, none⟩ = some (.string q.pointer)) 8 (by kernel_rfl) ?_
        rw [hwd3]
        refine wpTwo_take (i := 0) (some 29) (v := ?v0) rfl rfl (by kernel_rfl) (by kernel_rfl) (by kernel_rfl) (by kernel_rfl) (fun _ _ _ h => h) hSd (Or.inl ⟨by rfl, ?hy0⟩) ?rest0
        case hy0 => (intro w hSw; (try dsimp only at hSw); go_simp; try with_reducible rfl)
        try simp only [Act.put, List.setIfInBounds_toArray, List.set_cons_zero, List.set_cons_succ]
        refine wpTwo_take (i := 1) (some 30) (v := ?v1) rfl rfl (by kernel_rfl) (by kernel_rfl) (by kernel_rfl) (by kernel_rfl) (fun _ _ _ h => h) hSd (Or.inl ⟨by rfl, ?hy1⟩) ?rest1
        case hy1 => (intro w hSw; (try dsimp only at hSw); go_simp; try with_reducible rfl)
        try simp only [Act.put, List.setIfInBounds_toArray, List.set_cons_zero, List.set_cons_succ]
        refine wpTwo_take (i := 2) (some 31) (v := ?v2) rfl rfl (by kernel_rfl) (by kernel_rfl) (by kernel_rfl) (by kernel_rfl) (fun _ _ _ h => h) hSd (Or.inl ⟨by rfl, ?hy2⟩) ?rest2
        case hy2 => (intro w hSw; (try dsimp only at hSw); go_simp; try with_reducible rfl)
        try simp only [Act.put, List.setIfInBounds_toArray, List.set_cons_zero, List.set_cons_succ]
        refine wpTwo_take (i := 3) (some 32) (v := ?v3) rfl rfl (by kernel_rfl) (by kernel_rfl) (by kernel_rfl) (by kernel_rfl) (fun _ _ _ h => h) hSd (Or.inl ⟨by rfl, ?hy3⟩) ?rest3
        case hy3 => (intro w hSw; (try dsimp only at hSw); go_simp; try with_reducible rfl)
        try simp only [Act.put, List.setIfInBounds_toArray, List.set_cons_zero, List.set_cons_succ]
        refine wpTwo_take (i := 4) (some 33) (v := ?v4) rfl rfl (by kernel_rfl) (by kernel_rfl) (by kernel_rfl) (by kernel_rfl) (fun _ _ _ h => h) hSd (Or.inl ⟨by rfl, ?hy4⟩) ?rest4
        case hy4 => (intro w hSw; (try dsimp only at hSw); go_simp; try with_reducible rfl)
        try simp only [Act.put, List.setIfInBounds_toArray, List.set_cons_zero, List.set_cons_succ]
        refine wpTwo_take (i := 5) (some 34) (v := ?v5) rfl rfl (by kernel_rfl) (by kernel_rfl) (by kernel_rfl) (by kernel_rfl) (fun _ _ _ h => h) hSd (Or.inl ⟨by rfl, ?hy5⟩) ?rest5
        case hy5 => (intro w hSw; (try dsimp only at hSw); go_simp; try with_reducible rfl)
        try simp only [Act.put, List.setIfInBounds_toArray, List.set_cons_zero, List.set_cons_succ]
        refine wpTwo_one (j := 6) (by kernel_rfl) rfl (fun K hK => ?_)
        go_simp
        refine hK.out _ _ (fun _ => hSa) ?_
        clear hK K
        try simp only [Act.put, List.setIfInBounds_toArray, List.set_cons_zero, List.set_cons_succ]
        refine wpTwo_one (j := 7) (by kernel_rfl) rfl (fun K hK => ?_)
        refine step_app rfl _ _ 25 rfl hr2 (by first | rfl | simp [Act.eval, Act.put]) (by first | rfl | simp [Act.eval, Act.put]) ?_
        show K (Act.put _ (some 36) _) _
        refine hK.out _ _ (fun _ => hS6) ?_
        clear hK K
        try simp only [Act.put, List.setIfInBounds_toArray, List.set_cons_zero, List.set_cons_succ]
        refine wpTwo_one (j := 8) (by kernel_rfl) rfl (fun K hK => ?_)
        go_simp
        refine hK.out _ _ (fun h => absurd h (by decide)) ?_
        clear hK K
        refine wpTwo_one (j := 9) (by kernel_rfl) rfl (fun K hK => ?_)
        go_simp
        refine hK.out _ _ (fun h => absurd h (by decide)) ?_
        clear hK K
        refine wpTwo_one (j := 10) (by kernel_rfl) rfl (fun K hK => ?_)
        go_simp
        refine hK.out _ _ (fun h => absurd h (by decide)) ?_
        clear hK K
        refine wpTwo_done (by kernel_rfl) ?_ _
        try rw [hY]
        clear hSd hSa hS6 r7 rf7 hr2 hY
        go_wp2_with fail
        refine HCALL.out.mono ?_
        rintro en W6 ⟨rfl, fv6, qv6, sv6, n6, hd6, hb6, _⟩
        have HB6 := hide (HBY.out.trans hb6)
        obtain ⟨a8, c8, hsf, _⟩ := hd6.sent.form
        subst hsf
        obtain ⟨D7, hwd7⟩ : ∃ D7, W6.drew = D7 := ⟨_, rfl⟩
        have hk0 : Below W6.heap.size W6 W6.drew := (Below.refl _ _).drew
        have hk1 : Below W6.heap.size W6 D7 := by rw [← hwd7]; exact hk0
        have hd7 := hd6.below hk1
        have HB7 := hide (bj2 hk1 HB6.out (Nat.le_refl _))
        have KS7 : Hid (∀ X, Below W6.heap.size W6 X → X.cell? ⟨D, 7, none⟩ = some (.slice a8 R.sent.length c8)) := fun X hX => (hd6.below hX).cells.1.2.2.2.2.2.2.2
        have HPI := hide (poolI_any hd7 (mem_all HZR.out.1.1) (mem_all HZR.out.1.2.1) (by have := HLEN.out; first | omega | (simp only at this; omega)) (by have := HZR.out.2.2.1; rw [← HS1.out] at this; simp at this; omega) HB7.out.size)
        unfold plV at HPI
        have HD7 := hide hd7
        have HNE := hide (show D ≠ w.heap.size + 1 + 1 from by have := hd7.lows.1; have := HB2lt.out; omega)
        clear hd6 hb6 hd7
        go_wp2_with fail
        go_region_held3 (fun X : World => X.cell? ⟨D, 7, none⟩ = some (.slice a8 R.sent.length c8))
          (first | with_reducible exact KS7.out _ hk0 | with_reducible exact KS7.out _ hk1 | with_reducible exact KS7.out _ hS9 | with_reducible exact hS10 _ _ _ _)
          (first | (go_at_call 22; refine HPI.out.mono ?_; rintro e W9 ⟨cv9, qv9, b1, b2, rfl, hpo, hb1, hb2, hb9⟩; obtain ⟨⟨a9, c9, e9⟩, a10, c10, e10⟩ := hpo.at.form; simp only at e9 e10; subst e9 e10; have hS9 : Below W6.heap.size W6 W9 := bjoin hb9 hk1; obtain ⟨_, ⟨⟨r0, r1, r2, r3⟩, f0, f1, f2, f3⟩, hz9⟩ := KS.out W9 (bj2 hb9 HB7.out (Nat.le_refl _)); have hS10 : ∀ x0 x1 x2 x3, ((((W9.setCell ⟨w.heap.size + 1 + 1, 0, none⟩ x0).setCell ⟨w.heap.size + 1 + 1, 1, none⟩ x1).setCell ⟨w.heap.size + 1 + 1, 2, none⟩ x2).setCell ⟨w.heap.size + 1 + 1, 3, none⟩ x3).cell? ⟨D, 7, none⟩ = some (.slice a8 R.sent.length c8) := fun x0 x1 x2 x3 => (cellSame ((four_blk W9 (w.heap.size + 1 + 1) x0 x1 x2 x3).1 D HNE.out)).trans (KS7.out _ hS9)))
        have HF : Hid (∀ x0 x1 x2 x3, PoolSent ⟨R.epoch, R.next, R.conns, R.queue⟩ R.sent w (.slice a9 R.conns.length c9) (.slice a10 R.queue.length c10) (.slice a8 R.sent.length c8) ((((W9.setCell ⟨w.heap.size + 1 + 1, 0, none⟩ x0).setCell ⟨w.heap.size + 1 + 1, 1, none⟩ x1).setCell ⟨w.heap.size + 1 + 1, 2, none⟩ x2).setCell ⟨w.heap.size + 1 + 1, 3, none⟩ x3)) := fun x0 x1 x2 x3 =>
          PoolSent.of HD7.out HB1.out HB7.out (B := w.heap.size + 1 + 1) (by omega) HB2lt.out hpo hb1 hb2 hb9 HZR.out.1.2.2 (by have := HZR.out.2.2.2; rw [← HS1.out] at this; simp at this; omega) (((((Only.refl _ _).setCell (by simp) _).setCell (by simp) _).setCell (by simp) _).setCell (by simp) _)
        clear hpo hb1 hb2 hb9 hS9 hS10
        go_wp2_with fail
        refine bodyPost_ret (v := .tuple #[.agg #[.int .i64 R.epoch, .int .i64 R.next, .slice a9 R.conns.length c9, .slice a10 R.queue.length c10], .slice a8 R.sent.length c8, .int .i64 0]) (by simp [results, Tryd.results8, go_sem, r0, r1, r2, r3, hz9]) rfl ?_
        unfold AskI
        rw [HAP.out]
        exact ⟨_, _, _, rfl, HF.out _ _ _ _⟩
  · have HG := hide (HBAD.out (fun h => hok ⟨h.1, h.2.2⟩))
    go_enter Tryd.func8, Tryd.ntmps8
    go_wp2_with fail
    refine (HOF.out _ HPL.out).mono ?_
    rintro en W ⟨⟨h1, h2, _⟩ | ⟨hno, rfl⟩, hbW⟩
    case inl => exact absurd ⟨h1, h2⟩ hok
    obtain ⟨⟨⟨p0, p1, p2, p3⟩, q0, q1, q2, q3⟩, ⟨⟨r0, r1, r2, r3⟩, f0, f1, f2, f3⟩, hz9⟩ := KS.out W hbW
    have HBW := hide hbW
    clear hbW
    go_wp2_with fail
    exact bodyPost_ret (v := .tuple #[.agg #[.int .i64 0, .int .i64 0, .slice none 0 0, .slice none 0 0], .slice none 0 0, .int .i64 9]) (by simp [results, Tryd.results8, go_sem, r0, r1, r2, r3, hz9]) rfl (HG.out _ HBW.out _ _ _ _)
end Go.Proofs.YtfdefjdogmhinaaDoor.Msg

namespace Go.Proofs.YtfdefjdogmhinaaDoor.Msg
open Go.ChangeShapes Go.WideShapes Go.ChangeAt Go.RowKit
set_option linter.unusedVariables false
set_option linter.unusedSimpArgs false

/-- what deskOf gives, and what its map holds -/
def OfPost3 (x : Pl) (now : Int) (w : World) (en : Ending) (w' : World) : Prop :=
  ((okPl x = true ∧ nowB now = true ∧ ∃ D M Ls lv fv qv2 n, en = .returned (.pointer (some ⟨D, 0, none⟩)) ∧ DeskN w.heap.size w' D M Ls ⟨x.epoch, x.next, now, x.conns, freeIdx x.conns, x.queue, []⟩ lv fv qv2 (.slice none 0 0) n ∧ n ≤ x.conns.length ∧ MapF w' M n (outF x.conns Ls)) ∨ (¬ (okPl x = true ∧ nowB now = true) ∧ en = .returned (.pointer none))) ∧ Below w.heap.size w w'

set_option maxRecDepth 100000 in
set_option maxHeartbeats 6000000 in
theorem deskOf3_any (x : Pl) (cv qv : Value) (now : Int) (w : World) {lo : Nat} (hp : PlAt lo w x cv qv) :
    Calls Tryd.prog 20 #[plV x cv qv, .int .i64 now] w (OfPost3 x now w) := by
  have HPI := hide (fun W (h : PlAt lo W x cv qv) => poolOkI_any x cv qv W h)
  obtain ⟨a1, c1, hf1, _⟩ := hp.1.form
  obtain ⟨a2, c2, hf2, _⟩ := hp.2.form
  subst hf1 hf2
  unfold plV at HPI ⊢
  obtain ⟨w1, hw1⟩ : ∃ w1, w.alloc (Obj.cells #[.int .i64 x.epoch, .int .i64 x.next, .slice a1 x.conns.length c1, .slice a2 x.queue.length c2] 27) = w1 := ⟨_, rfl⟩
  have HB1 : Hid (Below w.heap.size w w1) := by rw [← hw1]; exact (Below.refl _ _).alloc (Nat.le_refl _) _
  have HX1 : Hid (Box w1 w.heap.size 27 #[.int .i64 x.epoch, .int .i64 x.next, .slice a1 x.conns.length c1, .slice a2 x.queue.length c2]) := by rw [← hw1]; exact Box.new _ _ _
  have HPL := hide hp
  have HBAD : Hid (¬ (okPl x = true ∧ nowB now = true) → ∀ W, Below w.heap.size w W → OfPost3 x now w (.returned (.pointer none)) W) := fun h W hW => ⟨.inr ⟨h, rfl⟩, hW⟩
  obtain ⟨⟨p0, p1, p2, p3⟩, _⟩ := HX1.out.pool
  clear hp
  cases h1 : okPl x with
  | false =>
    rw [h1] at HPI
    have HG := hide (HBAD.out (by rw [h1]; simp))
    clear h1
    go_enter Tryd.func20, Tryd.ntmps20
    go_wp2_with fail
    refine (HPI.out _ (HPL.out.below HB1.out)).mono ?_
    rintro en W ⟨rfl, hbW⟩
    have HBW := hide (bjoin hbW HB1.out)
    clear hbW
    go_wp2_with fail
    go_ret
    exact HG.out _ HBW.out
  | true =>
    rw [h1] at HPI
    by_cases h2 : now < 0
    · have HG := hide (HBAD.out (fun h => by have := nowB_of h.2; omega))
      clear h1
      go_enter Tryd.func20, Tryd.ntmps20
      go_wp2_with fail
      refine (HPI.out _ (HPL.out.below HB1.out)).mono ?_
      rintro en W ⟨rfl, hbW⟩
      have HBW := hide (bjoin hbW HB1.out)
      clear hbW
      go_wp2_with fail
      go_ret
      exact HG.out _ HBW.out
    · by_cases h3 : 900000000 < now
      · have HG := hide (HBAD.out (fun h => by have := nowB_of h.2; omega))
        clear h1
        go_enter Tryd.func20, Tryd.ntmps20
        go_wp2_with fail
        refine (HPI.out _ (HPL.out.below HB1.out)).mono ?_
        rintro en W ⟨rfl, hbW⟩
        have HBW := hide (bjoin hbW HB1.out)
        clear hbW
        go_wp2_with fail
        go_ret
        exact HG.out _ HBW.out
      · have hnb : nowB now = true := decide_eq_true (by omega)
        have HOK := hide (And.intro h1 hnb)
        obtain ⟨g1, g2, g3, g4, g5, g6, g7⟩ := okPl_head_of h1
        have HCL := hide (fun W (h : WnsAt lo W (.slice a2 x.queue.length c2) x.queue) => clone_any x.queue _ W h (by omega))
        clear h1 hnb HBAD
        have hmm := @run_makeMap Tryd.prog
        go_enter Tryd.func20, Tryd.ntmps20
        go_wp2_with fail
        refine (HPI.out _ (HPL.out.below HB1.out)).mono ?_
        rintro en W ⟨rfl, hbW⟩
        have HBW := hide (bjoin hbW HB1.out)
        have HXW := hide (HX1.out.below hbW)
        have KS : Hid (∀ X, Below W.heap.size W X → X.cell? ⟨w.heap.size, 0, none⟩ = some (.int .i64 x.epoch) ∧ X.cell? ⟨w.heap.size, 1, none⟩ = some (.int .i64 x.next) ∧ X.cell? ⟨w.heap.size, 3, none⟩ = some (.slice a2 x.queue.length c2)) := fun X hX => by
          obtain ⟨⟨e0, e1, e2, e3⟩, _⟩ := (HXW.out.below hX).pool
          exact ⟨e0, e1, e3⟩
        have hk0 : Below W.heap.size W W.drew := (Below.refl _ _).drew
        obtain ⟨D1, hwd⟩ : ∃ D1, W.drew = D1 := ⟨_, rfl⟩
        have hk1 : Below W.heap.size W D1 := by rw [← hwd]; exact hk0
        have hk2 : ∀ o, Below W.heap.size W (D1.alloc o) := fun o => hk1.alloc hk1.size o
        have HQW : Hid (∀ X, Below W.heap.size W X → WnsAt lo X (.slice a2 x.queue.length c2) x.queue) := fun X hX => At.kept kept_flat HPL.out.2 (bjoin hX HBW.out)
        clear hbW p0 p1 p2 p3
        go_wp2_with fail
        go_region_held3 (fun X => X.cell? ⟨w.heap.size, 0, none⟩ = some (.int .i64 x.epoch) ∧ X.cell? ⟨w.heap.size, 1, none⟩ = some (.int .i64 x.next) ∧ X.cell? ⟨w.heap.size, 3, none⟩ = some (.slice a2 x.queue.length c2))
          (first | with_reducible exact KS.out _ hk0 | with_reducible exact KS.out _ hk1 | with_reducible exact KS.out _ (hk2 _) | with_reducible exact KS.out _ hS1 | with_reducible exact KS.out _ (hS2 _) | with_reducible exact KS.out _ (hS3 _ _))
          (first | (go_at_call 40; refine (HCL.out _ (by first | with_reducible exact HQW.out _ hk1 | with_reducible exact HQW.out _ (hk2 _))).mono ?_; rintro e W2 ⟨u, rfl, hu, hb2⟩; have hS1 : Below W.heap.size W W2 := (by first | with_reducible exact bjoin hb2 hk1 | with_reducible exact bjoin hb2 (hk2 _)); obtain ⟨au, cu, hfu, hcu⟩ := hu.form; subst hfu; have hS2 : ∀ o, Below W.heap.size W (W2.alloc o) := fun o => hS1.alloc hS1.size o; have hS3 : ∀ o o2, Below W.heap.size W ((W2.alloc o).alloc o2) := fun o o2 => (hS2 o).alloc (hS2 o).size o2))
        all_goals first
          | (
              have hu0 : FB wnC 4 33 w.heap.size W2 (.slice au x.queue.length cu) x.queue := hu.mono (by have := HBW.out.size; have := hk1.size; first | omega | (rw [Deep.nblk_alloc]; omega))
              have hmo : MapO W2 D1.heap.size 0 := ⟨_, (World.ownsMap_made D1 Tryd.prog 66 ptrElem).kept (row := none) ⟨hb2.os, hb2.tape, hb2.output, hb2.size, fun k hk _ => hb2.block k hk⟩ (by simp)⟩
              have hwn : W.heap.size ≤ D1.heap.size := hk1.size
              have hmf : MapF W2 D1.heap.size 0 (fun _ _ => none) := (MapF.new D1).keep (hb2.block D1.heap.size (by simp))
              have hw0 : w.heap.size ≤ W.heap.size := HBW.out.size
              have hd1 : D1.heap.size ≤ W2.heap.size := by have := hb2.size; first | omega | (rw [Deep.nblk_alloc] at this; omega)
              have hBx : Below W.heap.size W W2 := by first | with_reducible exact hS1 | with_reducible exact hS2 _
              have hu1 : FB wnC 4 33 w.heap.size W2 (.slice au x.queue.length cu) x.queue := by first | with_reducible exact hu0 | exact hu0.below ((Below.refl _ _).alloc (Nat.le_refl _) _)
              have hlM : w.heap.size ≤ D1.heap.size := by omega
              have hlD : w.heap.size ≤ (W2).heap.size := by first | omega | (rw [Deep.nblk_alloc]; omega)
              obtain ⟨M, hM⟩ : ∃ M, D1.heap.size = M := ⟨_, rfl⟩
              obtain ⟨V, hV⟩ : ∃ V, W2 = V := ⟨_, rfl⟩
              obtain ⟨D, hD⟩ : ∃ D, V.heap.size = D := ⟨_, rfl⟩
              obtain ⟨W3, hW3⟩ : ∃ W3, V.alloc (Obj.cells #[.int .i64 x.epoch, .int .i64 x.next, .int .i64 now, .slice none 0 0, .slice none 0 0, .map (some M), .slice au x.queue.length cu, .slice none 0 0] 58) = W3 := ⟨_, rfl⟩
              rw [hM, hV] at hmo hmf
              rw [hV] at hBx hu1 hlD
              rw [hM] at hlM
              rw [hD] at hlD
              have hb3 : Below V.heap.size V W3 := by rw [← hW3]; exact (Below.refl _ _).alloc (Nat.le_refl _) _
              have HN : Hid (DeskN w.heap.size W3 D M [] ⟨x.epoch, x.next, now, [], [], x.queue, []⟩ (.slice none 0 0) (.slice none 0 0) (.slice au x.queue.length cu) (.slice none 0 0) 0) := DeskN.fresh (hmo.keep (hb3.block M hmo.lt)) (hu1.below hb3) (by rw [← hW3, ← hD]; exact Box.new _ _ _) hlM hlD
              have HMF : Hid (MapF W3 M 0 (outF (x.conns.take 0) [])) := by rw [List.take_zero, outF_nil]; exact hmf.keep (hb3.block M hmo.lt)
              have HB3 : Hid (Below w.heap.size w W3) := bjoin (bjoin hb3 hBx) HBW.out
              have p2 : W3.cell? ⟨w.heap.size, 2, none⟩ = some (.slice a1 x.conns.length c1) := (((HXW.out.below hBx).below hb3).pool).1.2.2.1
              first | rw [hM, hV, hD, hW3] | (subst hV; rw [hM, hD, hW3]) | (simp only [hM]; simp only [hV]; simp only [hD]; rw [hW3])
              clear hu hu0 hmo hmf hBx hu1 hb3 hS1 hS2 hS3 hb2 hlM hlD)
          | (
              have hu0 : FB wnC 4 33 w.heap.size W2 (.slice au x.queue.length cu) x.queue := hu.mono (by have := HBW.out.size; have := hk1.size; first | omega | (rw [Deep.nblk_alloc]; omega))
              have hmo : MapO (W2.alloc (Obj.map #[] 0)) W2.heap.size 0 := MapO.new W2
              have hwn : W.heap.size ≤ D1.heap.size := hk1.size
              have hmf : MapF (W2.alloc (Obj.map #[] 0)) W2.heap.size 0 (fun _ _ => none) := MapF.new W2
              have hw0 : w.heap.size ≤ W.heap.size := HBW.out.size
              have hd1 : D1.heap.size ≤ W2.heap.size := by have := hb2.size; first | omega | (rw [Deep.nblk_alloc] at this; omega)
              have hBx : Below W.heap.size W (W2.alloc (Obj.map #[] 0)) := by first | with_reducible exact hS1 | with_reducible exact hS2 _
              have hu1 : FB wnC 4 33 w.heap.size (W2.alloc (Obj.map #[] 0)) (.slice au x.queue.length cu) x.queue := by first | with_reducible exact hu0 | exact hu0.below ((Below.refl _ _).alloc (Nat.le_refl _) _)
              have hlM : w.heap.size ≤ W2.heap.size := by omega
              have hlD : w.heap.size ≤ (W2.alloc (Obj.map #[] 0)).heap.size := by first | omega | (rw [Deep.nblk_alloc]; omega)
              obtain ⟨M, hM⟩ : ∃ M, W2.heap.size = M := ⟨_, rfl⟩
              obtain ⟨V, hV⟩ : ∃ V, (W2.alloc (Obj.map #[] 0)) = V := ⟨_, rfl⟩
              obtain ⟨D, hD⟩ : ∃ D, V.heap.size = D := ⟨_, rfl⟩
              obtain ⟨W3, hW3⟩ : ∃ W3, V.alloc (Obj.cells #[.int .i64 x.epoch, .int .i64 x.next, .int .i64 now, .slice none 0 0, .slice none 0 0, .map (some M), .slice au x.queue.length cu, .slice none 0 0] 58) = W3 := ⟨_, rfl⟩
              rw [hM, hV] at hmo hmf
              rw [hV] at hBx hu1 hlD
              rw [hM] at hlM
              rw [hD] at hlD
              have hb3 : Below V.heap.size V W3 := by rw [← hW3]; exact (Below.refl _ _).alloc (Nat.le_refl _) _
              have HN : Hid (DeskN w.heap.size W3 D M [] ⟨x.epoch, x.next, now, [], [], x.queue, []⟩ (.slice none 0 0) (.slice none 0 0) (.slice au x.queue.length cu) (.slice none 0 0) 0) := DeskN.fresh (hmo.keep (hb3.block M hmo.lt)) (hu1.below hb3) (by rw [← hW3, ← hD]; exact Box.new _ _ _) hlM hlD
              have HMF : Hid (MapF W3 M 0 (outF (x.conns.take 0) [])) := by rw [List.take_zero, outF_nil]; exact hmf.keep (hb3.block M hmo.lt)
              have HB3 : Hid (Below w.heap.size w W3) := bjoin (bjoin hb3 hBx) HBW.out
              have p2 : W3.cell? ⟨w.heap.size, 2, none⟩ = some (.slice a1 x.conns.length c1) := (((HXW.out.below hBx).below hb3).pool).1.2.2.1
              have hD2 : W2.heap.size + 1 = D := by rw [← hD, ← hV]; simp
              first | rw [hD2, hM, hV, hW3] | (simp only [hD2, hM, hV]; rw [hW3])
              clear hu hu0 hmo hmf hBx hu1 hb3 hS1 hS2 hS3 hb2 hlM hlD)
        all_goals
          go_wp2_with fail
          go_loopg [34] x.conns.length (fun q i wx => ∃ (k : Nat) (Ls : List Nat) (lv fv : Value) (n : Nat), k ≤ x.conns.length ∧ q = x.conns.length - k ∧ i = .int .i64 k ∧ DeskN w.heap.size wx D M Ls ⟨x.epoch, x.next, now, x.conns.take k, freeIdx (x.conns.take k), x.queue, []⟩ lv fv (.slice au x.queue.length cu) (.slice none 0 0) n ∧ n ≤ k ∧ Below w.heap.size w wx ∧ MapF wx M n (outF (x.conns.take k) Ls))
          case atStart => exact ⟨0, [], _, _, 0, Nat.zero_le _, rfl, rfl, HN.out, Nat.le_refl _, HB3.out, HMF.out⟩
          case round =>
            obtain ⟨k, Ls, lv, fv, n, hk, rfl, rfl, hdn, hnk, hb, hmf⟩ := hrel
            by_cases hlt : k < x.conns.length
            · obtain ⟨b, off, rfl, hbl, hel, hz⟩ := at_place HPL.out.1 hlt
              have hi : (k : Int) < (x.conns.length : Int) := by omega
              obtain ⟨c, hc⟩ : ∃ c, x.conns[k] = c := ⟨_, rfl⟩
              rw [hc] at hel hz
              have hown : ∀ j (hj : j < 7), wr.cell? ⟨b, off + k * 7 + j, none⟩ = some ((cnC c)[j]'(by rw [cnC_len]; exact hj)) := fun j hj => by
                rw [hb.cell (p := ⟨b, off + k * 7 + j, none⟩) hbl]
                exact hel j (by rw [cnC_len]; exact hj)
              have g0 : wr.cell? ⟨b, off + k * 7, none⟩ = some (.bool c.busy) := hown 0 (by omega)
              have g1 : wr.cell? ⟨b, off + k * 7 + 1, none⟩ = some (.string c.control) := hown 1 (by omega)
              have g2 : wr.cell? ⟨b, off + k * 7 + 2, none⟩ = some (.int .i64 c.want.client) := hown 2 (by omega)
              have g3 : wr.cell? ⟨b, off + k * 7 + 3, none⟩ = some (.string c.want.tag) := hown 3 (by omega)
              have g4 : wr.cell? ⟨b, off + k * 7 + 4, none⟩ = some (.string c.want.query) := hown 4 (by omega)
              have g5 : wr.cell? ⟨b, off + k * 7 + 5, none⟩ = some (.string c.want.pointer) := hown 5 (by omega)
              have g6 : wr.cell? ⟨b, off + k * 7 + 6, none⟩ = some (.int .i64 c.due) := hown 6 (by omega)
              have hlen : Ls.length = k := by have := hdn.desk.len; simp only [List.length_take] at this; omega
              obtain ⟨V1, hV1⟩ : ∃ V, wr.alloc (Obj.cells #[.bool c.busy, .string c.control, .int .i64 c.want.client, .string c.want.tag, .string c.want.query, .string c.want.pointer, .int .i64 c.due] 37) = V := ⟨_, rfl⟩
              have hb1 : Below wr.heap.size wr V1 := by rw [← hV1]; exact (Below.refl _ _).alloc (Nat.le_refl _) _
              have hbx1 : Box V1 wr.heap.size 37 #[.bool c.busy, .string c.control, .int .i64 c.want.client, .string c.want.tag, .string c.want.query, .string c.want.pointer, .int .i64 c.due] := by rw [← hV1]; exact Box.new _ _ _
              have m0 : V1.cell? ⟨wr.heap.size, 0, none⟩ = some (.bool c.busy) := hbx1.cell 0 (by simp)
              have m1 : V1.cell? ⟨wr.heap.size, 1, none⟩ = some (.string c.control) := hbx1.cell 1 (by simp)
              have m2 : V1.cell? ⟨wr.heap.size, 2, none⟩ = some (.int .i64 c.want.client) := hbx1.cell 2 (by simp)
              have m3 : V1.cell? ⟨wr.heap.size, 3, none⟩ = some (.string c.want.tag) := hbx1.cell 3 (by simp)
              have m4 : V1.cell? ⟨wr.heap.size, 4, none⟩ = some (.string c.want.query) := hbx1.cell 4 (by simp)
              have m5 : V1.cell? ⟨wr.heap.size, 5, none⟩ = some (.string c.want.pointer) := hbx1.cell 5 (by simp)
              have m6 : V1.cell? ⟨wr.heap.size, 6, none⟩ = some (.int .i64 c.due) := hbx1.cell 6 (by simp)
              obtain ⟨V2, hV2⟩ : ∃ V, V1.alloc (Obj.cells #[.bool c.busy, .string c.control, .int .i64 c.want.client, .string c.want.tag, .string c.want.query, .string c.want.pointer, .int .i64 c.due, .int .i64 (k : Int)] 68) = V := ⟨_, rfl⟩
              have hb2 : Below V1.heap.size V1 V2 := by rw [← hV2]; exact (Below.refl _ _).alloc (Nat.le_refl _) _
              have hbL : Box V2 V1.heap.size 68 (lnA c k) := by rw [← hV2]; exact Box.new _ _ _
              have hbb : Below wr.heap.size wr V2 := bjoin hb2 hb1
              have hd2 := hdn.below hbb
              have hs1 : wr.heap.size ≤ V1.heap.size := hb1.size
              have hs0 : w.heap.size ≤ wr.heap.size := hb.size
              have hsV : V1.heap.size < V2.heap.size := hbL.lt
              obtain ⟨L, hL⟩ : ∃ L, V1.heap.size = L := ⟨_, rfl⟩
              rw [hL] at hbL hs1 hsV
              have hnew : L ∉ Ls := fun h => by
                obtain ⟨i, hi, e⟩ := List.getElem_of_mem h
                have := (hdn.desk.line i hi (by rw [← hdn.desk.len]; exact hi)).lt
                omega
              obtain ⟨v3, V3, hr3, hF3, o3, hat3⟩ := app1 Tryd.underlying55 info_Ptr rfl (by decide) ptrC_len ptrC_one hd2.desk.lrow 55 L (by omega) (by omega) (by omega)
              have hsepF : ∀ d ∈ fv.ownBlock.toList, V3.heap[d]? = V2.heap[d]? := fun d hd => o3.block d (hd2.ffree.own d hd).2 (hd2.sep d hd)
              have hF3f := hd2.ffree.keep hsepF
              have hd4 := hd2.desk.addLine (c := c) (by rw [hlen]; exact hbL) (by omega) hnew o3 hF3 (FV.of_own ptrC_len hF3f (Nat.le_refl _))
              simp only at hd4
              rw [← hc, take_snoc x.conns k hlt] at hd4
              obtain ⟨V4, hV4⟩ : ∃ V, V3.setCell ⟨D, 3, none⟩ v3 = V := ⟨_, rfl⟩
              rw [hV4] at hd4
              have hbox3 : Box V3 D 58 _ := hd2.desk.box.keepT (TSame.own hd2.desk.lrow o3 (by decide))
              have oD4 : Only [D] V3 V4 := by rw [← hV4]; exact (Only.refl _ _).setCell (by simp) _
              have hF4f : FB ptrC 1 64 w.heap.size V4 fv _ := hF3f.keepT (TSame.only oD4 hbox3 (by decide))
              have hQ4 : FB wnC 4 33 w.heap.size V4 (.slice au x.queue.length cu) x.queue := (hd2.fqueue.keepT (TSame.own hd2.desk.lrow o3 (by decide))).keepT (TSame.only oD4 hbox3 (by decide))
              have hbl4 : Below w.heap.size w V4 := by
                have c1 := bjoin hbb hb
                have c2 := c1.trans (o3.below c1.size fun d hd => (hd2.desk.lrow.own d hd).1)
                rw [← hV4]
                exact c2.setCell (by have := hd2.desk.lows.1; simpa using this) _
              have HMF4 : Hid (MapF V4 M n (outF (x.conns.take k) Ls)) := by
                have e1 := hbb.block M hdn.desk.map.lt
                have e2 := o3.block M hd2.desk.map.lt fun hx => by obtain ⟨cur, hbx⟩ := hd2.desk.lrow.box M hx; exact (hd2.desk.map.ne hbx) rfl
                have e3 : V4.heap[M]? = V3.heap[M]? := oD4.block M (by have := hd2.desk.map.lt; have := o3.size; omega) (by simp; exact fun e => (hd2.desk.map.ne hd2.desk.box) e.symm)
                exact hmf.keep (e3.trans (e2.trans e1))
              clear hmf
              have hL4 : Box V4 L 68 (lnA c k) := ((hbL.keepT (TSame.own hd2.desk.lrow o3 (by decide)))).keepT (TSame.only oD4 hbox3 (by decide))
              have hsep4 : ∀ d ∈ fv.ownBlock.toList, d ∉ v3.ownBlock.toList := fun d hd h => by
                rcases hat3 with h3 | ⟨g, h3, hg⟩
                · rw [h3] at h; exact hd2.sep d hd h
                · rw [h3] at h; simp at h; subst h; have := (hd2.ffree.own _ hd).2; omega
              have q3 : V2.cell? ⟨D, 3, none⟩ = some lv := hd2.desk.cells.1.2.2.2.1
              have r3 : V3.cell? ⟨D, 3, none⟩ = some lv := hbox3.cell 3 (by simp)
              have rf3 := hbox3.frozen 3
              have q5 : V4.cell? ⟨L, 0, none⟩ = some (.bool c.busy) := hL4.line7.1.1
              obtain ⟨al, cl, hlf, _⟩ := hd2.desk.lrow.form
              obtain ⟨a3, c3, hf3, _⟩ := hF3.form
              rw [List.length_append, List.length_singleton] at hf3
              have hr3' : (Builtin.append_ #[55, 55] 55 #[lv, .slice (some ⟨V2.heap.size, 0, none⟩) 1 1]).run Tryd.prog (V2.alloc (.cells #[.pointer (some ⟨L, 0, none⟩)] 64)) = .ok v3 V3 := hr3
              subst hlf hf3
              have HD4 := hide hd4
              have HF4 := hide hF4f
              have HQ4 := hide hQ4
              have HL4 := hide hL4
              have HSEP := hide hsep4
              have HBL := hide hbl4
              have HCZ := hide hz
              have HC := hide hc
              have hszb : c.control.size ≤ 9223372036854775807 := hz.1
              have hLlen : (Ls ++ [L]).length = k + 1 := by simp [hlen]
              have hLk : (Ls ++ [L]).getD k 0 = L := by rw [List.getD_eq_getElem?_getD, List.getElem?_append_right (by omega), hlen]; simp
              clear hel hown hb1 hbx1 hb2 hbL hbb hd2 hr3 hF3 o3 hat3 hsepF hF3f hd4 hbox3 oD4 hF4f hQ4 hbl4 hL4 hsep4 hc hz hdn hb
              cases hbz : c.busy with
              | true =>
                have q4 : V4.cell? ⟨D, 5, none⟩ = some (.map (some M)) := HD4.out.cells.1.2.2.2.2.2.1
                have KS5 : Hid (∀ X, Below V4.heap.size V4 X → X.cell? ⟨D, 5, none⟩ = some (.map (some M))) := fun X hX => (HD4.out.below hX).cells.1.2.2.2.2.2.1
                have hD5' : Below V4.heap.size V4 V4.drew := (Below.refl _ _).drew
                obtain ⟨D5, hwd5⟩ : ∃ D5, V4.drew = D5 := ⟨_, rfl⟩
                have hD5 : Below V4.heap.size V4 D5 := by rw [← hwd5]; exact hD5'
                have HPUT : Hid (∀ X, Below V4.heap.size V4 X → ∃ W', (Instr.mapUpdate 56 (.map (some M)) (.agg #[.int .i64 (k : Int), .string c.control]) (.pointer (some ⟨L, 0, none⟩))).run Tryd.prog X = .ok () W' ∧ MapO W' M (n + 1) ∧ Only [M] X W') := fun X hX => (HD4.out.below hX).map.put (by omega) (k : Int) c.control L (by simp [Lit.wf, IntKind.min, IntKind.max, IntKind.signed, IntKind.bits]; omega) hszb
                have hfix : freeIdx (x.conns.take (k + 1)) = freeIdx (x.conns.take k) := by
                  rw [← take_snoc x.conns k hlt, HC.out]
                  unfold freeIdx
                  rw [freeGo_snoc, hbz]
                  simp
                have HFIX := hide hfix
                have HBZ := hide hbz
                clear hfix
                rw [hbz] at q5
                have HLEN := hide hlen
                clear hbz hlen hLlen
                go_wp2_with (first | (at_builtin; refine wpList_app rfl _ _ 55 rfl hr3' (by first | rfl | simp [Act.eval, Act.put]) (by first | rfl | simp [Act.eval, Act.put]) ?_))
                go_region_held3 (fun X => X.cell? ⟨D, 5, none⟩ = some (.map (some M)))
                  (first | with_reducible exact KS5.out _ hD5' | with_reducible exact KS5.out _ hD5 | with_reducible exact KS5.out _ hS5 | with_reducible exact hcM6)
                  (first | (go_at_call 41; refine (lineKey_any c k L _ (HL4.out.below hD5)).mono ?_; rintro e V5 ⟨rfl, hb5⟩; have hS5 : Below V4.heap.size V4 V5 := bjoin hb5 hD5; obtain ⟨V6, hr6, hm6, ho6⟩ := HPUT.out V5 hS5; have hcM6 : V6.cell? ⟨D, 5, none⟩ = some (.map (some M)) := ((HD4.out.below hS5).mapSet ho6 hm6).cells.1.2.2.2.2.2.1))
                have hlen := HLEN.out
                have hd6 := (HD4.out.below hS5).mapSet ho6 hm6
                have HNX : Hid (DeskN w.heap.size V6 D M (Ls ++ [L]) ⟨x.epoch, x.next, now, x.conns.take (k + 1), freeIdx (x.conns.take (k + 1)), x.queue, []⟩ (.slice a3 (Ls.length + 1) c3) fv (.slice au x.queue.length cu) (.slice none 0 0) (n + 1) ∧ Below w.heap.size w V6 ∧ MapF V6 M (n + 1) (outF (x.conns.take (k + 1)) (Ls ++ [L]))) := by
                  have hMF6 : MapF V6 M (n + 1) (outF (x.conns.take (k + 1)) (Ls ++ [L])) := by
                    have h1 := (HMF4.out.keep (hS5.block M HD4.out.map.lt)).put (by omega) (k : Int) c.control L (by simp [Lit.wf, IntKind.min, IntKind.max, IntKind.signed, IntKind.bits]; omega) hszb hr6
                    rw [← take_snoc x.conns k hlt, HC.out, outF_busy (by rw [hlen, List.length_take]; omega) HBZ.out, List.length_take, show min k x.conns.length = k by omega]
                    exact h1
                  rw [HFIX.out]
                  refine ⟨⟨hd6, ?_, HSEP.out, ?_⟩, ?_, hMF6⟩
                  · have e : ((freeIdx (x.conns.take k)).map fun i => (Ls ++ [L]).getD i 0) = (freeIdx (x.conns.take k)).map fun i => Ls.getD i 0 := List.map_congr_left fun i hi => getD_snoc (by have := freeGo_lt 0 _ i hi; simp only [List.length_take] at this; omega)
                    simp only [e]
                    exact (HF4.out.below hS5).keepT (TSame.map ho6 (HD4.out.below hS5).map)
                  · exact (HQ4.out.below hS5).keepT (TSame.map ho6 (HD4.out.below hS5).map)
                  · have c1 := bjoin hS5 HBL.out
                    exact c1.trans (ho6.below c1.size fun d hd => by simp at hd; have := HD4.out.lows.2.1; omega)
                clear hd6 hr6 hm6 ho6 hcM6 hb5
                go_wp2_with fail
                go_roundg (x.conns.length - (k + 1))
                case measure => omega
                case rel => exact ⟨k + 1, Ls ++ [L], _, fv, n + 1, by omega, rfl, by go_num, HNX.out.1, by omega, HNX.out.2.1, HNX.out.2.2⟩
              | false =>
                obtain ⟨v5, V5, hr5, hF5, o5, hat5⟩ := app1 Tryd.underlying55 info_Ptr rfl (by decide) ptrC_len ptrC_one HF4.out 55 L HBL.out.size (by have := freeGo_lt 0 (x.conns.take k); rw [List.length_map]; exact Nat.le_trans (freeGo_len 0 _) (by simp only [List.length_take]; omega)) (by omega)
                have HFIX : Hid (freeIdx (x.conns.take (k + 1)) = freeIdx (x.conns.take k) ++ [k]) := by
                  rw [← take_snoc x.conns k hlt, HC.out]
                  unfold freeIdx
                  rw [freeGo_snoc, hbz]
                  simp only [List.length_take]
                  rw [show 0 + min k x.conns.length = k by omega]
                  rfl
                have he : ((freeIdx (x.conns.take k)).map fun i => (Ls ++ [L]).getD i 0) = (freeIdx (x.conns.take k)).map fun i => Ls.getD i 0 := List.map_congr_left fun i hi => getD_snoc (by have := freeGo_lt 0 _ i hi; simp only [List.length_take] at this; omega)
                have hF5' : FB ptrC 1 64 w.heap.size V5 v5 ((freeIdx (x.conns.take k) ++ [k]).map fun i => (Ls ++ [L]).getD i 0) := by
                  rw [List.map_append, he, List.map_cons, List.map_nil, hLk]
                  exact hF5
                have hl5 := HD4.out.lrow.only o5 (fun d hd h => HSEP.out d h hd)
                have hd6 := HD4.out.addFree (k := k) (by omega) HF4.out o5 hF5' hl5
                obtain ⟨V6, hV6⟩ : ∃ V, V5.setCell ⟨D, 4, none⟩ v5 = V := ⟨_, rfl⟩
                have hbox5 : Box V5 D 58 _ := HD4.out.box.keepT (TSame.own HF4.out o5 (by decide))
                have oD6 : Only [D] V5 V6 := by rw [← hV6]; exact (Only.refl _ _).setCell (by simp) _
                have HNX : Hid (DeskN w.heap.size V6 D M (Ls ++ [L]) ⟨x.epoch, x.next, now, x.conns.take (k + 1), freeIdx (x.conns.take (k + 1)), x.queue, []⟩ (.slice a3 (Ls.length + 1) c3) v5 (.slice au x.queue.length cu) (.slice none 0 0) n ∧ Below w.heap.size w V6 ∧ MapF V6 M n (outF (x.conns.take (k + 1)) (Ls ++ [L]))) := by
                  have hMF6 : MapF V6 M n (outF (x.conns.take (k + 1)) (Ls ++ [L])) := by
                    have e2 := o5.block M HD4.out.map.lt fun hx => by obtain ⟨cur, hbx⟩ := HF4.out.box M hx; exact (HD4.out.map.ne hbx) rfl
                    have e3 : V6.heap[M]? = V5.heap[M]? := oD6.block M (by have := HD4.out.map.lt; have := o5.size; omega) (by simp; exact fun e => (HD4.out.map.ne HD4.out.box) e.symm)
                    rw [← take_snoc x.conns k hlt, HC.out, outF_free (by rw [hlen, List.length_take]; omega) hbz]
                    exact HMF4.out.keep (e3.trans e2)
                  rw [HFIX.out]
                  refine ⟨⟨by rw [← hV6]; exact hd6, hF5'.keepT (TSame.only oD6 hbox5 (by decide)), fun d hd h => ?_, (HQ4.out.keepT (TSame.own HF4.out o5 (by decide))).keepT (TSame.only oD6 hbox5 (by decide))⟩, ?_, hMF6⟩
                  · rcases hat5 with h5 | ⟨g, h5, hg⟩
                    · rw [h5] at hd; exact HSEP.out d hd h
                    · rw [h5] at hd; simp at hd; subst hd; have := (HD4.out.lrow.own _ h).2; omega
                  · have c2 := HBL.out.trans (o5.below HBL.out.size fun d hd => (HF4.out.own d hd).1)
                    rw [← hV6]
                    exact c2.setCell (by have := HD4.out.lows.1; simpa using this) _
                have q6 : V4.cell? ⟨D, 4, none⟩ = some fv := HD4.out.cells.1.2.2.2.2.1
                have r6 : V5.cell? ⟨D, 4, none⟩ = some fv := hbox5.cell 4 (by simp)
                have rf6 := hbox5.frozen 4
                have hr5' : (Builtin.append_ #[55, 55] 55 #[fv, .slice (some ⟨V4.heap.size, 0, none⟩) 1 1]).run Tryd.prog (V4.alloc (.cells #[.pointer (some ⟨L, 0, none⟩)] 64)) = .ok v5 V5 := hr5
                obtain ⟨a5, c5, hf5, _⟩ := HF4.out.form
                rw [List.length_map] at hf5
                obtain ⟨fl, hfl⟩ : ∃ fl, (freeIdx (x.conns.take k)).length = fl := ⟨_, rfl⟩
                rw [hfl] at hf5
                obtain ⟨a6, c6, hf6, _⟩ := hF5.form
                rw [List.length_append, List.length_singleton, List.length_map] at hf6
                rw [hfl] at hf6
                clear hfl
                subst hf5 hf6
                rw [hbz] at q5
                have HLEN := hide hlen
                clear hbz hlen hLlen
                have HR5 := hide hr5'
                have Q6 := hide (And.intro q6 (And.intro r6 rf6))
                clear hr5 hF5 o5 hat5 hF5' hl5 hd6 hbox5 oD6 he hr5' q6 r6 rf6
                clear hLk hnew
                conv in (Code.region 11 _ _) => change Stop _
                go_wp2_with (first | (at_builtin; refine wpList_app rfl _ _ 55 rfl hr3' (by first | rfl | simp [Act.eval, Act.put]) (by first | rfl | simp [Act.eval, Act.put]) ?_))
                have hr5' := HR5.out
                obtain ⟨q6, r6, rf6⟩ := Q6.out
                clear hr3' q3 r3 rf3 q5 g0 g1 g2 g3 g4 g5 g6 m0 m1 m2 m3 m4 m5 m6
                unfold Stop
                go_wp2_with (first | (at_builtin; refine wpList_app rfl _ _ 55 rfl hr5' (by first | rfl | simp [Act.eval, Act.put]) (by first | rfl | simp [Act.eval, Act.put]) ?_))
                go_roundg (x.conns.length - (k + 1))
                case measure => omega
                case rel => exact ⟨k + 1, Ls ++ [L], _, _, n, by omega, rfl, by go_num, HNX.out.1, by omega, HNX.out.2.1, HNX.out.2.2⟩
            · obtain rfl : k = x.conns.length := by omega
              rw [List.take_length] at hdn hmf
              have HMFE := hide hmf
              have HDN := hide hdn
              have HB := hide hb
              clear hdn hb hmf
              go_wp2_with fail
              go_ret
              exact ⟨.inl ⟨HOK.out.1, HOK.out.2, D, M, Ls, lv, fv, _, n, rfl, HDN.out, hnk, HMFE.out⟩, HB.out⟩
end Go.Proofs.YtfdefjdogmhinaaDoor.Msg
