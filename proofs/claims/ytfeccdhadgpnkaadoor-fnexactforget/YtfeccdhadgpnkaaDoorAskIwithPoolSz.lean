import Derived.Test.YtfeccdhadgpnkaaDoorAskPurewithPoolOut
import Derived.Test.YtfeccdhadgpnkaaDoorMsgTo2withEqPool
import Derived.Test.YtfeccdhadgpnkaaDoorFlatAppwithDeskKey
import Derived.Test.YtfeccdhadgpnkaaDoorMsgSzwithMsgSz2
namespace Go.Proofs.YtfeccdhadgpnkaaDoor.Msg
open Go.ChangeShapes Go.WideShapes Go.ChangeAt Go.RowKit
set_option linter.unusedVariables false
set_option linter.unusedSimpArgs false

theorem Ito.up {w w1 : World} (h : Ito w.heap.size w) (hb : Below w.heap.size w w1) : Ito w1.heap.size w1 := fun W hW => h W (bjoin hW hb)
theorem bj2 {B : Nat} {w W c : World} (h2 : Below W.heap.size W c) (h1 : Below B w W) (hB : B ≤ w.heap.size) : Below B w c := h1.trans (h2.mono (by have := h1.size; omega))
set_option maxRecDepth 100000 in
set_option maxHeartbeats 8000000 in
theorem askI_any (x : Pl) (cv qv : Value) (q : Wn) (now : Int) (w : World) {lo : Nat} (hp : PlAt lo w x cv qv) (hz : wnZ q) (hI : Ito w.heap.size w) :
    Calls Tryd.prog 12 #[plV x cv qv, wnV q, .int .i64 now] w (AskI x q now w) := by
  have HZW := hide hz
  obtain ⟨a1, c1, hf1, _⟩ := hp.1.form
  obtain ⟨a2, c2, hf2, _⟩ := hp.2.form
  subst hf1 hf2
  have HZC : Hid (∀ i (h : i < x.conns.length), cnZ x.conns[i]) := fun i h => by obtain ⟨_, _, _, _, _, hz⟩ := at_place hp.1 h; exact hz
  have HZQ : Hid (∀ i (h : i < x.queue.length), wnZ x.queue[i]) := fun i h => by obtain ⟨_, _, _, _, _, hz⟩ := at_place hp.2 h; exact hz
  have HOF := hide (fun W (h : PlAt lo W x (.slice a1 x.conns.length c1) (.slice a2 x.queue.length c2)) => deskOf_any x _ _ now W h)
  unfold plV at HOF
  have HWO := hide (fun W => wantI_any q W hz)
  unfold wnV at HWO
  show Calls Tryd.prog 12 #[.agg #[.int .i64 x.epoch, .int .i64 x.next, .slice a1 x.conns.length c1, .slice a2 x.queue.length c2], .agg #[.int .i64 q.client, .string q.tag, .string q.query, .string q.pointer], .int .i64 now] w _
  obtain ⟨w1, hw1⟩ : ∃ w1, ((w.alloc (Obj.cells #[.int .i64 x.epoch, .int .i64 x.next, .slice a1 x.conns.length c1, .slice a2 x.queue.length c2] 33)).alloc (Obj.cells #[.int .i64 q.client, .string q.tag, .string q.query, .string q.pointer] 38)).alloc (Obj.cells #[.int .i64 0, .int .i64 0, .slice none 0 0, .slice none 0 0] 33) = w1 := ⟨_, rfl⟩
  have HB1 : Hid (Below w.heap.size w w1) := by rw [← hw1]; exact (((Below.refl w.heap.size w).alloc (Nat.le_refl _) _).alloc (by simp) _).alloc (by simp; omega) _
  have HXP : Hid (Box w1 w.heap.size 33 #[.int .i64 x.epoch, .int .i64 x.next, .slice a1 x.conns.length c1, .slice a2 x.queue.length c2]) := by rw [← hw1]; exact ((Box.new w _ _).alloc _).alloc _
  have HXW : Hid (Box w1 (w.heap.size + 1) 38 #[.int .i64 q.client, .string q.tag, .string q.query, .string q.pointer]) := by
    have := (Box.new (w.alloc (Obj.cells #[.int .i64 x.epoch, .int .i64 x.next, .slice a1 x.conns.length c1, .slice a2 x.queue.length c2] 33)) 38 #[.int .i64 q.client, .string q.tag, .string q.query, .string q.pointer]).alloc (Obj.cells #[.int .i64 0, .int .i64 0, .slice none 0 0, .slice none 0 0] 33)
    rw [hw1, Deep.nblk_alloc] at this
    exact this
  have HXR : Hid (Box w1 (w.heap.size + 1 + 1) 33 #[.int .i64 0, .int .i64 0, .slice none 0 0, .slice none 0 0]) := by
    have := Box.new ((w.alloc (Obj.cells #[.int .i64 x.epoch, .int .i64 x.next, .slice a1 x.conns.length c1, .slice a2 x.queue.length c2] 33)).alloc (Obj.cells #[.int .i64 q.client, .string q.tag, .string q.query, .string q.pointer] 38)) 33 #[.int .i64 0, .int .i64 0, .slice none 0 0, .slice none 0 0]
    rw [hw1, Deep.nblk_alloc, Deep.nblk_alloc] at this
    exact this
  have HPL := hide (hp.below HB1.out)
  have HI1 := hide (hI.up HB1.out)
  have KS : Hid (∀ W, Below w1.heap.size w1 W → ((W.cell? ⟨w.heap.size, 0, none⟩ = some (.int .i64 x.epoch) ∧ W.cell? ⟨w.heap.size, 1, none⟩ = some (.int .i64 x.next) ∧ W.cell? ⟨w.heap.size, 2, none⟩ = some (.slice a1 x.conns.length c1) ∧ W.cell? ⟨w.heap.size, 3, none⟩ = some (.slice a2 x.queue.length c2)) ∧ (W.cell? ⟨w.heap.size + 1, 0, none⟩ = some (.int .i64 q.client) ∧ W.cell? ⟨w.heap.size + 1, 1, none⟩ = some (.string q.tag) ∧ W.cell? ⟨w.heap.size + 1, 2, none⟩ = some (.string q.query) ∧ W.cell? ⟨w.heap.size + 1, 3, none⟩ = some (.string q.pointer))) ∧ ((W.cell? ⟨w.heap.size + 1 + 1, 0, none⟩ = some (.int .i64 0) ∧ W.cell? ⟨w.heap.size + 1 + 1, 1, none⟩ = some (.int .i64 0) ∧ W.cell? ⟨w.heap.size + 1 + 1, 2, none⟩ = some (.slice none 0 0) ∧ W.cell? ⟨w.heap.size + 1 + 1, 3, none⟩ = some (.slice none 0 0)) ∧ W.frozen? ⟨w.heap.size + 1 + 1, 0, none⟩ = false ∧ W.frozen? ⟨w.heap.size + 1 + 1, 1, none⟩ = false ∧ W.frozen? ⟨w.heap.size + 1 + 1, 2, none⟩ = false ∧ W.frozen? ⟨w.heap.size + 1 + 1, 3, none⟩ = false) ∧ w.heap.size + 1 + 1 < W.heap.size) := fun W hW => by
    have h2 := HXW.out.below hW
    exact ⟨⟨(HXP.out.below hW).pool.1, h2.cell 0 (by simp), h2.cell 1 (by simp), h2.cell 2 (by simp), h2.cell 3 (by simp)⟩, (HXR.out.below hW).pool, (HXR.out.below hW).lt⟩
  have HB2lt : Hid (w.heap.size + 1 + 1 < w1.heap.size) := HXR.out.lt
  clear hp hI hz
  obtain ⟨⟨⟨p0, p1, p2, p3⟩, q0, q1, q2, q3⟩, ⟨⟨r0, r1, r2, r3⟩, f0, f1, f2, f3⟩, hz9⟩ := KS.out w1 (Below.refl _ _)
  have HBAD : Hid (¬ (okPl x = true ∧ okWn q = true ∧ nowB now = true) → ∀ W, Below w1.heap.size w1 W → ∀ x0 x1 x2 x3, AskI x q now w (.returned (.tuple #[.agg #[.int .i64 0, .int .i64 0, .slice none 0 0, .slice none 0 0], .slice none 0 0, .int .i64 9])) ((((W.setCell ⟨w.heap.size + 1 + 1, 0, none⟩ x0).setCell ⟨w.heap.size + 1 + 1, 1, none⟩ x1).setCell ⟨w.heap.size + 1 + 1, 2, none⟩ x2).setCell ⟨w.heap.size + 1 + 1, 3, none⟩ x3)) := fun h W hW x0 x1 x2 x3 => by
    have e : askP x q now = (pl0, [], 9) := if_neg h
    unfold AskI
    rw [e]
    exact ⟨_, _, _, rfl, PoolSent.none _ _ _ _ _ _ _ _ _ _ (((((bjoin hW HB1.out).setCell (by simp; omega) _).setCell (by simp; omega) _).setCell (by simp; omega) _).setCell (by simp; omega) _)⟩
  by_cases hok : okPl x = true ∧ nowB now = true
  · cases h2 : okWn q with
    | false =>
      rw [h2] at HWO
      have HG := hide (HBAD.out (by rw [h2]; simp))
      clear h2
      go_enter Tryd.func12, Tryd.ntmps12
      go_wp2_with fail
      refine (HOF.out _ HPL.out).mono ?_
      rintro en W ⟨⟨_, _, D, M, Ls, lv, fv, qv2, n, rfl, hdn, hn⟩ | ⟨hno, _⟩, hbW⟩
      case inr => exact absurd hok hno
      obtain ⟨⟨⟨p0, p1, p2, p3⟩, q0, q1, q2, q3⟩, ⟨⟨r0, r1, r2, r3⟩, f0, f1, f2, f3⟩, hz9⟩ := KS.out W hbW
      have HBW := hide hbW
      clear hbW hdn
      go_wp2_with fail
      refine (HWO.out _).mono ?_
      rintro en W2 ⟨rfl, hb2⟩
      obtain ⟨⟨⟨p0, p1, p2, p3⟩, q0, q1, q2, q3⟩, ⟨⟨r0, r1, r2, r3⟩, f0, f1, f2, f3⟩, hz9⟩ := KS.out W2 (bjoin hb2 HBW.out)
      have HB2 := hide (bjoin hb2 HBW.out)
      clear hb2
      go_wp2_with fail
      exact bodyPost_ret (v := .tuple #[.agg #[.int .i64 0, .int .i64 0, .slice none 0 0, .slice none 0 0], .slice none 0 0, .int .i64 9]) (by simp [results, Tryd.results12, go_sem, r0, r1, r2, r3, hz9]) rfl (HG.out _ HB2.out _ _ _ _)
    | true =>
      rw [h2] at HWO
      obtain ⟨g1, g2, g3, g4, g5, g6, g7⟩ := okPl_head_of hok.1
      obtain ⟨g8, g9⟩ := nowB_of hok.2
      by_cases hq16 : x.queue.length = 16
      · have HAP : Hid (askP x q now = (x, [], 1)) := by unfold askP; rw [if_pos ⟨hok.1, h2, hok.2⟩, if_pos (full_free hok.1 hq16)]; exact rfl
        have HQ16 := hide hq16
        clear h2 HBAD hq16
        go_enter Tryd.func12, Tryd.ntmps12
        go_wp2_with fail
        refine (HOF.out _ HPL.out).mono ?_
        rintro en W ⟨⟨_, _, D, M, Ls, lv, fv, qv2, n, rfl, hdn, hn⟩ | ⟨hno, _⟩, hbW⟩
        case inr => exact absurd hok hno
        obtain ⟨⟨⟨p0, p1, p2, p3⟩, q0, q1, q2, q3⟩, ⟨⟨r0, r1, r2, r3⟩, f0, f1, f2, f3⟩, hz9⟩ := KS.out W hbW
        have HBW := hide hbW
        have HDN := hide hdn
        clear hbW hdn
        go_wp2_with fail
        refine (HWO.out _).mono ?_
        rintro en W2 ⟨rfl, hb2⟩
        have HB2 := hide (bjoin hb2 HBW.out)
        have hd2 := HDN.out.desk.below hb2
        obtain ⟨aq, cq, hqf⟩ := hd2.queue.form
        simp only at hqf
        subst hqf
        have d6 : W2.cell? ⟨D, 6, none⟩ = some (.slice aq x.queue.length cq) := hd2.cells.1.2.2.2.2.2.2.1
        have HPI := hide (poolI_any hd2 HZC.out HZQ.out (by rw [hd2.len]; simp only; omega) (by simp only; omega) (HB2.out.size))
        unfold plV at HPI
        have HD2 := hide hd2
        clear hb2 hd2
        have hq16' : (x.queue.length : Int) = 16 := by have := HQ16.out; omega
        go_wp2_with fail
        clear hq16'
        refine HPI.out.mono ?_
        rintro en W3 ⟨cv3, qv3, b1, b2, rfl, hpo, hb1, hb2, hb3⟩
        obtain ⟨⟨a3, c3, e3⟩, a4, c4, e4⟩ := hpo.at.form
        simp only at e3 e4
        subst e3 e4
        obtain ⟨⟨⟨p0, p1, p2, p3⟩, q0, q1, q2, q3⟩, ⟨⟨r0, r1, r2, r3⟩, f0, f1, f2, f3⟩, hz9⟩ := KS.out W3 (bjoin hb3 HB2.out)
        have HF : Hid (∀ x0 x1 x2 x3, PoolSent x [] w (.slice a3 x.conns.length c3) (.slice a4 x.queue.length c4) (.slice none 0 0) ((((W3.setCell ⟨w.heap.size + 1 + 1, 0, none⟩ x0).setCell ⟨w.heap.size + 1 + 1, 1, none⟩ x1).setCell ⟨w.heap.size + 1 + 1, 2, none⟩ x2).setCell ⟨w.heap.size + 1 + 1, 3, none⟩ x3)) := fun x0 x1 x2 x3 =>
          PoolSent.of HD2.out HB1.out HB2.out (B := w.heap.size + 1 + 1) (by omega) HB2lt.out hpo hb1 hb2 hb3 (by simp) (by simp) (((((Only.refl _ _).setCell (by simp) _).setCell (by simp) _).setCell (by simp) _).setCell (by simp) _)
        clear hpo hb1 hb2 hb3
        go_wp2_with fail
        refine bodyPost_ret (v := .tuple #[.agg #[.int .i64 x.epoch, .int .i64 x.next, .slice a3 x.conns.length c3, .slice a4 x.queue.length c4], .slice none 0 0, .int .i64 1]) (by simp [results, Tryd.results12, go_sem, r0, r1, r2, r3, hz9]) rfl ?_
        unfold AskI
        rw [HAP.out]
        exact ⟨_, _, _, rfl, HF.out _ _ _ _⟩
      · obtain ⟨s1, hs1⟩ : ∃ s1 : Ds, (⟨x.epoch, x.next, now, x.conns, freeIdx x.conns, x.queue ++ [q], []⟩ : Ds) = s1 := ⟨_, rfl⟩
        obtain ⟨R, hR⟩ : ∃ R, serveD (x.queue.length + 1) s1 = R := ⟨_, rfl⟩
        have HAP : Hid (askP x q now = (⟨R.epoch, R.next, R.conns, R.queue⟩, R.sent, 0)) := by
          have hs := served s1 (.inl (by rw [← hs1])) (by rw [← hs1])
          have e1 : s1.queue.length = x.queue.length + 1 := by rw [← hs1]; simp
          rw [e1, hR] at hs
          have e2 : serveA now (addQ x q) = serveA s1.now ⟨s1.epoch, s1.next, s1.conns, s1.queue⟩ := by rw [← hs1]; rfl
          unfold askP
          rw [if_pos ⟨hok.1, h2, hok.2⟩, if_neg (fun h => hq16 (by have := h.2; omega)), e2, hs]
          exact rfl
        have HZR := hide (serveD_Z (x.queue.length + 1) s1 (by rw [← hs1]; simp only; omega) (by rw [← hs1]; simp only; omega) (by rw [← hs1]; exact ⟨all_mem HZC.out, fun y hy => by
          rcases List.mem_append.1 hy with h | h
          · exact all_mem HZQ.out y h
          · simp at h; rw [h]; exact HZW.out, by simp⟩))
        rw [hR] at HZR
        have hq16' : ¬ (x.queue.length : Int) = 16 := by omega
        have HS1 := hide hs1
        have HR := hide hR
        clear h2 HBAD hs1 hR
        go_enter Tryd.func12, Tryd.ntmps12
        go_wp2_with fail
        refine (HOF.out _ HPL.out).mono ?_
        rintro en W ⟨⟨_, _, D, M, Ls, lv, fv, qv2, n, rfl, hdn, hn⟩ | ⟨hno, _⟩, hbW⟩
        case inr => exact absurd hok hno
        obtain ⟨⟨⟨p0, p1, p2, p3⟩, q0, q1, q2, q3⟩, ⟨⟨r0, r1, r2, r3⟩, f0, f1, f2, f3⟩, hz9⟩ := KS.out W hbW
        have HBW := hide hbW
        have HDN := hide hdn
        clear hbW hdn
        go_wp2_with fail
        refine (HWO.out _).mono ?_
        rintro en W2 ⟨rfl, hb2⟩
        have HB2 := hide (bjoin hb2 HBW.out)
        have hd2 := HDN.out.below hb2
        obtain ⟨aq, cq, hqf, _⟩ := hd2.fqueue.form
        simp only at hqf
        subst hqf
        have d6 : W2.cell? ⟨D, 6, none⟩ = some (.slice aq x.queue.length cq) := hd2.desk.cells.1.2.2.2.2.2.2.1
        have HD2 := hide hd2
        clear hb2 hd2 p0 p1 p2 p3 q0 q1 q2 q3 r0 r1 r2 r3 f0 f1 f2 f3
        go_wp2_with fail
        obtain ⟨D3, hwd3⟩ : ∃ D3, W2.drew = D3 := ⟨_, rfl⟩
        have hb3 : Below W2.heap.size W2 D3 := by rw [← hwd3]; exact (Below.refl _ _).drew
        have hd3 := HD2.out.below hb3
        have hB3 := bjoin hb3 HB2.out
        obtain ⟨v', W5, hr, hF5, o5, hat⟩ := app1 Tryd.underlying31 info_Want rfl (by decide) wnC_len wnC_one hd3.fqueue 31 q hB3.size (by simp only; omega) (by omega)
        have hr2 : (Builtin.append_ #[31, 31] 31 #[.slice aq x.queue.length cq, .slice (some ⟨D3.heap.size, 0, none⟩) 1 1]).run Tryd.prog (D3.alloc (.cells #[.int .i64 q.client, .string q.tag, .string q.query, .string q.pointer] 38)) = .ok v' W5 := hr
        have hdY := hd3.desk.setQueue hd3.fqueue o5 hF5
        have hB5 : Below w1.heap.size w1 W5 := hB3.trans (o5.below hB3.size fun d hd => (hd3.fqueue.own d hd).1)
        have hbx5 : Box W5 D 76 _ := hd3.desk.box.keepT (TSame.own hd3.fqueue o5 (by decide))
        obtain ⟨av', cv', hsv', _⟩ := hF5.form
        simp only [List.length_append, List.length_singleton] at hsv'
        subst hsv'
        obtain ⟨Y, hY⟩ : ∃ Y, W5.setCell ⟨D, 6, none⟩ (.slice av' (x.queue.length + 1) cv') = Y := ⟨_, rfl⟩
        rw [hY] at hdY
        have HBY : Hid (Below w1.heap.size w1 Y) := by rw [← hY]; exact hB5.setCell (by have := hd3.desk.lows.1; simp; omega) _
        have HCALL := hide (serveI_any sendOk hdY HBY.out.size (HI1.out.keep HBY.out) (by simp only; omega) (by simp only; omega) (by simp only; omega) (by simp only; omega) (by simp only; omega) (by simp only; omega) (by simp) (by omega) (by rw [hdY.len]; simp only; omega) (by simp; omega))
        have HEQ : Hid (serveD (x.queue ++ [q]).length ⟨x.epoch, x.next, now, x.conns, freeIdx x.conns, x.queue ++ [q], []⟩ = R) := by rw [List.length_append, List.length_singleton, HS1.out, HR.out]; exact rfl
        simp only at HCALL
        rw [HEQ.out] at HCALL
        have q7 : D3.cell? ⟨D, 6, none⟩ = some (.slice aq x.queue.length cq) := hd3.desk.cells.1.2.2.2.2.2.2.1
        have hSd : (fun X : World => X.cell? ⟨D, 6, none⟩ = some (.slice aq x.queue.length cq) ∧ X.cell? ⟨w.heap.size + 1, 0, none⟩ = some (.int .i64 q.client) ∧ X.cell? ⟨w.heap.size + 1, 1, none⟩ = some (.string q.tag) ∧ X.cell? ⟨w.heap.size + 1, 2, none⟩ = some (.string q.query) ∧ X.cell? ⟨w.heap.size + 1, 3, none⟩ = some (.string q.pointer)) D3 := ⟨q7, (KS.out D3 hB3).1.2⟩
        have hSa : (fun X : World => X.cell? ⟨D, 6, none⟩ = some (.slice aq x.queue.length cq) ∧ X.cell? ⟨w.heap.size + 1, 0, none⟩ = some (.int .i64 q.client) ∧ X.cell? ⟨w.heap.size + 1, 1, none⟩ = some (.string q.tag) ∧ X.cell? ⟨w.heap.size + 1, 2, none⟩ = some (.string q.query) ∧ X.cell? ⟨w.heap.size + 1, 3, none⟩ = some (.string q.pointer)) (D3.alloc (.cells #[.int .i64 q.client, .string q.tag, .string q.query, .string q.pointer] 38)) := ⟨(((Below.refl D3.heap.size D3).alloc (Nat.le_refl _) _).cell (p := ⟨D, 6, none⟩) hd3.desk.box.lt).trans q7, (KS.out _ (hB3.alloc hB3.size _)).1.2⟩
        have r7 : W5.cell? ⟨D, 6, none⟩ = some (.slice aq x.queue.length cq) := hbx5.cell 6 (by simp)
        have rf7 := hbx5.frozen 6
        have hS6 : (fun X : World => X.cell? ⟨D, 6, none⟩ = some (.slice aq x.queue.length cq) ∧ X.cell? ⟨w.heap.size + 1, 0, none⟩ = some (.int .i64 q.client) ∧ X.cell? ⟨w.heap.size + 1, 1, none⟩ = some (.string q.tag) ∧ X.cell? ⟨w.heap.size + 1, 2, none⟩ = some (.string q.query) ∧ X.cell? ⟨w.heap.size + 1, 3, none⟩ = some (.string q.pointer)) W5 := ⟨r7, (KS.out W5 hB5).1.2⟩
        have HLEN := hide hdY.len
        clear hd3 hr hF5 o5 hat hdY hbx5 hb3 hB5 q7 d6
        have hB3' := hide hB3
        clear hB3
        refine wp_region_two (fun X : World => X.cell? ⟨D, 6, none⟩ = some (.slice aq x.queue.length cq) ∧ X.cell? ⟨w.heap.size + 1, 0, none⟩ = some (.int .i64 q.client) ∧ X.cell? ⟨w.heap.size + 1, 1, none⟩ = some (.string q.tag) ∧ X.cell? ⟨w.heap.size + 1, 2, none⟩ = some (.string q.query) ∧ X.cell? ⟨w.heap.size + 1, 3, none⟩ = some (.string q.pointer)) 8 (by kernel_rfl) ?_
        rw [hwd3]
        refine wpTwo_take (i := 0) (some 29) (v := ?v0) rfl rfl (by kernel_rfl) (by kernel_rfl) (by kernel_rfl) (by kernel_rfl) (fun _ _ _ h => h) hSd (Or.inl ⟨by rfl, ?hy0⟩) ?rest0
        case hy0 => (intro w hSw; (try dsimp only at hSw); go_simp; try with_reducible rfl)
        try simp only [Act.put, List.setIfInBounds_toArray, List.set_cons_zero, List.set_cons_succ]
        refine wpTwo_take (i := 1) (some 30) (v := ?v1) rfl rfl (by kernel_rfl) (by kernel_rfl) (by kernel_rfl) (by kernel_rfl) (fun _ _ _ h => h) hSd (Or.inl ⟨by rfl, ?hy1⟩) ?rest1
        case hy1 => (intro w hSw; (try dsimp only at hSw); go_simp; try with_reducible rfl)
        try simp only [Act.put, List.setIfInBounds_toArray, List.set_cons_zero, List.set_cons_succ]
        refine wpTwo_take (i := 2) (some 31) (v := ?v2) rfl rfl (by kernel_rfl) (by kernel_rfl) (by kernel_rfl) (by kernel_rfl) (fun _ _ _ h => h) hSd (Or.inl ⟨by rfl, ?hy2⟩) ?rest2
        case hy2 => (intro w hSw; (try dsimp only at hSw); go_simp; try with_reducible rfl)
        try simp only [Act.put, List.setIfInBounds_toArray, List.set_cons_zero, List.set_cons_succ]
        refine wpTwo_take (i := 3) (some 32) (v := ?v3) rfl rfl (by kernel_rfl) (by kernel_rfl) (by kernel_rfl) (by kernel_rfl) (fun _ _ _ h => h) hSd (Or.inl ⟨by rfl, ?hy3⟩) ?rest3
        case hy3 => (intro w hSw; (try dsimp only at hSw); go_simp; try with_reducible rfl)
        try simp only [Act.put, List.setIfInBounds_toArray, List.set_cons_zero, List.set_cons_succ]
        refine wpTwo_take (i := 4) (some 33) (v := ?v4) rfl rfl (by kernel_rfl) (by kernel_rfl) (by kernel_rfl) (by kernel_rfl) (fun _ _ _ h => h) hSd (Or.inl ⟨by rfl, ?hy4⟩) ?rest4
        case hy4 => (intro w hSw; (try dsimp only at hSw); go_simp; try with_reducible rfl)
        try simp only [Act.put, List.setIfInBounds_toArray, List.set_cons_zero, List.set_cons_succ]
        refine wpTwo_take (i := 5) (some 34) (v := ?v5) rfl rfl (by kernel_rfl) (by kernel_rfl) (by kernel_rfl) (by kernel_rfl) (fun _ _ _ h => h) hSd (Or.inl ⟨by rfl, ?hy5⟩) ?rest5
        case hy5 => (intro w hSw; (try dsimp only at hSw); go_simp; try with_reducible rfl)
        try simp only [Act.put, List.setIfInBounds_toArray, List.set_cons_zero, List.set_cons_succ]
        refine wpTwo_one (j := 6) (by kernel_rfl) rfl (fun K hK => ?_)
        go_simp
        refine hK.out _ _ (fun _ => hSa) ?_
        clear hK K
        try simp only [Act.put, List.setIfInBounds_toArray, List.set_cons_zero, List.set_cons_succ]
        refine wpTwo_one (j := 7) (by kernel_rfl) rfl (fun K hK => ?_)
        refine step_app rfl _ _ 31 rfl hr2 (by first | rfl | simp [Act.eval, Act.put]) (by first | rfl | simp [Act.eval, Act.put]) ?_
        show K (Act.put _ (some 36) _) _
        refine hK.out _ _ (fun _ => hS6) ?_
        clear hK K
        try simp only [Act.put, List.setIfInBounds_toArray, List.set_cons_zero, List.set_cons_succ]
        refine wpTwo_one (j := 8) (by kernel_rfl) rfl (fun K hK => ?_)
        go_simp
        refine hK.out _ _ (fun h => absurd h (by decide)) ?_
        clear hK K
        refine wpTwo_one (j := 9) (by kernel_rfl) rfl (fun K hK => ?_)
        go_simp
        refine hK.out _ _ (fun h => absurd h (by decide)) ?_
        clear hK K
        refine wpTwo_one (j := 10) (by kernel_rfl) rfl (fun K hK => ?_)
        go_simp
        refine hK.out _ _ (fun h => absurd h (by decide)) ?_
        clear hK K
        refine wpTwo_done (by kernel_rfl) ?_ _
        try rw [hY]
        clear hSd hSa hS6 r7 rf7 hr2 hY
        go_wp2_with fail
        refine HCALL.out.mono ?_
        rintro en W6 ⟨rfl, fv6, qv6, sv6, n6, hd6, hb6, _⟩
        have HB6 := hide (HBY.out.trans hb6)
        obtain ⟨a8, c8, hsf, _⟩ := hd6.sent.form
        subst hsf
        obtain ⟨D7, hwd7⟩ : ∃ D7, W6.drew = D7 := ⟨_, rfl⟩
        have hk0 : Below W6.heap.size W6 W6.drew := (Below.refl _ _).drew
        have hk1 : Below W6.heap.size W6 D7 := by rw [← hwd7]; exact hk0
        have hd7 := hd6.below hk1
        have HB7 := hide (bj2 hk1 HB6.out (Nat.le_refl _))
        have KS7 : Hid (∀ X, Below W6.heap.size W6 X → X.cell? ⟨D, 7, none⟩ = some (.slice a8 R.sent.length c8)) := fun X hX => (hd6.below hX).cells.1.2.2.2.2.2.2.2
        have HPI := hide (poolI_any hd7 (mem_all HZR.out.1.1) (mem_all HZR.out.1.2.1) (by have := HLEN.out; first | omega | (simp only at this; omega)) (by have := HZR.out.2.2.1; rw [← HS1.out] at this; simp at this; omega) HB7.out.size)
        unfold plV at HPI
        have HD7 := hide hd7
        have HNE := hide (show D ≠ w.heap.size + 1 + 1 from by have := hd7.lows.1; have := HB2lt.out; omega)
        clear hd6 hb6 hd7
        go_wp2_with fail
        go_region_held3 (fun X : World => X.cell? ⟨D, 7, none⟩ = some (.slice a8 R.sent.length c8))
          (first | with_reducible exact KS7.out _ hk0 | with_reducible exact KS7.out _ hk1 | with_reducible exact KS7.out _ hS9 | with_reducible exact hS10 _ _ _ _)
          (first | (go_at_call 44; refine HPI.out.mono ?_; rintro e W9 ⟨cv9, qv9, b1, b2, rfl, hpo, hb1, hb2, hb9⟩; obtain ⟨⟨a9, c9, e9⟩, a10, c10, e10⟩ := hpo.at.form; simp only at e9 e10; subst e9 e10; have hS9 : Below W6.heap.size W6 W9 := bjoin hb9 hk1; obtain ⟨_, ⟨⟨r0, r1, r2, r3⟩, f0, f1, f2, f3⟩, hz9⟩ := KS.out W9 (bj2 hb9 HB7.out (Nat.le_refl _)); have hS10 : ∀ x0 x1 x2 x3, ((((W9.setCell ⟨w.heap.size + 1 + 1, 0, none⟩ x0).setCell ⟨w.heap.size + 1 + 1, 1, none⟩ x1).setCell ⟨w.heap.size + 1 + 1, 2, none⟩ x2).setCell ⟨w.heap.size + 1 + 1, 3, none⟩ x3).cell? ⟨D, 7, none⟩ = some (.slice a8 R.sent.length c8) := fun x0 x1 x2 x3 => (cellSame ((four_blk W9 (w.heap.size + 1 + 1) x0 x1 x2 x3).1 D HNE.out)).trans (KS7.out _ hS9)))
        have HF : Hid (∀ x0 x1 x2 x3, PoolSent ⟨R.epoch, R.next, R.conns, R.queue⟩ R.sent w (.slice a9 R.conns.length c9) (.slice a10 R.queue.length c10) (.slice a8 R.sent.length c8) ((((W9.setCell ⟨w.heap.size + 1 + 1, 0, none⟩ x0).setCell ⟨w.heap.size + 1 + 1, 1, none⟩ x1).setCell ⟨w.heap.size + 1 + 1, 2, none⟩ x2).setCell ⟨w.heap.size + 1 + 1, 3, none⟩ x3)) := fun x0 x1 x2 x3 =>
          PoolSent.of HD7.out HB1.out HB7.out (B := w.heap.size + 1 + 1) (by omega) HB2lt.out hpo hb1 hb2 hb9 HZR.out.1.2.2 (by have := HZR.out.2.2.2; rw [← HS1.out] at this; simp at this; omega) (((((Only.refl _ _).setCell (by simp) _).setCell (by simp) _).setCell (by simp) _).setCell (by simp) _)
        clear hpo hb1 hb2 hb9 hS9 hS10
        go_wp2_with fail
        refine bodyPost_ret (v := .tuple #[.agg #[.int .i64 R.epoch, .int .i64 R.next, .slice a9 R.conns.length c9, .slice a10 R.queue.length c10], .slice a8 R.sent.length c8, .int .i64 0]) (by simp [results, Tryd.results12, go_sem, r0, r1, r2, r3, hz9]) rfl ?_
        unfold AskI
        rw [HAP.out]
        exact ⟨_, _, _, rfl, HF.out _ _ _ _⟩
  · have HG := hide (HBAD.out (fun h => hok ⟨h.1, h.2.2⟩))
    go_enter Tryd.func12, Tryd.ntmps12
    go_wp2_with fail
    refine (HOF.out _ HPL.out).mono ?_
    rintro en W ⟨⟨h1, h2, _⟩ | ⟨hno, rfl⟩, hbW⟩
    case inl => exact absurd ⟨h1, h2⟩ hok
    obtain ⟨⟨⟨p0, p1, p2, p3⟩, q0, q1, q2, q3⟩, ⟨⟨r0, r1, r2, r3⟩, f0, f1, f2, f3⟩, hz9⟩ := KS.out W hbW
    have HBW := hide hbW
    clear hbW
    go_wp2_with fail
    exact bodyPost_ret (v := .tuple #[.agg #[.int .i64 0, .int .i64 0, .slice none 0 0, .slice none 0 0], .slice none 0 0, .int .i64 9]) (by simp [results, Tryd.results12, go_sem, r0, r1, r2, r3, hz9]) rfl (HG.out _ HBW.out _ _ _ _)
end Go.Proofs.YtfeccdhadgpnkaaDoor.Msg

namespace Go.Proofs.YtfeccdhadgpnkaaDoor.Msg
open Go.ChangeShapes Go.WideShapes Go.ChangeAt Go.RowKit
set_option linter.unusedVariables false
set_option linter.unusedSimpArgs false

def wnSz (x : Wn) : Nat := x.tag.size + x.query.size + x.pointer.size
def cnSz (x : Cn) : Nat := x.control.size + wnSz x.want
set_option maxHeartbeats 2000000 in
theorem szWn_any (x : Wn) (left : Int) (w : World) (h0 : 0 ≤ left) (h9 : left ≤ 1048576) (hz : wnZ x) :
    Calls Tryd.prog 8 #[wnV x, .int .i64 left] w fun e w' => e = .returned (.int .i64 (rest left (wnSz x))) ∧ Below w.heap.size w w' := by
  obtain ⟨client, tag, query, pointer⟩ := x
  obtain ⟨z1, z2, z3⟩ := hz
  simp only at z1 z2 z3
  have HS : Hid (wnSz ⟨client, tag, query, pointer⟩ = tag.size + query.size + pointer.size) := rfl
  show Calls Tryd.prog 8 #[.agg #[.int .i64 client, .string tag, .string query, .string pointer], .int .i64 left] w _
  have HB := hide ((Below.refl w.heap.size w).alloc (Nat.le_refl _) (Obj.cells #[.int .i64 client, .string tag, .string query, .string pointer] 27))
  by_cases a1 : left - tag.size < 0
  · have HX := hide (show rest left (wnSz ⟨client, tag, query, pointer⟩) = -1 from rest_no (by rw [HS.out]; omega))
    go_enter Tryd.func8, Tryd.ntmps8
    go_wp2_with fail
    go_ret
    exact ⟨ret_int HX.out.symm, HB.out⟩
  by_cases a2 : left - tag.size - query.size < 0
  · have HX := hide (show rest left (wnSz ⟨client, tag, query, pointer⟩) = -1 from rest_no (by rw [HS.out]; omega))
    go_enter Tryd.func8, Tryd.ntmps8
    go_wp2_with fail
    go_ret
    exact ⟨ret_int HX.out.symm, HB.out⟩
  by_cases a3 : left - tag.size - query.size - pointer.size < 0
  · have HX := hide (show rest left (wnSz ⟨client, tag, query, pointer⟩) = -1 from rest_no (by rw [HS.out]; omega))
    go_enter Tryd.func8, Tryd.ntmps8
    go_wp2_with fail
    go_ret
    exact ⟨ret_int HX.out.symm, HB.out⟩
  · have HX := hide (show rest left (wnSz ⟨client, tag, query, pointer⟩) = left - tag.size - query.size - pointer.size by rw [rest_yes (by rw [HS.out]; omega), HS.out]; omega)
    go_enter Tryd.func8, Tryd.ntmps8
    go_wp2_with fail
    go_ret
    exact ⟨ret_int HX.out.symm, HB.out⟩
set_option maxHeartbeats 2000000 in
theorem szCn_any (x : Cn) (left : Int) (w : World) (h0 : 0 ≤ left) (h9 : left ≤ 1048576) (hz : cnZ x) :
    Calls Tryd.prog 60 #[cnV x, .int .i64 left] w fun e w' => e = .returned (.int .i64 (rest left (cnSz x))) ∧ Below w.heap.size w w' := by
  obtain ⟨busy, control, ⟨client, tag, query, pointer⟩, due⟩ := x
  obtain ⟨z1, zw⟩ := hz
  simp only at z1 zw
  have HS : Hid (cnSz ⟨busy, control, ⟨client, tag, query, pointer⟩, due⟩ = control.size + wnSz ⟨client, tag, query, pointer⟩) := rfl
  have HW := hide (fun l k0 k1 W => szWn_any ⟨client, tag, query, pointer⟩ l W k0 k1 zw)
  generalize hWS : wnSz ⟨client, tag, query, pointer⟩ = WS at HS HW
  unfold wnV at HW
  simp only at HW
  show Calls Tryd.prog 60 #[.agg #[.bool busy, .string control, .int .i64 client, .string tag, .string query, .string pointer, .int .i64 due], .int .i64 left] w _
  have HB := hide ((Below.refl w.heap.size w).alloc (Nat.le_refl _) (Obj.cells #[.bool busy, .string control, .int .i64 client, .string tag, .string query, .string pointer, .int .i64 due] 100))
  clear zw hWS
  by_cases a1 : left - control.size < 0
  · have HX := hide (show rest left (cnSz ⟨busy, control, ⟨client, tag, query, pointer⟩, due⟩) = -1 from rest_no (by rw [HS.out]; omega))
    go_enter Tryd.func60, Tryd.ntmps60
    go_wp2_with fail
    go_ret
    exact ⟨ret_int HX.out.symm, HB.out⟩
  have HC := hide (HW.out (left - control.size) (by omega) (by omega))
  by_cases a3 : ((WS : Nat) : Int) ≤ left - control.size
  · have HX := hide (show rest left (cnSz ⟨busy, control, ⟨client, tag, query, pointer⟩, due⟩) = left - control.size - WS by rw [rest_yes (by rw [HS.out]; omega), HS.out]; omega)
    rw [rest_yes a3] at HC
    have hnn : ¬ left - control.size - (WS : Int) < 0 := by omega
    go_enter Tryd.func60, Tryd.ntmps60
    go_wp2_with fail
    refine (HC.out _).mono ?_
    rintro e w4 ⟨rfl, hb4⟩
    have HB4 := hide (bjoin hb4 HB.out)
    clear hb4
    go_wp2_with fail
    go_ret
    exact ⟨ret_int HX.out.symm, HB4.out⟩
  · have HX := hide (show rest left (cnSz ⟨busy, control, ⟨client, tag, query, pointer⟩, due⟩) = -1 from rest_no (by rw [HS.out]; omega))
    rw [rest_no a3] at HC
    go_enter Tryd.func60, Tryd.ntmps60
    go_wp2_with fail
    refine (HC.out _).mono ?_
    rintro e w4 ⟨rfl, hb4⟩
    have HB4 := hide (bjoin hb4 HB.out)
    clear hb4
    go_wp2_with fail
    go_ret
    exact ⟨ret_int HX.out.symm, HB4.out⟩
end Go.Proofs.YtfeccdhadgpnkaaDoor.Msg
