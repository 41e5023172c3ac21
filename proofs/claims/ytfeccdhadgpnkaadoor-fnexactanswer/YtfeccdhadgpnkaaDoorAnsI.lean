import Derived.Test.YtfeccdhadgpnkaaDoorAskIwithPoolSz
import Derived.Test.YtfeccdhadgpnkaaDoorAnsPurewithDeskOf3
namespace Go.Proofs.YtfeccdhadgpnkaaDoor.Msg
open Go.ChangeShapes Go.WideShapes Go.ChangeAt Go.RowKit
set_option linter.unusedVariables false
set_option linter.unusedSimpArgs false

/-- what a desk gives out, where several boxes of the call's own are filled -/
theorem PoolSent.ofs {w w1 W8 W9 X : World} {D M : Nat} {Ls : List Nat} {s : Ds} {lv fv qv sv cv9 qv9 : Value} {n : Nat} {b1 b2 bs : List Nat} (hd : Desk w1.heap.size W8 D M Ls s lv fv qv sv n) (hw : Below w.heap.size w w1) (hl : Below w1.heap.size w1 W8) (hbs : ∀ b ∈ bs, w.heap.size ≤ b ∧ b < w1.heap.size)
    (hpo : PlO w1.heap.size W9 ⟨s.epoch, s.next, s.conns, s.queue⟩ cv9 qv9 b1 b2) (hb1 : ∀ d ∈ b1, W8.heap.size ≤ d) (hb2 : ∀ d ∈ b2, (∃ cur, Box W8 d 38 cur) ∧ ∀ hi, QB qv hi → d < hi) (h9 : Below W8.heap.size W8 W9) (hz : ∀ t ∈ s.sent, stZ t) (hsl : s.sent.length ≤ 1000) (hX : Only bs W9 X) :
    PoolSent ⟨s.epoch, s.next, s.conns, s.queue⟩ s.sent w cv9 qv9 sv X := by
  obtain ⟨b3, f3, o3, _⟩ := FO.of_own stC_len hd.sent (by omega)
  have hsz : w.heap.size ≤ w1.heap.size := hw.size
  have hX' : ∀ d, w1.heap.size ≤ d → d < W9.heap.size → X.heap[d]? = W9.heap[d]? := fun d h1 h2 => hX.block d h2 fun h => by have := (hbs d h).2; omega
  have h3 : ∀ d ∈ b3, w1.heap.size ≤ d ∧ d < W8.heap.size ∧ ∃ cur, Box W8 d 81 cur := fun d hd' => by
    obtain ⟨q1, q2⟩ := o3 d hd'
    exact ⟨q1, RowC.lt f3 d hd', hd.sent.box d (by rw [q2]; simp)⟩
  have hs8 : W8.heap.size ≤ W9.heap.size := h9.size
  refine ⟨b1, b2, b3, ⟨RowC.kept hpo.1 hX.size fun d h => hX' d (hpo.2.2.2.1 d h) (RowC.lt hpo.1 d h), RowC.kept hpo.2.1 hX.size fun d h => hX' d (hpo.2.2.2.2.1 d h) (RowC.lt hpo.2.1 d h), hpo.2.2.1, fun d h => by have := hpo.2.2.2.1 d h; omega, fun d h => by have := hpo.2.2.2.2.1 d h; omega, hpo.2.2.2.2.2.1, hpo.2.2.2.2.2.2⟩, ?_, hz, fun d h => ⟨by have := (h3 d h).1; omega, fun h1 => ?_, fun h2 => ?_⟩, ?_⟩
  · refine RowC.kept (RowC.below f3 h9) hX.size fun d h => hX' d (h3 d h).1 (by have := (h3 d h).2.1; omega)
  · have := hb1 d h1
    have := (h3 d h).2.1
    omega
  · obtain ⟨⟨c1, hc1⟩, _⟩ := hb2 d h2
    obtain ⟨_, _, c2, hc2⟩ := h3 d h
    exact (hc1.ne hc2 (by decide)) rfl
  · have c1 : Below w.heap.size w W9 := bjoin (bjoin h9 (hl.mono (Nat.le_refl _))) hw
    exact c1.trans (hX.below (by have := c1.size; omega) fun d hd' => (hbs d hd').1)
def AnsI (x : Pl) (conn : Int) (control tag : ByteArray) (now : Int) (w : World) (en : Ending) (w' : World) : Prop :=
  ∃ cv qv sv, en = .returned (.tuple #[plV (ansP x conn control tag now).1 cv qv, sv, wnV (ansP x conn control tag now).2.2.1, .bool (ansP x conn control tag now).2.2.2]) ∧ PoolSent (ansP x conn control tag now).1 (ansP x conn control tag now).2.1 w cv qv sv w'

set_option maxRecDepth 100000 in
set_option maxHeartbeats 3000000 in
theorem ansI_any (x : Pl) (cv qv : Value) (conn : Int) (control tag : ByteArray) (now : Int) (w : World) {lo : Nat} (hp : PlAt lo w x cv qv) (hI : Ito w.heap.size w) (hcw : (Lit.int .i64 conn).wf = true) (hcz : control.size ≤ 1048576) (htz : tag.size ≤ 1048576) :
    Calls Tryd.prog 20 #[plV x cv qv, .int .i64 conn, .string control, .string tag, .int .i64 now] w (AnsI x conn control tag now w) := by
  obtain ⟨a1, c1, hf1, _⟩ := hp.1.form
  obtain ⟨a2, c2, hf2, _⟩ := hp.2.form
  subst hf1 hf2
  have HZC : Hid (∀ i (h : i < x.conns.length), cnZ x.conns[i]) := fun i h => by obtain ⟨_, _, _, _, _, hz⟩ := at_place hp.1 h; exact hz
  have HZQ : Hid (∀ i (h : i < x.queue.length), wnZ x.queue[i]) := fun i h => by obtain ⟨_, _, _, _, _, hz⟩ := at_place hp.2 h; exact hz
  have HOF := hide (fun W (h : PlAt lo W x (.slice a1 x.conns.length c1) (.slice a2 x.queue.length c2)) => deskOf3_any x _ _ now W h)
  unfold plV at HOF
  show Calls Tryd.prog 20 #[.agg #[.int .i64 x.epoch, .int .i64 x.next, .slice a1 x.conns.length c1, .slice a2 x.queue.length c2], .int .i64 conn, .string control, .string tag, .int .i64 now] w _
  obtain ⟨w1, hw1⟩ : ∃ w1, ((w.alloc (Obj.cells #[.int .i64 x.epoch, .int .i64 x.next, .slice a1 x.conns.length c1, .slice a2 x.queue.length c2] 33)).alloc (Obj.cells #[.int .i64 0, .int .i64 0, .slice none 0 0, .slice none 0 0] 33)).alloc (Obj.cells #[.int .i64 0, .string ⟨#[]⟩, .string ⟨#[]⟩, .string ⟨#[]⟩] 38) = w1 := ⟨_, rfl⟩
  have HB1 : Hid (Below w.heap.size w w1) := by rw [← hw1]; exact (((Below.refl w.heap.size w).alloc (Nat.le_refl _) _).alloc (by simp) _).alloc (by simp; omega) _
  have HXP : Hid (Box w1 w.heap.size 33 #[.int .i64 x.epoch, .int .i64 x.next, .slice a1 x.conns.length c1, .slice a2 x.queue.length c2]) := by rw [← hw1]; exact ((Box.new w _ _).alloc _).alloc _
  have HXR : Hid (Box w1 (w.heap.size + 1) 33 #[.int .i64 0, .int .i64 0, .slice none 0 0, .slice none 0 0]) := by
    have := (Box.new (w.alloc (Obj.cells #[.int .i64 x.epoch, .int .i64 x.next, .slice a1 x.conns.length c1, .slice a2 x.queue.length c2] 33)) 33 #[.int .i64 0, .int .i64 0, .slice none 0 0, .slice none 0 0]).alloc (Obj.cells #[.int .i64 0, .string ⟨#[]⟩, .string ⟨#[]⟩, .string ⟨#[]⟩] 38)
    rw [hw1, Deep.nblk_alloc] at this
    exact this
  have HXQ : Hid (Box w1 (w.heap.size + 1 + 1) 38 #[.int .i64 0, .string ⟨#[]⟩, .string ⟨#[]⟩, .string ⟨#[]⟩]) := by
    have := Box.new ((w.alloc (Obj.cells #[.int .i64 x.epoch, .int .i64 x.next, .slice a1 x.conns.length c1, .slice a2 x.queue.length c2] 33)).alloc (Obj.cells #[.int .i64 0, .int .i64 0, .slice none 0 0, .slice none 0 0] 33)) 38 #[.int .i64 0, .string ⟨#[]⟩, .string ⟨#[]⟩, .string ⟨#[]⟩]
    rw [hw1, Deep.nblk_alloc, Deep.nblk_alloc] at this
    exact this
  have HPL := hide (hp.below HB1.out)
  have HI1 := hide (hI.up HB1.out)
  have KS : Hid (∀ W, Below w1.heap.size w1 W → (W.cell? ⟨w.heap.size, 0, none⟩ = some (.int .i64 x.epoch) ∧ W.cell? ⟨w.heap.size, 1, none⟩ = some (.int .i64 x.next) ∧ W.cell? ⟨w.heap.size, 2, none⟩ = some (.slice a1 x.conns.length c1) ∧ W.cell? ⟨w.heap.size, 3, none⟩ = some (.slice a2 x.queue.length c2)) ∧ ((W.cell? ⟨w.heap.size + 1, 0, none⟩ = some (.int .i64 0) ∧ W.cell? ⟨w.heap.size + 1, 1, none⟩ = some (.int .i64 0) ∧ W.cell? ⟨w.heap.size + 1, 2, none⟩ = some (.slice none 0 0) ∧ W.cell? ⟨w.heap.size + 1, 3, none⟩ = some (.slice none 0 0)) ∧ W.frozen? ⟨w.heap.size + 1, 0, none⟩ = false ∧ W.frozen? ⟨w.heap.size + 1, 1, none⟩ = false ∧ W.frozen? ⟨w.heap.size + 1, 2, none⟩ = false ∧ W.frozen? ⟨w.heap.size + 1, 3, none⟩ = false) ∧ ((W.cell? ⟨w.heap.size + 1 + 1, 0, none⟩ = some (.int .i64 0) ∧ W.cell? ⟨w.heap.size + 1 + 1, 1, none⟩ = some (.string ⟨#[]⟩) ∧ W.cell? ⟨w.heap.size + 1 + 1, 2, none⟩ = some (.string ⟨#[]⟩) ∧ W.cell? ⟨w.heap.size + 1 + 1, 3, none⟩ = some (.string ⟨#[]⟩)) ∧ W.frozen? ⟨w.heap.size + 1 + 1, 0, none⟩ = false ∧ W.frozen? ⟨w.heap.size + 1 + 1, 1, none⟩ = false ∧ W.frozen? ⟨w.heap.size + 1 + 1, 2, none⟩ = false ∧ W.frozen? ⟨w.heap.size + 1 + 1, 3, none⟩ = false) ∧ w.heap.size + 1 + 1 < W.heap.size) := fun W hW => by
    have hq := HXQ.out.below hW
    exact ⟨(HXP.out.below hW).pool.1, (HXR.out.below hW).pool, ⟨⟨hq.cell 0 (by simp), hq.cell 1 (by simp), hq.cell 2 (by simp), hq.cell 3 (by simp)⟩, hq.frozen 0, hq.frozen 1, hq.frozen 2, hq.frozen 3⟩, hq.lt⟩
  have HB2lt := hide HXQ.out.lt
  have HBS : Hid (∀ b ∈ [w.heap.size + 1, w.heap.size + 1 + 1], w.heap.size ≤ b ∧ b < w1.heap.size) := fun b hb => by
    have := HB2lt.out
    simp at hb
    rcases hb with rfl | rfl <;> omega
  have H8 : Hid (∀ W x0 x1 x2 x3 y0 y1 y2 y3, Only [w.heap.size + 1, w.heap.size + 1 + 1] W ((((((((W.setCell ⟨w.heap.size + 1, 0, none⟩ x0).setCell ⟨w.heap.size + 1, 1, none⟩ x1).setCell ⟨w.heap.size + 1, 2, none⟩ x2).setCell ⟨w.heap.size + 1, 3, none⟩ x3).setCell ⟨w.heap.size + 1 + 1, 0, none⟩ y0).setCell ⟨w.heap.size + 1 + 1, 1, none⟩ y1).setCell ⟨w.heap.size + 1 + 1, 2, none⟩ y2).setCell ⟨w.heap.size + 1 + 1, 3, none⟩ y3)) := fun W x0 x1 x2 x3 y0 y1 y2 y3 => ((((((((Only.refl _ _).setCell (by simp) _).setCell (by simp) _).setCell (by simp) _).setCell (by simp) _).setCell (by simp) _).setCell (by simp) _).setCell (by simp) _).setCell (by simp) _
  clear hp hI
  obtain ⟨⟨p0, p1, p2, p3⟩, ⟨⟨r0, r1, r2, r3⟩, f0, f1, f2, f3⟩, ⟨⟨u0, u1, u2, u3⟩, k0, k1, k2, k3⟩, hz9⟩ := KS.out w1 (Below.refl _ _)
  by_cases hok : okPl x = true ∧ nowB now = true
  · obtain ⟨g1, g2, g3, g4, g5, g6, g7⟩ := okPl_head_of hok.1
    obtain ⟨g8, g9⟩ := nowB_of hok.2
    have HOK := hide hok
    clear hok
    go_enter Tryd.func20, Tryd.ntmps20
    go_wp2_with fail
    refine (HOF.out _ HPL.out).mono ?_
    rintro en W0 ⟨⟨_, _, D, M, Ls, lv, fv0, qv2, n, rfl, hdn, hn, hmf⟩ | ⟨hno, _⟩, hbW⟩
    case inr => exact absurd HOK.out hno
    have hLl : Ls.length = x.conns.length := hdn.desk.len
    have hlook := hmf.look conn control hcw (by omega)
    have d5 : W0.cell? ⟨D, 5, none⟩ = some (.map (some M)) := hdn.desk.cells.1.2.2.2.2.2.1
    have HPI := hide (poolI_any hdn.desk HZC.out HZQ.out (by rw [hdn.desk.len]; simp only; omega) (by simp only; omega) hbW.size)
    unfold plV at HPI
    have HDN := hide hdn
    have HBW := hide hbW
    -- what is answered where nothing fits
    have HNO : Hid (hitN x.conns conn control tag = none → ∀ W3 cv3 qv3 b1 b2, PlO w1.heap.size W3 x cv3 qv3 b1 b2 → (∀ d ∈ b1, W0.heap.size ≤ d) → (∀ d ∈ b2, (∃ cur, Box W0 d 38 cur) ∧ ∀ hi, QB qv2 hi → d < hi) → Below W0.heap.size W0 W3 → ∀ x0 x1 x2 x3 y0 y1 y2 y3, AnsI x conn control tag now w (.returned (.tuple #[.agg #[.int .i64 x.epoch, .int .i64 x.next, cv3, qv3], .slice none 0 0, .agg #[.int .i64 0, .string ⟨#[]⟩, .string ⟨#[]⟩, .string ⟨#[]⟩], .bool false])) ((((((((W3.setCell ⟨w.heap.size + 1, 0, none⟩ x0).setCell ⟨w.heap.size + 1, 1, none⟩ x1).setCell ⟨w.heap.size + 1, 2, none⟩ x2).setCell ⟨w.heap.size + 1, 3, none⟩ x3).setCell ⟨w.heap.size + 1 + 1, 0, none⟩ y0).setCell ⟨w.heap.size + 1 + 1, 1, none⟩ y1).setCell ⟨w.heap.size + 1 + 1, 2, none⟩ y2).setCell ⟨w.heap.size + 1 + 1, 3, none⟩ y3)) := fun h W3 cv3 qv3 b1 b2 hpo hb1 hb2 hb3 x0 x1 x2 x3 y0 y1 y2 y3 => by
      unfold AnsI
      rw [ansP_none HOK.out h]
      exact ⟨_, _, _, rfl, PoolSent.ofs HDN.out.desk HB1.out HBW.out HBS.out hpo hb1 hb2 hb3 (by simp) (by simp) (H8.out _ _ _ _ _ _ _ _ _)⟩
    rcases outF_cases x.conns Ls hLl conn control tag with ⟨ho, hh⟩ | ⟨k, hk, hk2, rfl, hbz, hcc, ho, hmiss⟩
    · rw [ho] at hlook
      have hlook' : (Instr.lookup 74 (.map (some M)) (.agg #[.int .i64 conn, .string control]) false).run Tryd.prog W0 = .ok (.pointer none) W0 := hlook
      have HN1 := hide (HNO.out hh)
      clear hdn hbW hmf hlook ho hh
      go_wp2_with fail
      refine HPI.out.mono ?_
      rintro en W3 ⟨cv3, qv3, b1, b2, rfl, hpo, hb1, hb2, hb3⟩
      obtain ⟨⟨a3, c3, e3⟩, a4, c4, e4⟩ := hpo.at.form
      simp only at e3 e4
      subst e3 e4
      obtain ⟨⟨p0, p1, p2, p3⟩, ⟨⟨r0, r1, r2, r3⟩, f0, f1, f2, f3⟩, ⟨⟨u0, u1, u2, u3⟩, k0, k1, k2, k3⟩, hz9⟩ := KS.out W3 (bj2 hb3 HBW.out (Nat.le_refl _))
      have HF := hide (HN1.out W3 _ _ b1 b2 hpo hb1 hb2 hb3)
      clear hpo hb1 hb2 hb3
      go_wp2_with fail
      exact bodyPost_ret (v := .tuple #[.agg #[.int .i64 x.epoch, .int .i64 x.next, .slice a3 x.conns.length c3, .slice a4 x.queue.length c4], .slice none 0 0, .agg #[.int .i64 0, .string ⟨#[]⟩, .string ⟨#[]⟩, .string ⟨#[]⟩], .bool false]) (by simp [results, Tryd.results20, go_sem, r0, r1, r2, r3, u0, u1, u2, u3, hz9]) rfl (HF.out _ _ _ _ _ _ _ _)
    · rw [ho] at hlook
      obtain ⟨L, hL⟩ : ∃ L, Ls[k] = L := ⟨_, rfl⟩
      obtain ⟨c, hc⟩ : ∃ c, x.conns[k] = c := ⟨_, rfl⟩
      rw [hL] at hlook
      rw [hc] at hbz hmiss hcc
      have hlook' : (Instr.lookup 74 (.map (some M)) (.agg #[.int .i64 (k : Int), .string control]) false).run Tryd.prog W0 = .ok (.pointer (some ⟨L, 0, none⟩)) W0 := hlook
      have HCC := hide hcc
      clear hcc
      have hln : Box W0 L 90 (lnA c k) := by have := hdn.desk.line k hk2 hk; rw [hL] at this; simp only at this; rw [hc] at this; exact this
      obtain ⟨⟨m0, m1, m2, m3, m4, m5, m6, m7⟩, _⟩ := hln.line7
      by_cases ht : c.want.tag = tag
      · have hH : hitN x.conns (k : Int) control tag = some k := hitN_yes hk rfl (by rw [hc]; exact hbz) (by rw [hc]; exact HCC.out) (by rw [hc]; exact ht)
        obtain ⟨s0, hs0⟩ : ∃ s0 : Ds, (⟨x.epoch, x.next, now, x.conns, freeIdx x.conns, x.queue, []⟩ : Ds) = s0 := ⟨_, rfl⟩
        obtain ⟨R, hR⟩ : ∃ R, serveD x.queue.length (relD s0 k) = R := ⟨_, rfl⟩
        have hEl : (relD s0 k).queue.length = x.queue.length := by rw [← hs0]; rfl
        have HAP : Hid (ansP x (k : Int) control tag now = (⟨R.epoch, R.next, R.conns, R.queue⟩, R.sent, c.want, true)) := by
          have hs := served (relD s0 k) (by have := relD_serves now HOK.out.1 hk; rw [hs0] at this; exact this) (by rw [← hs0]; rfl)
          rw [hEl, hR] at hs
          have e2 : serveA now ⟨x.epoch, x.next, x.conns.set k cn0, x.queue⟩ = serveA (relD s0 k).now ⟨(relD s0 k).epoch, (relD s0 k).next, (relD s0 k).conns, (relD s0 k).queue⟩ := by rw [← hs0]; rfl
          have e3 : (x.conns.getD k cn0) = c := by rw [List.getD_eq_getElem?_getD, List.getElem?_eq_getElem hk]; exact hc
          rw [ansP_some HOK.out hH, e2, hs, e3]
          exact rfl
        have hDZ0 : DsZ s0 := by rw [← hs0]; exact ⟨all_mem HZC.out, all_mem HZQ.out, by simp⟩
        have HZR := hide (serveD_Z x.queue.length (relD s0 k) (by rw [← hs0]; simp only [relD]; omega) (by rw [← hs0]; simp only [relD]; omega) (relD_Z k hDZ0))
        rw [hR] at HZR
        rw [hs0] at hdn
        have hc0 : s0.conns = x.conns := by rw [← hs0]
        have hks : k < s0.conns.length := by rw [hc0]; exact hk
        have hcs : s0.conns[k] = c := by subst hs0; exact hc
        have hrel := release_any hdn k hk2 hks hbW.size (by rw [hcs, ← hc]; exact HZC.out k hk) (by rw [← hs0]; have := freeGo_len 0 x.conns; show (freeGo 0 x.conns).length ≤ 1000; omega) (by omega)
        simp only [hcs, hL] at hrel
        unfold wnV at hrel
        have HREL := hide hrel
        have HS0 := hide hs0
        have HR := hide hR
        have HEL := hide hEl
        have HLL := hide hLl
        clear hdn hbW hmf hlook ho hln hbz hc hL hmiss hH hrel hs0 hR hEl hDZ0 hc0 hks hcs HNO HPI hLl
        subst ht
        go_wp2_with fail
        refine HREL.out.mono ?_
        rintro en W1 ⟨rfl, fv1, hd1, hb1, ht1⟩
        obtain ⟨W1a, hW1a⟩ : ∃ X, W1.alloc (Obj.cells #[.int .i64 c.want.client, .string c.want.tag, .string c.want.query, .string c.want.pointer] 38) = X := ⟨_, rfl⟩
        have hb1a : Below W1.heap.size W1 W1a := by rw [← hW1a]; exact (Below.refl _ _).alloc (Nat.le_refl _) _
        obtain ⟨BA, hBA⟩ : ∃ BA, W1.heap.size = BA := ⟨_, rfl⟩
        have hbxA : Box W1a BA 38 #[.int .i64 c.want.client, .string c.want.tag, .string c.want.query, .string c.want.pointer] := by rw [← hW1a, ← hBA]; exact Box.new _ _ _
        have hd1a := hd1.desk.below hb1a
        have HB1a := hide (bj2 hb1a (HBW.out.trans hb1) (Nat.le_refl _))
        have HCALL := hide (serveI_any sendOk hd1a HB1a.out.size (HI1.out.keep HB1a.out) (by rw [← HS0.out]; simp only [relD]; omega) (by rw [← HS0.out]; simp only [relD]; omega) (by rw [← HS0.out]; simp only [relD]; omega) (by rw [← HS0.out]; simp only [relD]; omega) (by rw [← HS0.out]; simp only [relD]; omega) (by rw [← HS0.out]; simp only [relD]; omega) (by rw [← HS0.out]; simp [relD]) (by omega) (by have := HLL.out; omega) (by rw [HEL.out]; omega))
        rw [HEL.out, HR.out] at HCALL
        have HBXA := hide hbxA
        have HBAlo : Hid (w1.heap.size ≤ BA) := by show _ ≤ _; rw [← hBA]; exact (HBW.out.trans hb1).size
        clear hd1 hb1 ht1 hb1a hbxA hd1a
        go_wp2_with fail
        clear hBA hW1a
        refine HCALL.out.mono ?_
        rintro en W6 ⟨rfl, fv6, qv6, sv6, n6, hd6, hb6, ht6, hq6⟩
        have HB6 := hide (HB1a.out.trans hb6)
        have HBX6 := hide (HBXA.out.keepT (ht6 _ (by decide) (by decide) (by decide) (by decide)))
        obtain ⟨a8, c8, hsf, _⟩ := hd6.sent.form
        subst hsf
        obtain ⟨D7, hwd7⟩ : ∃ D7, W6.drew = D7 := ⟨_, rfl⟩
        have hk0 : Below W6.heap.size W6 W6.drew := (Below.refl _ _).drew
        have hk1 : Below W6.heap.size W6 D7 := by rw [← hwd7]; exact hk0
        have hd7 := hd6.below hk1
        have HB7 := hide (bj2 hk1 HB6.out (Nat.le_refl _))
        have KS7 : Hid (∀ X, Below W6.heap.size W6 X → X.cell? ⟨D, 7, none⟩ = some (.slice a8 R.sent.length c8) ∧ X.cell? ⟨BA, 0, none⟩ = some (.int .i64 c.want.client) ∧ X.cell? ⟨BA, 1, none⟩ = some (.string c.want.tag) ∧ X.cell? ⟨BA, 2, none⟩ = some (.string c.want.query) ∧ X.cell? ⟨BA, 3, none⟩ = some (.string c.want.pointer)) := fun X hX => by
          have hq := HBX6.out.below hX
          exact ⟨(hd6.below hX).cells.1.2.2.2.2.2.2.2, hq.cell 0 (by simp), hq.cell 1 (by simp), hq.cell 2 (by simp), hq.cell 3 (by simp)⟩
        have hDlo : w1.heap.size ≤ D := hd7.lows.1
        have KS8 : Hid (∀ X Y, Below W6.heap.size W6 X → Only [w.heap.size + 1, w.heap.size + 1 + 1] X Y → Y.cell? ⟨D, 7, none⟩ = some (.slice a8 R.sent.length c8) ∧ Y.cell? ⟨BA, 0, none⟩ = some (.int .i64 c.want.client) ∧ Y.cell? ⟨BA, 1, none⟩ = some (.string c.want.tag) ∧ Y.cell? ⟨BA, 2, none⟩ = some (.string c.want.query) ∧ Y.cell? ⟨BA, 3, none⟩ = some (.string c.want.pointer)) := fun X Y hX hO => by
          have hlt := HB2lt.out
          have e1 : Y.heap[D]? = X.heap[D]? := hO.block D (hd6.below hX).box.lt (by simp; omega)
          have e2 : Y.heap[BA]? = X.heap[BA]? := hO.block BA (HBX6.out.below hX).lt (by have := HBAlo.out; simp; omega)
          obtain ⟨s0, s1, s2, s3, s4⟩ := KS7.out X hX
          exact ⟨(cellSame e1).trans s0, (cellSame e2).trans s1, (cellSame e2).trans s2, (cellSame e2).trans s3, (cellSame e2).trans s4⟩
        have H4 : Hid (∀ W x0 x1 x2 x3, Only [w.heap.size + 1, w.heap.size + 1 + 1] W ((((W.setCell ⟨w.heap.size + 1, 0, none⟩ x0).setCell ⟨w.heap.size + 1, 1, none⟩ x1).setCell ⟨w.heap.size + 1, 2, none⟩ x2).setCell ⟨w.heap.size + 1, 3, none⟩ x3)) := fun W x0 x1 x2 x3 => ((((Only.refl _ _).setCell (by simp) _).setCell (by simp) _).setCell (by simp) _).setCell (by simp) _
        have HPI := hide (poolI_any hd7 (mem_all HZR.out.1.1) (mem_all HZR.out.1.2.1) (by have := HLL.out; omega) (by have := HZR.out.2.2.1; rw [HEL.out] at this; omega) HB7.out.size)
        unfold plV at HPI
        have HD7 := hide hd7
        clear hd6 hb6 hd7 ht6 hq6 hDlo
        go_wp2_with fail
        go_region_held3 (fun X : World => X.cell? ⟨D, 7, none⟩ = some (.slice a8 R.sent.length c8) ∧ X.cell? ⟨BA, 0, none⟩ = some (.int .i64 c.want.client) ∧ X.cell? ⟨BA, 1, none⟩ = some (.string c.want.tag) ∧ X.cell? ⟨BA, 2, none⟩ = some (.string c.want.query) ∧ X.cell? ⟨BA, 3, none⟩ = some (.string c.want.pointer))
          (first | with_reducible exact KS7.out _ hk0 | with_reducible exact KS7.out _ hk1 | with_reducible exact KS7.out _ hS9 | with_reducible exact hS10 _ _ _ _ | with_reducible exact hS11 _ _ _ _ _ _ _ _)
          (first | (go_at_call 44; refine HPI.out.mono ?_; rintro e W9 ⟨cv9, qv9, b1, b2, rfl, hpo, hb1, hb2, hb9⟩; obtain ⟨⟨a9, c9, e9⟩, a10, c10, e10⟩ := hpo.at.form; simp only at e9 e10; subst e9 e10; have hS9 : Below W6.heap.size W6 W9 := bjoin hb9 hk1; have hS10 : ∀ x0 x1 x2 x3, ((((W9.setCell ⟨w.heap.size + 1, 0, none⟩ x0).setCell ⟨w.heap.size + 1, 1, none⟩ x1).setCell ⟨w.heap.size + 1, 2, none⟩ x2).setCell ⟨w.heap.size + 1, 3, none⟩ x3).cell? ⟨D, 7, none⟩ = some (.slice a8 R.sent.length c8) ∧ ((((W9.setCell ⟨w.heap.size + 1, 0, none⟩ x0).setCell ⟨w.heap.size + 1, 1, none⟩ x1).setCell ⟨w.heap.size + 1, 2, none⟩ x2).setCell ⟨w.heap.size + 1, 3, none⟩ x3).cell? ⟨BA, 0, none⟩ = some (.int .i64 c.want.client) ∧ ((((W9.setCell ⟨w.heap.size + 1, 0, none⟩ x0).setCell ⟨w.heap.size + 1, 1, none⟩ x1).setCell ⟨w.heap.size + 1, 2, none⟩ x2).setCell ⟨w.heap.size + 1, 3, none⟩ x3).cell? ⟨BA, 1, none⟩ = some (.string c.want.tag) ∧ ((((W9.setCell ⟨w.heap.size + 1, 0, none⟩ x0).setCell ⟨w.heap.size + 1, 1, none⟩ x1).setCell ⟨w.heap.size + 1, 2, none⟩ x2).setCell ⟨w.heap.size + 1, 3, none⟩ x3).cell? ⟨BA, 2, none⟩ = some (.string c.want.query) ∧ ((((W9.setCell ⟨w.heap.size + 1, 0, none⟩ x0).setCell ⟨w.heap.size + 1, 1, none⟩ x1).setCell ⟨w.heap.size + 1, 2, none⟩ x2).setCell ⟨w.heap.size + 1, 3, none⟩ x3).cell? ⟨BA, 3, none⟩ = some (.string c.want.pointer) := fun x0 x1 x2 x3 => KS8.out _ _ hS9 (H4.out _ _ _ _ _); have hS11 : ∀ x0 x1 x2 x3 y0 y1 y2 y3, ((((((((W9.setCell ⟨w.heap.size + 1, 0, none⟩ x0).setCell ⟨w.heap.size + 1, 1, none⟩ x1).setCell ⟨w.heap.size + 1, 2, none⟩ x2).setCell ⟨w.heap.size + 1, 3, none⟩ x3).setCell ⟨w.heap.size + 1 + 1, 0, none⟩ y0).setCell ⟨w.heap.size + 1 + 1, 1, none⟩ y1).setCell ⟨w.heap.size + 1 + 1, 2, none⟩ y2).setCell ⟨w.heap.size + 1 + 1, 3, none⟩ y3).cell? ⟨D, 7, none⟩ = some (.slice a8 R.sent.length c8) ∧ ((((((((W9.setCell ⟨w.heap.size + 1, 0, none⟩ x0).setCell ⟨w.heap.size + 1, 1, none⟩ x1).setCell ⟨w.heap.size + 1, 2, none⟩ x2).setCell ⟨w.heap.size + 1, 3, none⟩ x3).setCell ⟨w.heap.size + 1 + 1, 0, none⟩ y0).setCell ⟨w.heap.size + 1 + 1, 1, none⟩ y1).setCell ⟨w.heap.size + 1 + 1, 2, none⟩ y2).setCell ⟨w.heap.size + 1 + 1, 3, none⟩ y3).cell? ⟨BA, 0, none⟩ = some (.int .i64 c.want.client) ∧ ((((((((W9.setCell ⟨w.heap.size + 1, 0, none⟩ x0).setCell ⟨w.heap.size + 1, 1, none⟩ x1).setCell ⟨w.heap.size + 1, 2, none⟩ x2).setCell ⟨w.heap.size + 1, 3, none⟩ x3).setCell ⟨w.heap.size + 1 + 1, 0, none⟩ y0).setCell ⟨w.heap.size + 1 + 1, 1, none⟩ y1).setCell ⟨w.heap.size + 1 + 1, 2, none⟩ y2).setCell ⟨w.heap.size + 1 + 1, 3, none⟩ y3).cell? ⟨BA, 1, none⟩ = some (.string c.want.tag) ∧ ((((((((W9.setCell ⟨w.heap.size + 1, 0, none⟩ x0).setCell ⟨w.heap.size + 1, 1, none⟩ x1).setCell ⟨w.heap.size + 1, 2, none⟩ x2).setCell ⟨w.heap.size + 1, 3, none⟩ x3).setCell ⟨w.heap.size + 1 + 1, 0, none⟩ y0).setCell ⟨w.heap.size + 1 + 1, 1, none⟩ y1).setCell ⟨w.heap.size + 1 + 1, 2, none⟩ y2).setCell ⟨w.heap.size + 1 + 1, 3, none⟩ y3).cell? ⟨BA, 2, none⟩ = some (.string c.want.query) ∧ ((((((((W9.setCell ⟨w.heap.size + 1, 0, none⟩ x0).setCell ⟨w.heap.size + 1, 1, none⟩ x1).setCell ⟨w.heap.size + 1, 2, none⟩ x2).setCell ⟨w.heap.size + 1, 3, none⟩ x3).setCell ⟨w.heap.size + 1 + 1, 0, none⟩ y0).setCell ⟨w.heap.size + 1 + 1, 1, none⟩ y1).setCell ⟨w.heap.size + 1 + 1, 2, none⟩ y2).setCell ⟨w.heap.size + 1 + 1, 3, none⟩ y3).cell? ⟨BA, 3, none⟩ = some (.string c.want.pointer) := fun x0 x1 x2 x3 y0 y1 y2 y3 => KS8.out _ _ hS9 (H8.out _ _ _ _ _ _ _ _ _); obtain ⟨⟨p0, p1, p2, p3⟩, ⟨⟨r0, r1, r2, r3⟩, f0, f1, f2, f3⟩, ⟨⟨u0, u1, u2, u3⟩, k0, k1, k2, k3⟩, hz9⟩ := KS.out W9 (bj2 hb9 HB7.out (Nat.le_refl _))))
        have HFIN : Hid (∀ x0 x1 x2 x3 y0 y1 y2 y3, AnsI x (k : Int) control c.want.tag now w (.returned (.tuple #[.agg #[.int .i64 R.epoch, .int .i64 R.next, .slice a9 R.conns.length c9, .slice a10 R.queue.length c10], .slice a8 R.sent.length c8, .agg #[.int .i64 c.want.client, .string c.want.tag, .string c.want.query, .string c.want.pointer], .bool true])) ((((((((W9.setCell ⟨w.heap.size + 1, 0, none⟩ x0).setCell ⟨w.heap.size + 1, 1, none⟩ x1).setCell ⟨w.heap.size + 1, 2, none⟩ x2).setCell ⟨w.heap.size + 1, 3, none⟩ x3).setCell ⟨w.heap.size + 1 + 1, 0, none⟩ y0).setCell ⟨w.heap.size + 1 + 1, 1, none⟩ y1).setCell ⟨w.heap.size + 1 + 1, 2, none⟩ y2).setCell ⟨w.heap.size + 1 + 1, 3, none⟩ y3)) := fun x0 x1 x2 x3 y0 y1 y2 y3 => by
          unfold AnsI
          rw [HAP.out]
          exact ⟨_, _, _, rfl, PoolSent.ofs HD7.out HB1.out HB7.out HBS.out hpo hb1 hb2 hb9 HZR.out.1.2.2 (by have := HZR.out.2.2.2; rw [← HS0.out] at this; simp [relD] at this; omega) (H8.out _ _ _ _ _ _ _ _ _)⟩
        clear hpo hb1 hb2 hb9 hS9 hS10 hS11
        go_wp2_with fail
        exact bodyPost_ret (v := .tuple #[.agg #[.int .i64 R.epoch, .int .i64 R.next, .slice a9 R.conns.length c9, .slice a10 R.queue.length c10], .slice a8 R.sent.length c8, .agg #[.int .i64 c.want.client, .string c.want.tag, .string c.want.query, .string c.want.pointer], .bool true]) (by simp [results, Tryd.results20, go_sem, r0, r1, r2, r3, u0, u1, u2, u3, hz9]) rfl (HFIN.out _ _ _ _ _ _ _ _)
      · have HN1 := hide (HNO.out (hmiss ht))
        have htl : ¬ c.want.tag.toList = tag.toList := fun e => ht (bytes_ext (by rw [← ByteArray.toList_eq, ← ByteArray.toList_eq]; exact e))
        have htb : (c.want.tag.toList == tag.toList) = false := by simpa using htl
        clear hdn hbW hmf hlook ho hln hbz hc hL hmiss
        go_wp2_with fail
        refine HPI.out.mono ?_
        rintro en W3 ⟨cv3, qv3, b1, b2, rfl, hpo, hb1, hb2, hb3⟩
        obtain ⟨⟨a3, c3, e3⟩, a4, c4, e4⟩ := hpo.at.form
        simp only at e3 e4
        subst e3 e4
        obtain ⟨⟨p0, p1, p2, p3⟩, ⟨⟨r0, r1, r2, r3⟩, f0, f1, f2, f3⟩, ⟨⟨u0, u1, u2, u3⟩, k0, k1, k2, k3⟩, hz9⟩ := KS.out W3 (bj2 hb3 HBW.out (Nat.le_refl _))
        have HF := hide (HN1.out W3 _ _ b1 b2 hpo hb1 hb2 hb3)
        clear hpo hb1 hb2 hb3
        go_wp2_with fail
        exact bodyPost_ret (v := .tuple #[.agg #[.int .i64 x.epoch, .int .i64 x.next, .slice a3 x.conns.length c3, .slice a4 x.queue.length c4], .slice none 0 0, .agg #[.int .i64 0, .string ⟨#[]⟩, .string ⟨#[]⟩, .string ⟨#[]⟩], .bool false]) (by simp [results, Tryd.results20, go_sem, r0, r1, r2, r3, u0, u1, u2, u3, hz9]) rfl (HF.out _ _ _ _ _ _ _ _)
  · have HG : Hid (∀ W, Below w1.heap.size w1 W → ∀ x0 x1 x2 x3 y0 y1 y2 y3, AnsI x conn control tag now w (.returned (.tuple #[.agg #[.int .i64 0, .int .i64 0, .slice none 0 0, .slice none 0 0], .slice none 0 0, .agg #[.int .i64 0, .string ⟨#[]⟩, .string ⟨#[]⟩, .string ⟨#[]⟩], .bool false])) ((((((((W.setCell ⟨w.heap.size + 1, 0, none⟩ x0).setCell ⟨w.heap.size + 1, 1, none⟩ x1).setCell ⟨w.heap.size + 1, 2, none⟩ x2).setCell ⟨w.heap.size + 1, 3, none⟩ x3).setCell ⟨w.heap.size + 1 + 1, 0, none⟩ y0).setCell ⟨w.heap.size + 1 + 1, 1, none⟩ y1).setCell ⟨w.heap.size + 1 + 1, 2, none⟩ y2).setCell ⟨w.heap.size + 1 + 1, 3, none⟩ y3)) := fun W hW x0 x1 x2 x3 y0 y1 y2 y3 => by
      unfold AnsI
      rw [ansP_bad hok]
      have c1 := bjoin hW HB1.out
      exact ⟨_, _, _, rfl, PoolSent.none _ _ _ _ _ _ _ _ _ _ (c1.trans ((H8.out W _ _ _ _ _ _ _ _).below c1.size fun d hd => (HBS.out d hd).1))⟩
    go_enter Tryd.func20, Tryd.ntmps20
    go_wp2_with fail
    refine (HOF.out _ HPL.out).mono ?_
    rintro en W ⟨⟨h1, h2, _⟩ | ⟨hno, rfl⟩, hbW⟩
    case inl => exact absurd ⟨h1, h2⟩ hok
    obtain ⟨⟨p0, p1, p2, p3⟩, ⟨⟨r0, r1, r2, r3⟩, f0, f1, f2, f3⟩, ⟨⟨u0, u1, u2, u3⟩, k0, k1, k2, k3⟩, hz9⟩ := KS.out W hbW
    have HBW := hide hbW
    clear hbW
    go_wp2_with fail
    exact bodyPost_ret (v := .tuple #[.agg #[.int .i64 0, .int .i64 0, .slice none 0 0, .slice none 0 0], .slice none 0 0, .agg #[.int .i64 0, .string ⟨#[]⟩, .string ⟨#[]⟩, .string ⟨#[]⟩], .bool false]) (by simp [results, Tryd.results20, go_sem, r0, r1, r2, r3, u0, u1, u2, u3, hz9]) rfl (HG.out _ HBW.out _ _ _ _ _ _ _ _)
end Go.Proofs.YtfeccdhadgpnkaaDoor.Msg
