import Derived.Test.YtfdefjdogmhinaaDoorAskIwithDeskOf3
import Derived.Test.YtfdefjdogmhinaaDoorAnsPurewithPlRun
import Derived.Test.YtfdefjdogmhinaaDoorServeSwithAskS
namespace Go.Proofs.YtfdefjdogmhinaaDoor.Msg
open Go.ChangeShapes Go.WideShapes Go.ChangeAt Go.RowKit
set_option linter.unusedVariables false
set_option linter.unusedSimpArgs false

/-- what a desk gives out, where several boxes of the call's own are filled -/
theorem PoolSent.ofs {w w1 W8 W9 X : World} {D M : Nat} {Ls : List Nat} {s : Ds} {lv fv qv sv cv9 qv9 : Value} {n : Nat} {b1 b2 bs : List Nat} (hd : Desk w1.heap.size W8 D M Ls s lv fv qv sv n) (hw : Below w.heap.size w w1) (hl : Below w1.heap.size w1 W8) (hbs : ∀ b ∈ bs, w.heap.size ≤ b ∧ b < w1.heap.size)
    (hpo : PlO w1.heap.size W9 ⟨s.epoch, s.next, s.conns, s.queue⟩ cv9 qv9 b1 b2) (hb1 : ∀ d ∈ b1, W8.heap.size ≤ d) (hb2 : ∀ d ∈ b2, (∃ cur, Box W8 d 33 cur) ∧ ∀ hi, QB qv hi → d < hi) (h9 : Below W8.heap.size W8 W9) (hz : ∀ t ∈ s.sent, stZ t) (hsl : s.sent.length ≤ 1000) (hX : Only bs W9 X) :
    PoolSent ⟨s.epoch, s.next, s.conns, s.queue⟩ s.sent w cv9 qv9 sv X := by
  obtain ⟨b3, f3, o3, _⟩ := FO.of_own stC_len hd.sent (by omega)
  have hsz : w.heap.size ≤ w1.heap.size := hw.size
  have hX' : ∀ d, w1.heap.size ≤ d → d < W9.heap.size → X.heap[d]? = W9.heap[d]? := fun d h1 h2 => hX.block d h2 fun h => by have := (hbs d h).2; omega
  have h3 : ∀ d ∈ b3, w1.heap.size ≤ d ∧ d < W8.heap.size ∧ ∃ cur, Box W8 d 48 cur := fun d hd' => by
    obtain ⟨q1, q2⟩ := o3 d hd'
    exact ⟨q1, RowC.lt f3 d hd', hd.sent.box d (by rw [q2]; simp)⟩
  have hs8 : W8.heap.size ≤ W9.heap.size := h9.size
  refine ⟨b1, b2, b3, ⟨RowC.kept hpo.1 hX.size fun d h => hX' d (hpo.2.2.2.1 d h) (RowC.lt hpo.1 d h), RowC.kept hpo.2.1 hX.size fun d h => hX' d (hpo.2.2.2.2.1 d h) (RowC.lt hpo.2.1 d h), hpo.2.2.1, fun d h => by have := hpo.2.2.2.1 d h; omega, fun d h => by have := hpo.2.2.2.2.1 d h; omega, hpo.2.2.2.2.2.1, hpo.2.2.2.2.2.2⟩, ?_, hz, fun d h => ⟨by have := (h3 d h).1; omega, fun h1 => ?_, fun h2 => ?_⟩, ?_⟩
  · refine RowC.kept (RowC.below f3 h9) hX.size fun d h => hX' d (h3 d h).1 (by have := (h3 d h).2.1; omega)
  · have := hb1 d h1
    have := (h3 d h).2.1
    omega
  · obtain ⟨⟨c1, hc1⟩, _⟩ := hb2 d h2
    obtain ⟨_, _, c2, hc2⟩ := h3 d h
    exact (hc1.ne hc2 (by decide)) rfl
  · have c1 : Below w.heap.size w W9 := bjoin (bjoin h9 (hl.mono (Nat.le_refl _))) hw
    exact c1.trans (hX.below (by have := c1.size; omega) fun d hd' => (hbs d hd').1)
def AnsI (x : Pl) (conn : Int) (control tag : ByteArray) (now : Int) (w : World) (en : Ending) (w' : World) : Prop :=
  ∃ cv qv sv, en = .returned (.tuple #[plV (ansP x conn control tag now).1 cv qv, sv, wnV (ansP x conn control tag now).2.2.1, .bool (ansP x conn control tag now).2.2.2]) ∧ PoolSent (ansP x conn control tag now).1 (ansP x conn control tag now).2.1 w cv qv sv w'

set_option maxRecDepth 100000 in
set_option maxHeartbeats 3000000 in
theorem ansI_any (x : Pl) (cv qv : Value) (conn : Int) (control tag : ByteArray) (now : Int) (w : World) {lo : Nat} (hp : PlAt lo w x cv qv) (hI : Ito w.heap.size w) (hcw : (Lit.int .i64 conn).wf = true) (hcz : control.size ≤ 1048576) (htz : tag.size ≤ 1048576) :
    Calls Tryd.prog 10 #[plV x cv qv, .int .i64 conn, .string control, .string tag, .int .i64 now] w (AnsI x conn control tag now w) := by
  obtain ⟨a1, c1, hf1, _⟩ := hp.1.form
  obtain ⟨a2, c2, hf2, _⟩ := hp.2.form
  subst hf1 hf2
  have HZC : Hid (∀ i (h : i < x.conns.length), cnZ x.conns[i]) := fun i h => by obtain ⟨_, _, _, _, _, hz⟩ := at_place hp.1 h; exact hz
  have HZQ : Hid (∀ i (h : i < x.queue.length), wnZ x.queue[i]) := fun i h => by obtain ⟨_, _, _, _, _, hz⟩ := at_place hp.2 h; exact hz
  have HOF := hide (fun W (h : PlAt lo W x (.slice a1 x.conns.length c1) (.slice a2 x.queue.length c2)) => deskOf3_any x _ _ now W h)
  unfold plV at HOF
  show Calls Tryd.prog 10 #[.agg #[.int .i64 x.epoch, .int .i64 x.next, .slice a1 x.conns.length c1, .slice a2 x.queue.length c2], .int .i64 conn, .string control, .string tag, .int .i64 now] w _
  obtain ⟨w1, hw1⟩ : ∃ w1, ((w.alloc (Obj.cells #[.int .i64 x.epoch, .int .i64 x.next, .slice a1 x.conns.length c1, .slice a2 x.queue.length c2] 27)).alloc (Obj.cells #[.int .i64 0, .int .i64 0, .slice none 0 0, .slice none 0 0] 27)).alloc (Obj.cells #[.int .i64 0, .string ⟨#[]⟩, .string ⟨#[]⟩, .string ⟨#[]⟩] 33) = w1 := ⟨_, rfl⟩
  have HB1 : Hid (Below w.heap.size w w1) := by rw [← hw1]; exact (((Below.refl w.heap.size w).alloc (Nat.le_refl _) _).alloc (by simp) _).alloc (by simp; omega) _
  have HXP : Hid (Box w1 w.heap.size 27 #[.int .i64 x.epoch, .int .i64 x.next, .slice a1 x.conns.length c1, .slice a2 x.queue.length c2]) := by rw [← hw1]; exact ((Box.new w _ _).alloc _).alloc _
  have HXR : Hid (Box w1 (w.heap.size + 1) 27 #[.int .i64 0, .int .i64 0, .slice none 0 0, .slice none 0 0]) := by
    have := (Box.new (w.alloc (Obj.cells #[.int .i64 x.epoch, .int .i64 x.next, .slice a1 x.conns.length c1, .slice a2 x.queue.length c2] 27)) 27 #[.int .i64 0, .int .i64 0, .slice none 0 0, .slice none 0 0]).alloc (Obj.cells #[.int .i64 0, .string ⟨#[]⟩, .string ⟨#[]⟩, .string ⟨#[]⟩] 33)
    rw [hw1, Deep.nblk_alloc] at this
    exact this
  have HXQ : Hid (Box w1 (w.heap.size + 1 + 1) 33 #[.int .i64 0, .string ⟨#[]⟩, .string ⟨#[]⟩, .string ⟨#[]⟩]) := by
    have := Box.new ((w.alloc (Obj.cells #[.int .i64 x.epoch, .int .i64 x.next, .slice a1 x.conns.length c1, .slice a2 x.queue.length c2] 27)).alloc (Obj.cells #[.int .i64 0, .int .i64 0, .slice none 0 0, .slice none 0 0] 27)) 33 #[.int .i64 0, .string ⟨#[]⟩, .string ⟨#[]⟩, .string ⟨#[]⟩]
    rw [hw1, Deep.nblk_alloc, Deep.nblk_alloc] at this
    exact this
  have HPL := hide (hp.below HB1.out)
  have HI1 := hide (hI.up HB1.out)
  have KS : Hid (∀ W, Below w1.heap.size w1 W → (W.cell? ⟨w.heap.size, 0, none⟩ = some (.int .i64 x.epoch) ∧ W.cell? ⟨w.heap.size, 1, none⟩ = some (.int .i64 x.next) ∧ W.cell? ⟨w.heap.size, 2, none⟩ = some (.slice a1 x.conns.length c1) ∧ W.cell? ⟨w.heap.size, 3, none⟩ = some (.slice a2 x.queue.length c2)) ∧ ((W.cell? ⟨w.heap.size + 1, 0, none⟩ = some (.int .i64 0) ∧ W.cell? ⟨w.heap.size + 1, 1, none⟩ = some (.int .i64 0) ∧ W.cell? ⟨w.heap.size + 1, 2, none⟩ = some (.slice none 0 0) ∧ W.cell? ⟨w.heap.size + 1, 3, none⟩ = some (.slice none 0 0)) ∧ W.frozen? ⟨w.heap.size + 1, 0, none⟩ = false ∧ W.frozen? ⟨w.heap.size + 1, 1, none⟩ = false ∧ W.frozen? ⟨w.heap.size + 1, 2, none⟩ = false ∧ W.frozen? ⟨w.heap.size + 1, 3, none⟩ = false) ∧ ((W.cell? ⟨w.heap.size + 1 + 1, 0, none⟩ = some (.int .i64 0) ∧ W.cell? ⟨w.heap.size + 1 + 1, 1, none⟩ = some (.string ⟨#[]⟩) ∧ W.cell? ⟨w.heap.size + 1 + 1, 2, none⟩ = some (.string ⟨#[]⟩) ∧ W.cell? ⟨w.heap.size + 1 + 1, 3, none⟩ = some (.string ⟨#[]⟩)) ∧ W.frozen? ⟨w.heap.size + 1 + 1, 0, none⟩ = false ∧ W.frozen? ⟨w.heap.size + 1 + 1, 1, none⟩ = false ∧ W.frozen? ⟨w.heap.size + 1 + 1, 2, none⟩ = false ∧ W.frozen? ⟨w.heap.size + 1 + 1, 3, none⟩ = false) ∧ w.heap.size + 1 + 1 < W.heap.size) := fun W hW => by
    have hq := HXQ.out.below hW
    exact ⟨(HXP.out.below hW).pool.1, (HXR.out.below hW).pool, ⟨⟨hq.cell 0 (by simp), hq.cell 1 (by simp), hq.cell 2 (by simp), hq.cell 3 (by simp)⟩, hq.frozen 0, hq.frozen 1, hq.frozen 2, hq.frozen 3⟩, hq.lt⟩
  have HB2lt := hide HXQ.out.lt
  have HBS : Hid (∀ b ∈ [w.heap.size + 1, w.heap.size + 1 + 1], w.heap.size ≤ b ∧ b < w1.heap.size) := fun b hb => by
    have := HB2lt.out
    simp at hb
    rcases hb with rfl | rfl <;> omega
  have H8 : Hid (∀ W x0 x1 x2 x3 y0 y1 y2 y3, Only [w.heap.size + 1, w.heap.size + 1 + 1] W ((((((((W.setCell ⟨w.heap.size + 1, 0, none⟩ x0).setCell ⟨w.heap.size + 1, 1, none⟩ x1).setCell ⟨w.heap.size + 1, 2, none⟩ x2).setCell ⟨w.heap.size + 1, 3, none⟩ x3).setCell ⟨w.heap.size + 1 + 1, 0, none⟩ y0).setCell ⟨w.heap.size + 1 + 1, 1, none⟩ y1).setCell ⟨w.heap.size + 1 + 1, 2, none⟩ y2).setCell ⟨w.heap.size + 1 + 1, 3, none⟩ y3)) := fun W x0 x1 x2 x3 y0 y1 y2 y3 => ((((((((Only.refl _ _).setCell (by simp) _).setCell (by simp) _).setCell (by simp) _).setCell (by simp) _).setCell (by simp) _).setCell (by simp) _).setCell (by simp) _).setCell (by simp) _
  clear hp hI
  obtain ⟨⟨p0, p1, p2, p3⟩, ⟨⟨r0, r1, r2, r3⟩, f0, f1, f2, f3⟩, ⟨⟨u0, u1, u2, u3⟩, k0, k1, k2, k3⟩, hz9⟩ := KS.out w1 (Below.refl _ _)
  by_cases hok : okPl x = true ∧ nowB now = true
  · obtain ⟨g1, g2, g3, g4, g5, g6, g7⟩ := okPl_head_of hok.1
    obtain ⟨g8, g9⟩ := nowB_of hok.2
    have HOK := hide hok
    clear hok
    go_enter Tryd.func10, Tryd.ntmps10
    go_wp2_with fail
    refine (HOF.out _ HPL.out).mono ?_
    rintro en W0 ⟨⟨_, _, D, M, Ls, lv, fv0, qv2, n, rfl, hdn, hn, hmf⟩ | ⟨hno, _⟩, hbW⟩
    case inr => exact absurd HOK.out hno
    have hLl : Ls.length = x.conns.length := hdn.desk.len
    have hlook := hmf.look conn control hcw (by omega)
    have d5 : W0.cell? ⟨D, 5, none⟩ = some (.map (some M)) := hdn.desk.cells.1.2.2.2.2.2.1
    have HPI := hide (poolI_any hdn.desk HZC.out HZQ.out (by rw [hdn.desk.len]; simp only; omega) (by simp only; omega) hbW.size)
    unfold plV at HPI
    have HDN := hide hdn
    have HBW := hide hbW
    -- what is answered where nothing fits
    have HNO : Hid (hitN x.conns conn control tag = none → ∀ W3 cv3 qv3 b1 b2, PlO w1.heap.size W3 x cv3 qv3 b1 b2 → (∀ d ∈ b1, W0.heap.size ≤ d) → (∀ d ∈ b2, (∃ cur, Box W0 d 33 cur) ∧ ∀ hi, QB qv2 hi → d < hi) → Below W0.heap.size W0 W3 → ∀ x0 x1 x2 x3 y0 y1 y2 y3, AnsI x conn control tag now w (.returned (.tuple #[.agg #[.int .i64 x.epoch, .int .i64 x.next, cv3, qv3], .slice none 0 0, .agg #[.int .i64 0, .string ⟨#[]⟩, .string ⟨#[]⟩, .string ⟨#[]⟩], .bool false])) ((((((((W3.setCell ⟨w.heap.size + 1, 0, none⟩ x0).setCell ⟨w.heap.size + 1, 1, none⟩ x1).setCell ⟨w.heap.size + 1, 2, none⟩ x2).setCell ⟨w.heap.size + 1, 3, none⟩ x3).setCell ⟨w.heap.size + 1 + 1, 0, none⟩ y0).setCell ⟨w.heap.size + 1 + 1, 1, none⟩ y1).setCell ⟨w.heap.size + 1 + 1, 2, none⟩ y2).setCell ⟨w.heap.size + 1 + 1, 3, none⟩ y3)) := fun h W3 cv3 qv3 b1 b2 hpo hb1 hb2 hb3 x0 x1 x2 x3 y0 y1 y2 y3 => by
      unfold AnsI
      rw [ansP_none HOK.out h]
      exact ⟨_, _, _, rfl, PoolSent.ofs HDN.out.desk HB1.out HBW.out HBS.out hpo hb1 hb2 hb3 (by simp) (by simp) (H8.out _ _ _ _ _ _ _ _ _)⟩
    rcases outF_cases x.conns Ls hLl conn control tag with ⟨ho, hh⟩ | ⟨k, hk, hk2, rfl, hbz, hcc, ho, hmiss⟩
    · rw [ho] at hlook
      have hlook' : (Instr.lookup 56 (.map (some M)) (.agg #[.int .i64 conn, .string control]) false).run Tryd.prog W0 = .ok (.pointer none) W0 := hlook
      have HN1 := hide (HNO.out hh)
      clear hdn hbW hmf hlook ho hh
      go_wp2_with fail
      refine HPI.out.mono ?_
      rintro en W3 ⟨cv3, qv3, b1, b2, rfl, hpo, hb1, hb2, hb3⟩
      obtain ⟨⟨a3, c3, e3⟩, a4, c4, e4⟩ := hpo.at.form
      simp only at e3 e4
      subst e3 e4
      obtain ⟨⟨p0, p1, p2, p3⟩, ⟨⟨r0, r1, r2, r3⟩, f0, f1, f2, f3⟩, ⟨⟨u0, u1, u2, u3⟩, k0, k1, k2, k3⟩, hz9⟩ := KS.out W3 (bj2 hb3 HBW.out (Nat.le_refl _))
      have HF := hide (HN1.out W3 _ _ b1 b2 hpo hb1 hb2 hb3)
      clear hpo hb1 hb2 hb3
      go_wp2_with fail
      exact bodyPost_ret (v := .tuple #[.agg #[.int .i64 x.epoch, .int .i64 x.next, .slice a3 x.conns.length c3, .slice a4 x.queue.length c4], .slice none 0 0, .agg #[.int .i64 0, .string ⟨#[]⟩, .string ⟨#[]⟩, .string ⟨#[]⟩], .bool false]) (by simp [results, Tryd.results10, go_sem, r0, r1, r2, r3, u0, u1, u2, u3, hz9]) rfl (HF.out _ _ _ _ _ _ _ _)
    · rw [ho] at hlook
      obtain ⟨L, hL⟩ : ∃ L, Ls[k] = L := ⟨_, rfl⟩
      obtain ⟨c, hc⟩ : ∃ c, x.conns[k] = c := ⟨_, rfl⟩
      rw [hL] at hlook
      rw [hc] at hbz hmiss hcc
      have hlook' : (Instr.lookup 56 (.map (some M)) (.agg #[.int .i64 (k : Int), .string control]) false).run Tryd.prog W0 = .ok (.pointer (some ⟨L, 0, none⟩)) W0 := hlook
      have HCC := hide hcc
      clear hcc
      have hln : Box W0 L 68 (lnA c k) := by have := hdn.desk.line k hk2 hk; rw [hL] at this; simp only at this; rw [hc] at this; exact this
      obtain ⟨⟨m0, m1, m2, m3, m4, m5, m6, m7⟩, _⟩ := hln.line7
      by_cases ht : c.want.tag = tag
      · have hH : hitN x.conns (k : Int) control tag = some k := hitN_yes hk rfl (by rw [hc]; exact hbz) (by rw [hc]; exact HCC.out) (by rw [hc]; exact ht)
        obtain ⟨s0, hs0⟩ : ∃ s0 : Ds, (⟨x.epoch, x.next, now, x.conns, freeIdx x.conns, x.queue, []⟩ : Ds) = s0 := ⟨_, rfl⟩
        obtain ⟨R, hR⟩ : ∃ R, serveD x.queue.length (relD s0 k) = R := ⟨_, rfl⟩
        have hEl : (relD s0 k).queue.length = x.queue.length := by rw [← hs0]; rfl
        have HAP : Hid (ansP x (k : Int) control tag now = (⟨R.epoch, R.next, R.conns, R.queue⟩, R.sent, c.want, true)) := by
          have hs := served (relD s0 k) (by have := relD_serves now HOK.out.1 hk; rw [hs0] at this; exact this) (by rw [← hs0]; rfl)
          rw [hEl, hR] at hs
          have e2 : serveA now ⟨x.epoch, x.next, x.conns.set k cn0, x.queue⟩ = serveA (relD s0 k).now ⟨(relD s0 k).epoch, (relD s0 k).next, (relD s0 k).conns, (relD s0 k).queue⟩ := by rw [← hs0]; rfl
          have e3 : (x.conns.getD k cn0) = c := by rw [List.getD_eq_getElem?_getD, List.getElem?_eq_getElem hk]; exact hc
          rw [ansP_some HOK.out hH, e2, hs, e3]
          exact rfl
        have hDZ0 : DsZ s0 := by rw [← hs0]; exact ⟨all_mem HZC.out, all_mem HZQ.out, by simp⟩
        have HZR := hide (serveD_Z x.queue.length (relD s0 k) (by rw [← hs0]; simp only [relD]; omega) (by rw [← hs0]; simp only [relD]; omega) (relD_Z k hDZ0))
        rw [hR] at HZR
        rw [hs0] at hdn
        have hc0 : s0.conns = x.conns := by rw [← hs0]
        have hks : k < s0.conns.length := by rw [hc0]; exact hk
        have hcs : s0.conns[k] = c := by subst hs0; exact hc
        have hrel := release_any hdn k hk2 hks hbW.size (by rw [hcs, ← hc]; exact HZC.out k hk) (by rw [← hs0]; have := freeGo_len 0 x.conns; show (freeGo 0 x.conns).length ≤ 1000; omega) (by omega)
        simp only [hcs, hL] at hrel
        unfold wnV at hrel
        have HREL := hide hrel
        have HS0 := hide hs0
        have HR := hide hR
        have HEL := hide hEl
        have HLL := hide hLl
        clear hdn hbW hmf hlook ho hln hbz hc hL hmiss hH hrel hs0 hR hEl hDZ0 hc0 hks hcs HNO HPI hLl
        subst ht
        go_wp2_with fail
        refine HREL.out.mono ?_
        rintro en W1 ⟨rfl, fv1, hd1, hb1, ht1⟩
        obtain ⟨W1a, hW1a⟩ : ∃ X, W1.alloc (Obj.cells #[.int .i64 c.want.client, .string c.want.tag, .string c.want.query, .string c.want.pointer] 33) = X := ⟨_, rfl⟩
        have hb1a : Below W1.heap.size W1 W1a := by rw [← hW1a]; exact (Below.refl _ _).alloc (Nat.le_refl _) _
        obtain ⟨BA, hBA⟩ : ∃ BA, W1.heap.size = BA := ⟨_, rfl⟩
        have hbxA : Box W1a BA 33 #[.int .i64 c.want.client, .string c.want.tag, .string c.want.query, .string c.want.pointer] := by rw [← hW1a, ← hBA]; exact Box.new _ _ _
        have hd1a := hd1.desk.below hb1a
        have HB1a := hide (bj2 hb1a (HBW.out.trans hb1) (Nat.le_refl _))
        have HCALL := hide (serveI_any sendOk hd1a HB1a.out.size (HI1.out.keep HB1a.out) (by rw [← HS0.out]; simp only [relD]; omega) (by rw [← HS0.out]; simp only [relD]; omega) (by rw [← HS0.out]; simp only [relD]; omega) (by rw [← HS0.out]; simp only [relD]; omega) (by rw [← HS0.out]; simp only [relD]; omega) (by rw [← HS0.out]; simp only [relD]; omega) (by rw [← HS0.out]; simp [relD]) (by omega) (by have := HLL.out; omega) (by rw [HEL.out]; omega))
        rw [HEL.out, HR.out] at HCALL
        have HBXA := hide hbxA
        have HBAlo : Hid (w1.heap.size ≤ BA) := by show _ ≤ _; rw [← hBA]; exact (HBW.out.trans hb1).size
        clear hd1 hb1 ht1 hb1a hbxA hd1a
        go_wp2_with fail
        clear hBA hW1a
        refine HCALL.out.mono ?_
        rintro en W6 ⟨rfl, fv6, qv6, sv6, n6, hd6, hb6, ht6, hq6⟩
        have HB6 := hide (HB1a.out.trans hb6)
        have HBX6 := hide (HBXA.out.keepT (ht6 _ (by decide) (by decide) (by decide) (by decide)))
        obtain ⟨a8, c8, hsf, _⟩ := hd6.sent.form
        subst hsf
        obtain ⟨D7, hwd7⟩ : ∃ D7, W6.drew = D7 := ⟨_, rfl⟩
        have hk0 : Below W6.heap.size W6 W6.drew := (Below.refl _ _).drew
        have hk1 : Below W6.heap.size W6 D7 := by rw [← hwd7]; exact hk0
        have hd7 := hd6.below hk1
        have HB7 := hide (bj2 hk1 HB6.out (Nat.le_refl _))
        have KS7 : Hid (∀ X, Below W6.heap.size W6 X → X.cell? ⟨D, 7, none⟩ = some (.slice a8 R.sent.length c8) ∧ X.cell? ⟨BA, 0, none⟩ = some (.int .i64 c.want.client) ∧ X.cell? ⟨BA, 1, none⟩ = some (.string c.want.tag) ∧ X.cell? ⟨BA, 2, none⟩ = some (.string c.want.query) ∧ X.cell? ⟨BA, 3, none⟩ = some (.string c.want.pointer)) := fun X hX => by
          have hq := HBX6.out.below hX
          exact ⟨(hd6.below hX).cells.1.2.2.2.2.2.2.2, hq.cell 0 (by simp), hq.cell 1 (by simp), hq.cell 2 (by simp), hq.cell 3 (by simp)⟩
        have hDlo : w1.heap.size ≤ D := hd7.lows.1
        have KS8 : Hid (∀ X Y, Below W6.heap.size W6 X → Only [w.heap.size + 1, w.heap.size + 1 + 1] X Y → Y.cell? ⟨D, 7, none⟩ = some (.slice a8 R.sent.length c8) ∧ Y.cell? ⟨BA, 0, none⟩ = some (.int .i64 c.want.client) ∧ Y.cell? ⟨BA, 1, none⟩ = some (.string c.want.tag) ∧ Y.cell? ⟨BA, 2, none⟩ = some (.string c.want.query) ∧ Y.cell? ⟨BA, 3, none⟩ = some (.string c.want.pointer)) := fun X Y hX hO => by
          have hlt := HB2lt.out
          have e1 : Y.heap[D]? = X.heap[D]? := hO.block D (hd6.below hX).box.lt (by simp; omega)
          have e2 : Y.heap[BA]? = X.heap[BA]? := hO.block BA (HBX6.out.below hX).lt (by have := HBAlo.out; simp; omega)
          obtain ⟨s0, s1, s2, s3, s4⟩ := KS7.out X hX
          exact ⟨(cellSame e1).trans s0, (cellSame e2).trans s1, (cellSame e2).trans s2, (cellSame e2).trans s3, (cellSame e2).trans s4⟩
        have H4 : Hid (∀ W x0 x1 x2 x3, Only [w.heap.size + 1, w.heap.size + 1 + 1] W ((((W.setCell ⟨w.heap.size + 1, 0, none⟩ x0).setCell ⟨w.heap.size + 1, 1, none⟩ x1).setCell ⟨w.heap.size + 1, 2, none⟩ x2).setCell ⟨w.heap.size + 1, 3, none⟩ x3)) := fun W x0 x1 x2 x3 => ((((Only.refl _ _).setCell (by simp) _).setCell (by simp) _).setCell (by simp) _).setCell (by simp) _
        have HPI := hide (poolI_any hd7 (mem_all HZR.out.1.1) (mem_all HZR.out.1.2.1) (by have := HLL.out; omega) (by have := HZR.out.2.2.1; rw [HEL.out] at this; omega) HB7.out.size)
        unfold plV at HPI
        have HD7 := hide hd7
        clear hd6 hb6 hd7 ht6 hq6 hDlo
        go_wp2_with fail
        go_region_held3 (fun X : World => X.cell? ⟨D, 7, none⟩ = some (.slice a8 R.sent.length c8) ∧ X.cell? ⟨BA, 0, none⟩ = some (.int .i64 c.want.client) ∧ X.cell? ⟨BA, 1, none⟩ = some (.string c.want.tag) ∧ X.cell? ⟨BA, 2, none⟩ = some (.string c.want.query) ∧ X.cell? ⟨BA, 3, none⟩ = some (.string c.want.pointer))
          (first | with_reducible exact KS7.out _ hk0 | with_reducible exact KS7.out _ hk1 | with_reducible exact KS7.out _ hS9 | with_reducible exact hS10 _ _ _ _ | with_reducible exact hS11 _ _ _ _ _ _ _ _)
          (first | (go_at_call 22; refine HPI.out.mono ?_; rintro e W9 ⟨cv9, qv9, b1, b2, rfl, hpo, hb1, hb2, hb9⟩; obtain ⟨⟨a9, c9, e9⟩, a10, c10, e10⟩ := hpo.at.form; simp only at e9 e10; subst e9 e10; have hS9 : Below W6.heap.size W6 W9 := bjoin hb9 hk1; have hS10 : ∀ x0 x1 x2 x3, ((((W9.setCell ⟨w.heap.size + 1, 0, none⟩ x0).setCell ⟨w.heap.size + 1, 1, none⟩ x1).setCell ⟨w.heap.size + 1, 2, none⟩ x2).setCell ⟨w.heap.size + 1, 3, none⟩ x3).cell? ⟨D, 7, none⟩ = some (.slice a8 R.sent.length c8) ∧ ((((W9.setCell ⟨w.heap.size + 1, 0, none⟩ x0).setCell ⟨w.heap.size + 1, 1, none⟩ x1).setCell ⟨w.heap.size + 1, 2, none⟩ x2).setCell ⟨w.heap.size + 1, 3, none⟩ x3).cell? ⟨BA, 0, none⟩ = some (.int .i64 c.want.client) ∧ ((((W9.setCell ⟨w.heap.size + 1, 0, none⟩ x0).setCell ⟨w.heap.size + 1, 1, none⟩ x1).setCell ⟨w.heap.size + 1, 2, none⟩ x2).setCell ⟨w.heap.size + 1, 3, none⟩ x3).cell? ⟨BA, 1, none⟩ = some (.string c.want.tag) ∧ ((((W9.setCell ⟨w.heap.size + 1, 0, none⟩ x0).setCell ⟨w.heap.size + 1, 1, none⟩ x1).setCell ⟨w.heap.size + 1, 2, none⟩ x2).setCell ⟨w.heap.size + 1, 3, none⟩ x3).cell? ⟨BA, 2, none⟩ = some (.string c.want.query) ∧ ((((W9.setCell ⟨w.heap.size + 1, 0, none⟩ x0).setCell ⟨w.heap.size + 1, 1, none⟩ x1).setCell ⟨w.heap.size + 1, 2, none⟩ x2).setCell ⟨w.heap.size + 1, 3, none⟩ x3).cell? ⟨BA, 3, none⟩ = some (.string c.want.pointer) := fun x0 x1 x2 x3 => KS8.out _ _ hS9 (H4.out _ _ _ _ _); have hS11 : ∀ x0 x1 x2 x3 y0 y1 y2 y3, ((((((((W9.setCell ⟨w.heap.size + 1, 0, none⟩ x0).setCell ⟨w.heap.size + 1, 1, none⟩ x1).setCell ⟨w.heap.size + 1, 2, none⟩ x2).setCell ⟨w.heap.size + 1, 3, none⟩ x3).setCell ⟨w.heap.size + 1 + 1, 0, none⟩ y0).setCell ⟨w.heap.size + 1 + 1, 1, none⟩ y1).setCell ⟨w.heap.size + 1 + 1, 2, none⟩ y2).setCell ⟨w.heap.size + 1 + 1, 3, none⟩ y3).cell? ⟨D, 7, none⟩ = some (.slice a8 R.sent.length c8) ∧ ((((((((W9.setCell ⟨w.heap.size + 1, 0, none⟩ x0).setCell ⟨w.heap.size + 1, 1, none⟩ x1).setCell ⟨w.heap.size + 1, 2, none⟩ x2).setCell ⟨w.heap.size + 1, 3, none⟩ x3).setCell ⟨w.heap.size + 1 + 1, 0, none⟩ y0).setCell ⟨w.heap.size + 1 + 1, 1, none⟩ y1).setCell ⟨w.heap.size + 1 + 1, 2, none⟩ y2).setCell ⟨w.heap.size + 1 + 1, 3, none⟩ y3).cell? ⟨BA, 0, none⟩ = some (.int .i64 c.want.client) ∧ ((((((((W9.setCell ⟨w.heap.size + 1, 0, none⟩ x0).setCell ⟨w.heap.size + 1, 1, none⟩ x1).setCell ⟨w.heap.size + 1, 2, none⟩ x2).setCell ⟨w.heap.size + 1, 3, none⟩ x3).setCell ⟨w.heap.size + 1 + 1, 0, none⟩ y0).setCell ⟨w.heap.size + 1 + 1, 1, none⟩ y1).setCell ⟨w.heap.size + 1 + 1, 2, none⟩ y2).setCell ⟨w.heap.size + 1 + 1, 3, none⟩ y3).cell? ⟨BA, 1, none⟩ = some (.string c.want.tag) ∧ ((((((((W9.setCell ⟨w.heap.size + 1, 0, none⟩ x0).setCell ⟨w.heap.size + 1, 1, none⟩ x1).setCell ⟨w.heap.size + 1, 2, none⟩ x2).setCell ⟨w.heap.size + 1, 3, none⟩ x3).setCell ⟨w.heap.size + 1 + 1, 0, none⟩ y0).setCell ⟨w.heap.size + 1 + 1, 1, none⟩ y1).setCell ⟨w.heap.size + 1 + 1, 2, none⟩ y2).setCell ⟨w.heap.size + 1 + 1, 3, none⟩ y3).cell? ⟨BA, 2, none⟩ = some (.string c.want.query) ∧ ((((((((W9.setCell ⟨w.heap.size + 1, 0, none⟩ x0).setCell ⟨w.heap.size + 1, 1, none⟩ x1).setCell ⟨w.heap.size + 1, 2, none⟩ x2).setCell ⟨w.heap.size + 1, 3, none⟩ x3).setCell ⟨w.heap.size + 1 + 1, 0, none⟩ y0).setCell ⟨w.heap.size + 1 + 1, 1, none⟩ y1).setCell ⟨w.heap.size + 1 + 1, 2, none⟩ y2).setCell ⟨w.heap.size + 1 + 1, 3, none⟩ y3).cell? ⟨BA, 3, none⟩ = some (.string c.want.pointer) := fun x0 x1 x2 x3 y0 y1 y2 y3 => KS8.out _ _ hS9 (H8.out _ _ _ _ _ _ _ _ _); obtain ⟨⟨p0, p1, p2, p3⟩, ⟨⟨r0, r1, r2, r3⟩, f0, f1, f2, f3⟩, ⟨⟨u0, u1, u2, u3⟩, k0, k1, k2, k3⟩, hz9⟩ := KS.out W9 (bj2 hb9 HB7.out (Nat.le_refl _))))
        have HFIN : Hid (∀ x0 x1 x2 x3 y0 y1 y2 y3, AnsI x (k : Int) control c.want.tag now w (.returned (.tuple #[.agg #[.int .i64 R.epoch, .int .i64 R.next, .slice a9 R.conns.length c9, .slice a10 R.queue.length c10], .slice a8 R.sent.length c8, .agg #[.int .i64 c.want.client, .string c.want.tag, .string c.want.query, .string c.want.pointer], .bool true])) ((((((((W9.setCell ⟨w.heap.size + 1, 0, none⟩ x0).setCell ⟨w.heap.size + 1, 1, none⟩ x1).setCell ⟨w.heap.size + 1, 2, none⟩ x2).setCell ⟨w.heap.size + 1, 3, none⟩ x3).setCell ⟨w.heap.size + 1 + 1, 0, none⟩ y0).setCell ⟨w.heap.size + 1 + 1, 1, none⟩ y1).setCell ⟨w.heap.size + 1 + 1, 2, none⟩ y2).setCell ⟨w.heap.size + 1 + 1, 3, none⟩ y3)) := fun x0 x1 x2 x3 y0 y1 y2 y3 => by
          unfold AnsI
          rw [HAP.out]
          exact ⟨_, _, _, rfl, PoolSent.ofs HD7.out HB1.out HB7.out HBS.out hpo hb1 hb2 hb9 HZR.out.1.2.2 (by have := HZR.out.2.2.2; rw [← HS0.out] at this; simp [relD] at this; omega) (H8.out _ _ _ _ _ _ _ _ _)⟩
        clear hpo hb1 hb2 hb9 hS9 hS10 hS11
        go_wp2_with fail
        exact bodyPost_ret (v := .tuple #[.agg #[.int .i64 R.epoch, .int .i64 R.next, .slice a9 R.conns.length c9, .slice a10 R.queue.length c10], .slice a8 R.sent.length c8, .agg #[.int .i64 c.want.client, .string c.want.tag, .string c.want.query, .string c.want.pointer], .bool true]) (by simp [results, Tryd.results10, go_sem, r0, r1, r2, r3, u0, u1, u2, u3, hz9]) rfl (HFIN.out _ _ _ _ _ _ _ _)
      · have HN1 := hide (HNO.out (hmiss ht))
        have htl : ¬ c.want.tag.toList = tag.toList := fun e => ht (bytes_ext (by rw [← ByteArray.toList_eq, ← ByteArray.toList_eq]; exact e))
        have htb : (c.want.tag.toList == tag.toList) = false := by simpa using htl
        clear hdn hbW hmf hlook ho hln hbz hc hL hmiss
        go_wp2_with fail
        refine HPI.out.mono ?_
        rintro en W3 ⟨cv3, qv3, b1, b2, rfl, hpo, hb1, hb2, hb3⟩
        obtain ⟨⟨a3, c3, e3⟩, a4, c4, e4⟩ := hpo.at.form
        simp only at e3 e4
        subst e3 e4
        obtain ⟨⟨p0, p1, p2, p3⟩, ⟨⟨r0, r1, r2, r3⟩, f0, f1, f2, f3⟩, ⟨⟨u0, u1, u2, u3⟩, k0, k1, k2, k3⟩, hz9⟩ := KS.out W3 (bj2 hb3 HBW.out (Nat.le_refl _))
        have HF := hide (HN1.out W3 _ _ b1 b2 hpo hb1 hb2 hb3)
        clear hpo hb1 hb2 hb3
        go_wp2_with fail
        exact bodyPost_ret (v := .tuple #[.agg #[.int .i64 x.epoch, .int .i64 x.next, .slice a3 x.conns.length c3, .slice a4 x.queue.length c4], .slice none 0 0, .agg #[.int .i64 0, .string ⟨#[]⟩, .string ⟨#[]⟩, .string ⟨#[]⟩], .bool false]) (by simp [results, Tryd.results10, go_sem, r0, r1, r2, r3, u0, u1, u2, u3, hz9]) rfl (HF.out _ _ _ _ _ _ _ _)
  · have HG : Hid (∀ W, Below w1.heap.size w1 W → ∀ x0 x1 x2 x3 y0 y1 y2 y3, AnsI x conn control tag now w (.returned (.tuple #[.agg #[.int .i64 0, .int .i64 0, .slice none 0 0, .slice none 0 0], .slice none 0 0, .agg #[.int .i64 0, .string ⟨#[]⟩, .string ⟨#[]⟩, .string ⟨#[]⟩], .bool false])) ((((((((W.setCell ⟨w.heap.size + 1, 0, none⟩ x0).setCell ⟨w.heap.size + 1, 1, none⟩ x1).setCell ⟨w.heap.size + 1, 2, none⟩ x2).setCell ⟨w.heap.size + 1, 3, none⟩ x3).setCell ⟨w.heap.size + 1 + 1, 0, none⟩ y0).setCell ⟨w.heap.size + 1 + 1, 1, none⟩ y1).setCell ⟨w.heap.size + 1 + 1, 2, none⟩ y2).setCell ⟨w.heap.size + 1 + 1, 3, none⟩ y3)) := fun W hW x0 x1 x2 x3 y0 y1 y2 y3 => by
      unfold AnsI
      rw [ansP_bad hok]
      have c1 := bjoin hW HB1.out
      exact ⟨_, _, _, rfl, PoolSent.none _ _ _ _ _ _ _ _ _ _ (c1.trans ((H8.out W _ _ _ _ _ _ _ _).below c1.size fun d hd => (HBS.out d hd).1))⟩
    go_enter Tryd.func10, Tryd.ntmps10
    go_wp2_with fail
    refine (HOF.out _ HPL.out).mono ?_
    rintro en W ⟨⟨h1, h2, _⟩ | ⟨hno, rfl⟩, hbW⟩
    case inl => exact absurd ⟨h1, h2⟩ hok
    obtain ⟨⟨p0, p1, p2, p3⟩, ⟨⟨r0, r1, r2, r3⟩, f0, f1, f2, f3⟩, ⟨⟨u0, u1, u2, u3⟩, k0, k1, k2, k3⟩, hz9⟩ := KS.out W hbW
    have HBW := hide hbW
    clear hbW
    go_wp2_with fail
    exact bodyPost_ret (v := .tuple #[.agg #[.int .i64 0, .int .i64 0, .slice none 0 0, .slice none 0 0], .slice none 0 0, .agg #[.int .i64 0, .string ⟨#[]⟩, .string ⟨#[]⟩, .string ⟨#[]⟩], .bool false]) (by simp [results, Tryd.results10, go_sem, r0, r1, r2, r3, u0, u1, u2, u3, hz9]) rfl (HG.out _ HBW.out _ _ _ _ _ _ _ _)
end Go.Proofs.YtfdefjdogmhinaaDoor.Msg

namespace Go.Proofs.YtfdefjdogmhinaaDoor.Msg
open Go.ChangeShapes Go.WideShapes Go.ChangeAt Go.RowKit
set_option linter.unusedVariables false
set_option linter.unusedSimpArgs false

/-- a list stays as it is where only a box turned that holds none of its elements -/
theorem at_off2 {α : Type} {C : α → List Value} {Z : α → Prop} {c : Nat} {W X : World} {v : Value} {xs : List α} {B : Nat} {t : TypeId} {arr : Array Value} (h : At c (FR C Z) 0 W v xs) (hX : Box W B t arr)
    (hne : ∀ x ∈ xs, ∃ j, ∃ hj : j < (C x).length, ∀ k (hk : k < arr.size), arr[k] ≠ (C x)[j]) (hs : W.heap.size ≤ X.heap.size) (hb : ∀ d, d ≠ B → d < W.heap.size → X.heap[d]? = W.heap[d]?) : At c (FR C Z) 0 X v xs := by
  obtain ⟨hl, h⟩ := h
  refine ⟨hl, ?_⟩
  rcases h with h | ⟨b, off, cap, rfl, hlt, h⟩
  · exact .inl h
  · refine .inr ⟨b, off, cap, rfl, ⟨hlt.1, Nat.lt_of_lt_of_le hlt.2 hs⟩, fun i hi => ⟨fun j hj => ?_, (h i hi).2⟩⟩
    have hbB : b ≠ B := fun e => by
      subst e
      obtain ⟨j0, hj0, hk⟩ := hne xs[i] (List.getElem_mem hi)
      have hc := (h i hi).1 j0 hj0
      unfold Box at hX
      simp only [World.cell?, hX] at hc
      have hoff : off + i * c + j0 < arr.size := by
        by_cases hh : off + i * c + j0 < arr.size
        · exact hh
        · simp [hh] at hc
      simp [hoff] at hc
      exact hk _ hoff hc
    have hbl := hb b hbB hlt.2
    rw [cellSame hbl]
    exact (h i hi).1 j hj
/-- what is served: wants of the queue, under controls that are made -/
theorem serve_mem : ∀ (f : Nat) (now : Int) (y : Pl), (∀ q ∈ (serve f now y).1.queue, q ∈ y.queue) ∧ ∀ t ∈ (serve f now y).2, ∃ e n, t.control = ctlOf e n
  | 0, now, y => ⟨fun q h => h, fun t h => by simp [serve] at h⟩
  | f + 1, now, y => by
    cases hq : y.queue with
    | nil => rw [serve_nil _ _ _ hq, ← hq]; exact ⟨fun q h => h, fun t h => by simp at h⟩
    | cons z qs =>
      by_cases hf : freeN y.conns < y.conns.length
      · rw [serve_step f now y z qs hq hf]
        obtain ⟨i1, i2⟩ := serve_mem f now (putP now y z qs)
        refine ⟨fun q h => List.mem_cons_of_mem _ (i1 q h), fun t h => ?_⟩
        rcases List.mem_cons.1 h with rfl | h
        · exact ⟨_, _, rfl⟩
        · exact i2 t h
      · rw [serve_full _ _ _ hf, ← hq]; exact ⟨fun q h => h, fun t h => by simp at h⟩
theorem ctl_ne (e n : Int) : ctlOf e n ≠ ⟨#[]⟩ := fun h => by
  have := congrArg ByteArray.size h
  unfold ctlOf at this
  simp only [ByteArray.size_append] at this
  have h1 : (⟨#[85]⟩ : ByteArray).size = 1 := rfl
  have h2 : (⟨#[]⟩ : ByteArray).size = 0 := rfl
  omega
theorem okWn_tag {q : Wn} (h : okWn q = true) : q.tag ≠ ⟨#[]⟩ := fun e => by
  unfold okWn at h
  rw [e] at h
  have : tagB ⟨#[]⟩ = false := by decide
  rw [this] at h
  simp at h
theorem okPl_wants {x : Pl} (h : okPl x = true) : ∀ q ∈ x.queue, okWn q = true := fun q hq => by
  obtain ⟨i, hi, e⟩ := List.getElem_of_mem hq
  cases hw : okWn q with
  | true => rfl
  | false => rw [okPl_queue hi (by rw [e]; exact hw)] at h; cases h
def AnsSP (x : Pl) (conn : Int) (control tag : ByteArray) (now : Int) (w : World) (en : Ending) (w' : World) : Prop :=
  ∃ cv qv sv, en = .returned (.tuple #[plV (ansP x conn control tag now).1 cv qv, sv, wnV (ansP x conn control tag now).2.2.1, .bool (ansP x conn control tag now).2.2.2]) ∧ PlAt 0 w' (ansP x conn control tag now).1 cv qv ∧ StsAt 0 w' sv (ansP x conn control tag now).2.1 ∧ Below w.heap.size w w'
theorem bj3 {B : Nat} {w W c : World} (h2 : Below W.heap.size W c) (h1 : Below B w W) (hB : B ≤ w.heap.size) : Below B w c := h1.trans (h2.mono (by have := h1.size; omega))
theorem qoff_cn (x : Cn) : ∃ j, ∃ hj : j < (cnC x).length, ∀ k (hk : k < (#[Value.int .i64 0, .string ⟨#[]⟩, .string ⟨#[]⟩, .string ⟨#[]⟩] : Array Value).size), (#[Value.int .i64 0, .string ⟨#[]⟩, .string ⟨#[]⟩, .string ⟨#[]⟩] : Array Value)[k] ≠ (cnC x)[j] := ⟨0, by simp [cnC], fun k hk => by
  match k, hk with
  | 0, _ => simp [cnC]
  | 1, _ => simp [cnC]
  | 2, _ => simp [cnC]
  | 3, _ => simp [cnC]⟩
theorem qoff_wn (x : Wn) (h : x.tag ≠ ⟨#[]⟩) : ∃ j, ∃ hj : j < (wnC x).length, ∀ k (hk : k < (#[Value.int .i64 0, .string ⟨#[]⟩, .string ⟨#[]⟩, .string ⟨#[]⟩] : Array Value).size), (#[Value.int .i64 0, .string ⟨#[]⟩, .string ⟨#[]⟩, .string ⟨#[]⟩] : Array Value)[k] ≠ (wnC x)[j] := ⟨1, by simp [wnC], fun k hk => by
  match k, hk with
  | 0, _ => simp [wnC]
  | 1, _ => simp [wnC]; exact fun e => h e.symm
  | 2, _ => simp [wnC]; exact fun e => h e.symm
  | 3, _ => simp [wnC]; exact fun e => h e.symm⟩
theorem qoff_st (x : St) (h : x.control ≠ ⟨#[]⟩) : ∃ j, ∃ hj : j < (stC x).length, ∀ k (hk : k < (#[Value.int .i64 0, .string ⟨#[]⟩, .string ⟨#[]⟩, .string ⟨#[]⟩] : Array Value).size), (#[Value.int .i64 0, .string ⟨#[]⟩, .string ⟨#[]⟩, .string ⟨#[]⟩] : Array Value)[k] ≠ (stC x)[j] := ⟨1, by simp [stC], fun k hk => by
  match k, hk with
  | 0, _ => simp [stC]
  | 1, _ => simp [stC]; exact fun e => h e.symm
  | 2, _ => simp [stC]; exact fun e => h e.symm
  | 3, _ => simp [stC]; exact fun e => h e.symm⟩
theorem str_ne {a b : ByteArray} (h : a ≠ b) : ¬ a.toList = b.toList ∧ (a.toList == b.toList) = false := by
  have h1 : ¬ a.toList = b.toList := fun e => h (bytes_ext (by rw [← ByteArray.toList_eq, ← ByteArray.toList_eq]; exact e))
  exact ⟨h1, by simpa using h1⟩

set_option maxRecDepth 100000 in
set_option maxHeartbeats 4000000 in
theorem ansS_any (x : Pl) (cv qv : Value) (conn : Int) (control tag : ByteArray) (now : Int) (w : World) {lo : Nat} (hp : PlAt lo w x cv qv) :
    Calls Tryd.prog 11 #[plV x cv qv, .int .i64 conn, .string control, .string tag, .int .i64 now] w (AnsSP x conn control tag now w) := by
  have hp0 : PlAt 0 w x cv qv := ⟨At.mono mono_flat hp.1 (Nat.zero_le _), At.mono mono_flat hp.2 (Nat.zero_le _)⟩
  obtain ⟨a1, c1, hf1, _⟩ := hp.1.form
  obtain ⟨a2, c2, hf2, _⟩ := hp.2.form
  subst hf1 hf2
  clear hp
  have HPO := hide (fun W (h : PlAt 0 W x (.slice a1 x.conns.length c1) (.slice a2 x.queue.length c2)) => poolOkS_any x _ _ W h)
  have HNO := hide (fun W => nowS_any now W)
  unfold plV at HPO
  show Calls Tryd.prog 11 #[.agg #[.int .i64 x.epoch, .int .i64 x.next, .slice a1 x.conns.length c1, .slice a2 x.queue.length c2], .int .i64 conn, .string control, .string tag, .int .i64 now] w _
  obtain ⟨w1, hw1⟩ : ∃ w1, (((w.alloc (Obj.cells #[.int .i64 x.epoch, .int .i64 x.next, .slice a1 x.conns.length c1, .slice a2 x.queue.length c2] 27)).alloc (Obj.cells #[.int .i64 0, .int .i64 0, .slice none 0 0, .slice none 0 0] 27)).alloc (Obj.cells #[.int .i64 0, .string ⟨#[]⟩, .string ⟨#[]⟩, .string ⟨#[]⟩] 33)).alloc (Obj.cells #[] 48) = w1 := ⟨_, rfl⟩
  have HB1 : Hid (Below w.heap.size w w1) := by rw [← hw1]; exact ((((Below.refl w.heap.size w).alloc (Nat.le_refl _) _).alloc (by simp) _).alloc (by simp; omega) _).alloc (by simp; omega) _
  have HXP : Hid (Box w1 w.heap.size 27 #[.int .i64 x.epoch, .int .i64 x.next, .slice a1 x.conns.length c1, .slice a2 x.queue.length c2]) := by rw [← hw1]; exact (((Box.new w _ _).alloc _).alloc _).alloc _
  have HXR : Hid (Box w1 (w.heap.size + 1) 27 #[.int .i64 0, .int .i64 0, .slice none 0 0, .slice none 0 0]) := by
    have := ((Box.new (w.alloc (Obj.cells #[.int .i64 x.epoch, .int .i64 x.next, .slice a1 x.conns.length c1, .slice a2 x.queue.length c2] 27)) 27 #[.int .i64 0, .int .i64 0, .slice none 0 0, .slice none 0 0]).alloc (Obj.cells #[.int .i64 0, .string ⟨#[]⟩, .string ⟨#[]⟩, .string ⟨#[]⟩] 33)).alloc (Obj.cells #[] 48)
    rw [hw1, Deep.nblk_alloc] at this
    exact this
  have HXQ : Hid (Box w1 (w.heap.size + 1 + 1) 33 #[.int .i64 0, .string ⟨#[]⟩, .string ⟨#[]⟩, .string ⟨#[]⟩]) := by
    have := (Box.new ((w.alloc (Obj.cells #[.int .i64 x.epoch, .int .i64 x.next, .slice a1 x.conns.length c1, .slice a2 x.queue.length c2] 27)).alloc (Obj.cells #[.int .i64 0, .int .i64 0, .slice none 0 0, .slice none 0 0] 27)) 33 #[.int .i64 0, .string ⟨#[]⟩, .string ⟨#[]⟩, .string ⟨#[]⟩]).alloc (Obj.cells #[] 48)
    rw [hw1, Deep.nblk_alloc, Deep.nblk_alloc] at this
    exact this
  have HPL := hide (hp0.below HB1.out)
  have KS : Hid (∀ W, Below w1.heap.size w1 W → (W.cell? ⟨w.heap.size, 0, none⟩ = some (.int .i64 x.epoch) ∧ W.cell? ⟨w.heap.size, 1, none⟩ = some (.int .i64 x.next) ∧ W.cell? ⟨w.heap.size, 2, none⟩ = some (.slice a1 x.conns.length c1) ∧ W.cell? ⟨w.heap.size, 3, none⟩ = some (.slice a2 x.queue.length c2)) ∧ ((W.cell? ⟨w.heap.size + 1, 0, none⟩ = some (.int .i64 0) ∧ W.cell? ⟨w.heap.size + 1, 1, none⟩ = some (.int .i64 0) ∧ W.cell? ⟨w.heap.size + 1, 2, none⟩ = some (.slice none 0 0) ∧ W.cell? ⟨w.heap.size + 1, 3, none⟩ = some (.slice none 0 0)) ∧ W.frozen? ⟨w.heap.size + 1, 0, none⟩ = false ∧ W.frozen? ⟨w.heap.size + 1, 1, none⟩ = false ∧ W.frozen? ⟨w.heap.size + 1, 2, none⟩ = false ∧ W.frozen? ⟨w.heap.size + 1, 3, none⟩ = false) ∧ ((W.cell? ⟨w.heap.size + 1 + 1, 0, none⟩ = some (.int .i64 0) ∧ W.cell? ⟨w.heap.size + 1 + 1, 1, none⟩ = some (.string ⟨#[]⟩) ∧ W.cell? ⟨w.heap.size + 1 + 1, 2, none⟩ = some (.string ⟨#[]⟩) ∧ W.cell? ⟨w.heap.size + 1 + 1, 3, none⟩ = some (.string ⟨#[]⟩)) ∧ W.frozen? ⟨w.heap.size + 1 + 1, 0, none⟩ = false ∧ W.frozen? ⟨w.heap.size + 1 + 1, 1, none⟩ = false ∧ W.frozen? ⟨w.heap.size + 1 + 1, 2, none⟩ = false ∧ W.frozen? ⟨w.heap.size + 1 + 1, 3, none⟩ = false) ∧ w.heap.size + 1 + 1 < W.heap.size) := fun W hW => by
    have hq := HXQ.out.below hW
    exact ⟨(HXP.out.below hW).pool.1, (HXR.out.below hW).pool, ⟨⟨hq.cell 0 (by simp), hq.cell 1 (by simp), hq.cell 2 (by simp), hq.cell 3 (by simp)⟩, hq.frozen 0, hq.frozen 1, hq.frozen 2, hq.frozen 3⟩, hq.lt⟩
  have HB2lt := hide HXQ.out.lt
  have HBS : Hid (∀ b ∈ [w.heap.size + 1, w.heap.size + 1 + 1], w.heap.size ≤ b ∧ b < w1.heap.size) := fun b hb => by
    have := HB2lt.out
    simp at hb
    rcases hb with rfl | rfl <;> omega
  have H8 : Hid (∀ W x0 x1 x2 x3 y0 y1 y2 y3, Only [w.heap.size + 1, w.heap.size + 1 + 1] W ((((((((W.setCell ⟨w.heap.size + 1, 0, none⟩ x0).setCell ⟨w.heap.size + 1, 1, none⟩ x1).setCell ⟨w.heap.size + 1, 2, none⟩ x2).setCell ⟨w.heap.size + 1, 3, none⟩ x3).setCell ⟨w.heap.size + 1 + 1, 0, none⟩ y0).setCell ⟨w.heap.size + 1 + 1, 1, none⟩ y1).setCell ⟨w.heap.size + 1 + 1, 2, none⟩ y2).setCell ⟨w.heap.size + 1 + 1, 3, none⟩ y3)) := fun W x0 x1 x2 x3 y0 y1 y2 y3 => ((((((((Only.refl _ _).setCell (by simp) _).setCell (by simp) _).setCell (by simp) _).setCell (by simp) _).setCell (by simp) _).setCell (by simp) _).setCell (by simp) _).setCell (by simp) _
  have HPW : Hid (∀ W, Below w1.heap.size w1 W → PlAt 0 W x (.slice a1 x.conns.length c1) (.slice a2 x.queue.length c2)) := fun W hW => hp0.below (bjoin hW HB1.out)
  have HP0 := hide hp0
  clear hp0
  obtain ⟨⟨p0, p1, p2, p3⟩, ⟨⟨r0, r1, r2, r3⟩, f0, f1, f2, f3⟩, ⟨⟨u0, u1, u2, u3⟩, k0, k1, k2, k3⟩, hz9⟩ := KS.out w1 (Below.refl _ _)
  have HBAD : Hid (¬ (okPl x = true ∧ nowB now = true) → ∀ W, Below w1.heap.size w1 W → ∀ x0 x1 x2 x3 y0 y1 y2 y3, AnsSP x conn control tag now w (.returned (.tuple #[.agg #[.int .i64 0, .int .i64 0, .slice none 0 0, .slice none 0 0], .slice (some ⟨w.heap.size + 1 + 1 + 1, 0, none⟩) 0 0, .agg #[.int .i64 0, .string ⟨#[]⟩, .string ⟨#[]⟩, .string ⟨#[]⟩], .bool false])) ((((((((W.setCell ⟨w.heap.size + 1, 0, none⟩ x0).setCell ⟨w.heap.size + 1, 1, none⟩ x1).setCell ⟨w.heap.size + 1, 2, none⟩ x2).setCell ⟨w.heap.size + 1, 3, none⟩ x3).setCell ⟨w.heap.size + 1 + 1, 0, none⟩ y0).setCell ⟨w.heap.size + 1 + 1, 1, none⟩ y1).setCell ⟨w.heap.size + 1 + 1, 2, none⟩ y2).setCell ⟨w.heap.size + 1 + 1, 3, none⟩ y3)) := fun h W hW x0 x1 x2 x3 y0 y1 y2 y3 => by
    unfold AnsSP
    rw [ansP_bad h]
    have c1 := bjoin hW HB1.out
    exact ⟨_, _, _, rfl, PlAt.zero _ _ _ _ _ _ _ _, StsAt.zero _ _ _ _, c1.trans ((H8.out W _ _ _ _ _ _ _ _).below c1.size fun d hd => (HBS.out d hd).1)⟩
  by_cases hok : ¬ (okPl x = true ∧ nowB now = true)
  · have HG := hide (HBAD.out hok)
    cases h1 : okPl x with
    | false =>
      rw [h1] at HPO
      clear h1 hok
      go_enter Tryd.func11, Tryd.ntmps11
      go_wp2_with fail
      refine (HPO.out _ HPL.out).mono ?_
      rintro en W ⟨rfl, hbW⟩
      obtain ⟨⟨p0, p1, p2, p3⟩, ⟨⟨r0, r1, r2, r3⟩, f0, f1, f2, f3⟩, ⟨⟨u0, u1, u2, u3⟩, k0, k1, k2, k3⟩, hz9⟩ := KS.out W hbW
      have HBW := hide hbW
      clear hbW
      go_wp2_with fail
      exact bodyPost_ret (v := .tuple #[.agg #[.int .i64 0, .int .i64 0, .slice none 0 0, .slice none 0 0], .slice (some ⟨w.heap.size + 1 + 1 + 1, 0, none⟩) 0 0, .agg #[.int .i64 0, .string ⟨#[]⟩, .string ⟨#[]⟩, .string ⟨#[]⟩], .bool false]) (by simp [results, Tryd.results11, go_sem, r0, r1, r2, r3, u0, u1, u2, u3, hz9]) rfl (HG.out _ HBW.out _ _ _ _ _ _ _ _)
    | true =>
      have h3 : nowB now = false := by cases h : nowB now with | false => rfl | true => exact absurd ⟨h1, h⟩ hok
      rw [h1] at HPO
      rw [h3] at HNO
      clear h1 h3 hok
      go_enter Tryd.func11, Tryd.ntmps11
      go_wp2_with fail
      refine (HPO.out _ HPL.out).mono ?_
      rintro en W ⟨rfl, hbW⟩
      obtain ⟨⟨p0, p1, p2, p3⟩, ⟨⟨r0, r1, r2, r3⟩, f0, f1, f2, f3⟩, ⟨⟨u0, u1, u2, u3⟩, k0, k1, k2, k3⟩, hz9⟩ := KS.out W hbW
      have HBW := hide hbW
      clear hbW
      go_wp2_with fail
      refine (HNO.out _).mono ?_
      rintro en W3 ⟨rfl, hW3⟩
      rw [hW3]
      clear hW3 W3
      go_wp2_with fail
      exact bodyPost_ret (v := .tuple #[.agg #[.int .i64 0, .int .i64 0, .slice none 0 0, .slice none 0 0], .slice (some ⟨w.heap.size + 1 + 1 + 1, 0, none⟩) 0 0, .agg #[.int .i64 0, .string ⟨#[]⟩, .string ⟨#[]⟩, .string ⟨#[]⟩], .bool false]) (by simp [results, Tryd.results11, go_sem, r0, r1, r2, r3, u0, u1, u2, u3, hz9]) rfl (HG.out _ HBW.out _ _ _ _ _ _ _ _)
  have hok := Decidable.not_not.1 hok
  have h1 := hok.1
  have h3 := hok.2
  rw [h1] at HPO
  rw [h3] at HNO
  obtain ⟨g1, g2, g3, g4, g5, g6, g7⟩ := okPl_head_of h1
  obtain ⟨g8, g9⟩ := nowB_of h3
  have HCP := hide (fun W (h : PlAt 0 W x (.slice a1 x.conns.length c1) (.slice a2 x.queue.length c2)) => copy_any x _ _ W h (by omega) (by omega))
  unfold plV at HCP
  have HMISS : Hid (hitN x.conns conn control tag = none → ∀ W cv3 qv3 b1 b2 {lo2 : Nat}, PlO lo2 W x cv3 qv3 b1 b2 → w1.heap.size ≤ lo2 → Below w1.heap.size w1 W → ∀ x0 x1 x2 x3 y0 y1 y2 y3, AnsSP x conn control tag now w (.returned (.tuple #[.agg #[.int .i64 x.epoch, .int .i64 x.next, cv3, qv3], .slice (some ⟨w.heap.size + 1 + 1 + 1, 0, none⟩) 0 0, .agg #[.int .i64 0, .string ⟨#[]⟩, .string ⟨#[]⟩, .string ⟨#[]⟩], .bool false])) ((((((((W.setCell ⟨w.heap.size + 1, 0, none⟩ x0).setCell ⟨w.heap.size + 1, 1, none⟩ x1).setCell ⟨w.heap.size + 1, 2, none⟩ x2).setCell ⟨w.heap.size + 1, 3, none⟩ x3).setCell ⟨w.heap.size + 1 + 1, 0, none⟩ y0).setCell ⟨w.heap.size + 1 + 1, 1, none⟩ y1).setCell ⟨w.heap.size + 1 + 1, 2, none⟩ y2).setCell ⟨w.heap.size + 1 + 1, 3, none⟩ y3)) := fun h W cv3 qv3 b1 b2 lo2 hpo hlo hW x0 x1 x2 x3 y0 y1 y2 y3 => by
    unfold AnsSP
    rw [ansP_none hok h]
    have c1 := bjoin hW HB1.out
    have hO := H8.out W x0 x1 x2 x3 y0 y1 y2 y3
    have hk : PlO lo2 ((((((((W.setCell ⟨w.heap.size + 1, 0, none⟩ x0).setCell ⟨w.heap.size + 1, 1, none⟩ x1).setCell ⟨w.heap.size + 1, 2, none⟩ x2).setCell ⟨w.heap.size + 1, 3, none⟩ x3).setCell ⟨w.heap.size + 1 + 1, 0, none⟩ y0).setCell ⟨w.heap.size + 1 + 1, 1, none⟩ y1).setCell ⟨w.heap.size + 1 + 1, 2, none⟩ y2).setCell ⟨w.heap.size + 1 + 1, 3, none⟩ y3) x cv3 qv3 b1 b2 := ⟨RowC.kept hpo.1 hO.size fun d hd => hO.block d (RowC.lt hpo.1 d hd) fun h => by have := (HBS.out d h).2; have := hpo.2.2.2.1 d hd; omega, RowC.kept hpo.2.1 hO.size fun d hd => hO.block d (RowC.lt hpo.2.1 d hd) fun h => by have := (HBS.out d h).2; have := hpo.2.2.2.2.1 d hd; omega, hpo.2.2⟩
    exact ⟨_, _, _, rfl, ⟨At.mono mono_flat hk.at.1 (Nat.zero_le _), At.mono mono_flat hk.at.2 (Nat.zero_le _)⟩, StsAt.zero _ _ _ _, c1.trans (hO.below c1.size fun d hd => (HBS.out d hd).1)⟩
  have HOK := hide hok
  clear hok h1 h3
  by_cases hn0 : conn < 0
  · have HHIT : Hid (hitN x.conns conn control tag = none) := by
      show _ = _
      unfold hitN
      split
      · rw [if_neg (fun h => by omega)]
      · rfl
    go_enter Tryd.func11, Tryd.ntmps11
    go_wp2_with fail
    refine (HPO.out _ HPL.out).mono ?_
    rintro en W ⟨rfl, hbW⟩
    obtain ⟨⟨p0, p1, p2, p3⟩, _⟩ := KS.out W hbW
    have HBW := hide hbW
    clear hbW
    go_wp2_with fail
    refine (HNO.out _).mono ?_
    rintro en W3 ⟨rfl, hW3⟩
    rw [hW3]
    clear hW3 W3
    go_wp2_with fail
    refine (HCP.out _ (HPL.out.below HBW.out)).mono ?_
    rintro en W3 ⟨cv3, qv3, b1, b2, rfl, hpo, _, hb3⟩
    obtain ⟨⟨a3, c3, e3⟩, a4, c4, e4⟩ := hpo.at.form
    subst e3 e4
    obtain ⟨X3, hX3⟩ : ∃ X, W3.alloc (Obj.cells #[.int .i64 x.epoch, .int .i64 x.next, .slice a3 x.conns.length c3, .slice a4 x.queue.length c4] 27) = X := ⟨_, rfl⟩
    have hb3a : Below W3.heap.size W3 X3 := by rw [← hX3]; exact (Below.refl _ _).alloc (Nat.le_refl _) _
    have hXO : Box X3 W3.heap.size 27 #[.int .i64 x.epoch, .int .i64 x.next, .slice a3 x.conns.length c3, .slice a4 x.queue.length c4] := by rw [← hX3]; exact Box.new _ _ _
    have hB3 : Below w1.heap.size w1 X3 := bjoin (bjoin hb3a hb3) HBW.out
    obtain ⟨⟨o0, o1, o2, o3⟩, _⟩ := hXO.pool
    obtain ⟨⟨p0, p1, p2, p3⟩, ⟨⟨r0, r1, r2, r3⟩, f0, f1, f2, f3⟩, ⟨⟨u0, u1, u2, u3⟩, k0, k1, k2, k3⟩, hz9⟩ := KS.out X3 hB3
    have HM := hide (HMISS.out HHIT.out X3 _ _ b1 b2 (hpo.below hb3a) (by have := HBW.out.size; exact this) hB3)
    have HPOX := hide (hpo.below hb3a)
    have HXO := hide hXO
    have HB3 := hide hB3
    have HW3lt := hide hXO.lt
    have HRB := hide (fun d (hd : d ∈ b1) => (And.intro (hpo.2.2.2.1 d hd) (RowC.lt hpo.1 d hd)))
    clear hpo hb3 hb3a hXO hB3
    go_wp2_with fail
    exact bodyPost_ret (v := .tuple #[.agg #[.int .i64 x.epoch, .int .i64 x.next, .slice a3 x.conns.length c3, .slice a4 x.queue.length c4], .slice (some ⟨w.heap.size + 1 + 1 + 1, 0, none⟩) 0 0, .agg #[.int .i64 0, .string ⟨#[]⟩, .string ⟨#[]⟩, .string ⟨#[]⟩], .bool false]) (by simp [results, Tryd.results11, go_sem, r0, r1, r2, r3, u0, u1, u2, u3, hz9]) rfl (HM.out _ _ _ _ _ _ _ _)
  · obtain ⟨k, rfl⟩ : ∃ k : Nat, conn = (k : Int) := ⟨conn.toNat, by omega⟩
    by_cases hnl : x.conns.length ≤ k
    · have HHIT : Hid (hitN x.conns (k : Int) control tag = none) := by
        show _ = _
        unfold hitN
        rw [show ((k : Int)).toNat = k by omega, List.getElem?_eq_none hnl]
      have hnl2 : (x.conns.length : Int) ≤ (k : Int) := by omega
      go_enter Tryd.func11, Tryd.ntmps11
      go_wp2_with fail
      refine (HPO.out _ HPL.out).mono ?_
      rintro en W ⟨rfl, hbW⟩
      obtain ⟨⟨p0, p1, p2, p3⟩, _⟩ := KS.out W hbW
      have HBW := hide hbW
      clear hbW
      go_wp2_with fail
      refine (HNO.out _).mono ?_
      rintro en W3 ⟨rfl, hW3⟩
      rw [hW3]
      clear hW3 W3
      go_wp2_with fail
      refine (HCP.out _ (HPL.out.below HBW.out)).mono ?_
      rintro en W3 ⟨cv3, qv3, b1, b2, rfl, hpo, _, hb3⟩
      obtain ⟨⟨a3, c3, e3⟩, a4, c4, e4⟩ := hpo.at.form
      subst e3 e4
      obtain ⟨X3, hX3⟩ : ∃ X, W3.alloc (Obj.cells #[.int .i64 x.epoch, .int .i64 x.next, .slice a3 x.conns.length c3, .slice a4 x.queue.length c4] 27) = X := ⟨_, rfl⟩
      have hb3a : Below W3.heap.size W3 X3 := by rw [← hX3]; exact (Below.refl _ _).alloc (Nat.le_refl _) _
      have hXO : Box X3 W3.heap.size 27 #[.int .i64 x.epoch, .int .i64 x.next, .slice a3 x.conns.length c3, .slice a4 x.queue.length c4] := by rw [← hX3]; exact Box.new _ _ _
      have hB3 : Below w1.heap.size w1 X3 := bjoin (bjoin hb3a hb3) HBW.out
      obtain ⟨⟨o0, o1, o2, o3⟩, _⟩ := hXO.pool
      obtain ⟨⟨p0, p1, p2, p3⟩, ⟨⟨r0, r1, r2, r3⟩, f0, f1, f2, f3⟩, ⟨⟨u0, u1, u2, u3⟩, k0, k1, k2, k3⟩, hz9⟩ := KS.out X3 hB3
      have HM := hide (HMISS.out HHIT.out X3 _ _ b1 b2 (hpo.below hb3a) (by have := HBW.out.size; exact this) hB3)
      have HPOX := hide (hpo.below hb3a)
      have HXO := hide hXO
      have HB3 := hide hB3
      have HW3lt := hide hXO.lt
      have HRB := hide (fun d (hd : d ∈ b1) => (And.intro (hpo.2.2.2.1 d hd) (RowC.lt hpo.1 d hd)))
      clear hpo hb3 hb3a hXO hB3
      go_wp2_with fail
      exact bodyPost_ret (v := .tuple #[.agg #[.int .i64 x.epoch, .int .i64 x.next, .slice a3 x.conns.length c3, .slice a4 x.queue.length c4], .slice (some ⟨w.heap.size + 1 + 1 + 1, 0, none⟩) 0 0, .agg #[.int .i64 0, .string ⟨#[]⟩, .string ⟨#[]⟩, .string ⟨#[]⟩], .bool false]) (by simp [results, Tryd.results11, go_sem, r0, r1, r2, r3, u0, u1, u2, u3, hz9]) rfl (HM.out _ _ _ _ _ _ _ _)
    · have hk : k < x.conns.length := by omega
      have hki : ¬ (x.conns.length : Int) ≤ (k : Int) := by omega
      have hi : (k : Int) < (x.conns.length : Int) := by omega
      obtain ⟨c, hc⟩ : ∃ c, x.conns[k] = c := ⟨_, rfl⟩
      have hA : At 7 (FR cnC cnZ) 0 w (.slice a1 x.conns.length c1) x.conns := HP0.out.1
      obtain ⟨b, off, rfl, hbl, hel, hz⟩ := at_place hA hk
      rw [hc] at hel hz
      obtain ⟨P, hP⟩ : ∃ P, off + k * 7 = P := ⟨_, rfl⟩
      rw [hP] at hel
      have HEL : Hid (∀ W, Below w1.heap.size w1 W → (W.cell? ⟨b, P, none⟩ = some (.bool c.busy) ∧ W.cell? ⟨b, P + 1, none⟩ = some (.string c.control) ∧ W.cell? ⟨b, P + 2, none⟩ = some (.int .i64 c.want.client) ∧ W.cell? ⟨b, P + 3, none⟩ = some (.string c.want.tag) ∧ W.cell? ⟨b, P + 4, none⟩ = some (.string c.want.query) ∧ W.cell? ⟨b, P + 5, none⟩ = some (.string c.want.pointer))) := fun W hW => by
        have hX := bjoin hW HB1.out
        exact ⟨(hX.cell (p := ⟨b, P, none⟩) hbl).trans (hel 0 (by simp [cnC])), (hX.cell (p := ⟨b, P + 1, none⟩) hbl).trans (hel 1 (by simp [cnC])), (hX.cell (p := ⟨b, P + 2, none⟩) hbl).trans (hel 2 (by simp [cnC])), (hX.cell (p := ⟨b, P + 3, none⟩) hbl).trans (hel 3 (by simp [cnC])), (hX.cell (p := ⟨b, P + 4, none⟩) hbl).trans (hel 4 (by simp [cnC])), (hX.cell (p := ⟨b, P + 5, none⟩) hbl).trans (hel 5 (by simp [cnC]))⟩
      have HBLT := hide hbl
      clear hel hz hA
      have hnone : ∀ P : Prop, P → (¬ (c.busy = true ∧ control = c.control ∧ c.want.tag = tag)) → hitN x.conns (k : Int) control tag = none := fun _ _ h => by
        unfold hitN
        rw [show ((k : Int)).toNat = k by omega, List.getElem?_eq_getElem hk]
        simp only
        rw [hc, if_neg (fun h2 => h h2.2)]
      cases hbz : c.busy with
      | false =>
        have HHIT : Hid (hitN x.conns (k : Int) control tag = none) := hnone True trivial (fun h => by rw [hbz] at h; cases h.1)
        clear hnone hc hnl
        go_enter Tryd.func11, Tryd.ntmps11
        go_wp2_with fail
        refine (HPO.out _ HPL.out).mono ?_
        rintro en W ⟨rfl, hbW⟩
        obtain ⟨⟨p0, p1, p2, p3⟩, _⟩ := KS.out W hbW
        have HBW := hide hbW
        clear hbW
        go_wp2_with fail
        refine (HNO.out _).mono ?_
        rintro en W3 ⟨rfl, hW3⟩
        rw [hW3]
        clear hW3 W3
        go_wp2_with fail
        refine (HCP.out _ (HPL.out.below HBW.out)).mono ?_
        rintro en W3 ⟨cv3, qv3, b1, b2, rfl, hpo, _, hb3⟩
        obtain ⟨⟨a3, c3, e3⟩, a4, c4, e4⟩ := hpo.at.form
        subst e3 e4
        obtain ⟨X3, hX3⟩ : ∃ X, W3.alloc (Obj.cells #[.int .i64 x.epoch, .int .i64 x.next, .slice a3 x.conns.length c3, .slice a4 x.queue.length c4] 27) = X := ⟨_, rfl⟩
        have hb3a : Below W3.heap.size W3 X3 := by rw [← hX3]; exact (Below.refl _ _).alloc (Nat.le_refl _) _
        have hXO : Box X3 W3.heap.size 27 #[.int .i64 x.epoch, .int .i64 x.next, .slice a3 x.conns.length c3, .slice a4 x.queue.length c4] := by rw [← hX3]; exact Box.new _ _ _
        have hB3 : Below w1.heap.size w1 X3 := bjoin (bjoin hb3a hb3) HBW.out
        obtain ⟨⟨o0, o1, o2, o3⟩, _⟩ := hXO.pool
        obtain ⟨⟨p0, p1, p2, p3⟩, ⟨⟨r0, r1, r2, r3⟩, f0, f1, f2, f3⟩, ⟨⟨u0, u1, u2, u3⟩, k0, k1, k2, k3⟩, hz9⟩ := KS.out X3 hB3
        have HM := hide (HMISS.out HHIT.out X3 _ _ b1 b2 (hpo.below hb3a) (by have := HBW.out.size; exact this) hB3)
        have HPOX := hide (hpo.below hb3a)
        have HXO := hide hXO
        have HB3 := hide hB3
        have HW3lt := hide hXO.lt
        have HRB := hide (fun d (hd : d ∈ b1) => (And.intro (hpo.2.2.2.1 d hd) (RowC.lt hpo.1 d hd)))
        clear hpo hb3 hb3a hXO hB3
        obtain ⟨e0, e1, e2, e3, e4, e5⟩ := HEL.out X3 HB3.out
        rw [hbz] at e0
        clear hbz
        go_wp2_with fail
        exact bodyPost_ret (v := .tuple #[.agg #[.int .i64 x.epoch, .int .i64 x.next, .slice a3 x.conns.length c3, .slice a4 x.queue.length c4], .slice (some ⟨w.heap.size + 1 + 1 + 1, 0, none⟩) 0 0, .agg #[.int .i64 0, .string ⟨#[]⟩, .string ⟨#[]⟩, .string ⟨#[]⟩], .bool false]) (by simp [results, Tryd.results11, go_sem, r0, r1, r2, r3, u0, u1, u2, u3, hz9]) rfl (HM.out _ _ _ _ _ _ _ _)
      | true =>
        by_cases hcc : c.control = control
        · by_cases htt : c.want.tag = tag
          · have HAP : Hid (ansP x (k : Int) control tag now = ((serveA now ⟨x.epoch, x.next, x.conns.set k cn0, x.queue⟩).1, (serveA now ⟨x.epoch, x.next, x.conns.set k cn0, x.queue⟩).2, c.want, true)) := by
              have e3 : (x.conns.getD k cn0) = c := by rw [List.getD_eq_getElem?_getD, List.getElem?_eq_getElem hk]; exact hc
              rw [ansP_some HOK.out (hitN_yes hk rfl (by rw [hc]; exact hbz) (by rw [hc]; exact hcc.symm) (by rw [hc]; exact htt)), e3]
              exact rfl
            have HSV := hide (fun W cv qv (h : PlAt 0 W ⟨x.epoch, x.next, x.conns.set k cn0, x.queue⟩ cv qv) => serveS_any ⟨x.epoch, x.next, x.conns.set k cn0, x.queue⟩ cv qv now W h g1 g2 g3 g4 (by simp only [List.length_set]; omega) (by simp only; omega) g8 g9)
            unfold plV at HSV
            have e9 : serve x.queue.length now ⟨x.epoch, x.next, x.conns.set k cn0, x.queue⟩ = serveA now ⟨x.epoch, x.next, x.conns.set k cn0, x.queue⟩ := rfl
            simp only [e9] at HSV
            have hmem := serve_mem x.queue.length now ⟨x.epoch, x.next, x.conns.set k cn0, x.queue⟩
            rw [e9] at hmem
            generalize serveA now ⟨x.epoch, x.next, x.conns.set k cn0, x.queue⟩ = R at HSV HAP hmem
            have HTQ : Hid (∀ q ∈ R.1.queue, q.tag ≠ ⟨#[]⟩) := fun q hq => okWn_tag (okPl_wants HOK.out.1 q (hmem.1 q hq))
            have HTS : Hid (∀ t ∈ R.2, t.control ≠ ⟨#[]⟩) := fun t ht => by obtain ⟨e, n, h⟩ := hmem.2 t ht; rw [h]; exact ctl_ne e n
            have HKK := hide hk
            clear hnone hc hnl e9 hmem
            go_enter Tryd.func11, Tryd.ntmps11
            go_wp2_with fail
            refine (HPO.out _ HPL.out).mono ?_
            rintro en W ⟨rfl, hbW⟩
            obtain ⟨⟨p0, p1, p2, p3⟩, _⟩ := KS.out W hbW
            have HBW := hide hbW
            clear hbW
            go_wp2_with fail
            refine (HNO.out _).mono ?_
            rintro en W3 ⟨rfl, hW3⟩
            rw [hW3]
            clear hW3 W3
            go_wp2_with fail
            refine (HCP.out _ (HPL.out.below HBW.out)).mono ?_
            rintro en W3 ⟨cv3, qv3, b1, b2, rfl, hpo, _, hb3⟩
            obtain ⟨⟨a3, c3, e3⟩, a4, c4, e4⟩ := hpo.at.form
            subst e3 e4
            obtain ⟨X3, hX3⟩ : ∃ X, W3.alloc (Obj.cells #[.int .i64 x.epoch, .int .i64 x.next, .slice a3 x.conns.length c3, .slice a4 x.queue.length c4] 27) = X := ⟨_, rfl⟩
            have hb3a : Below W3.heap.size W3 X3 := by rw [← hX3]; exact (Below.refl _ _).alloc (Nat.le_refl _) _
            have hXO : Box X3 W3.heap.size 27 #[.int .i64 x.epoch, .int .i64 x.next, .slice a3 x.conns.length c3, .slice a4 x.queue.length c4] := by rw [← hX3]; exact Box.new _ _ _
            have hB3 : Below w1.heap.size w1 X3 := bjoin (bjoin hb3a hb3) HBW.out
            obtain ⟨⟨o0, o1, o2, o3⟩, _⟩ := hXO.pool
            obtain ⟨⟨p0, p1, p2, p3⟩, ⟨⟨r0, r1, r2, r3⟩, f0, f1, f2, f3⟩, ⟨⟨u0, u1, u2, u3⟩, k0, k1, k2, k3⟩, hz9⟩ := KS.out X3 hB3
            have HPOX := hide (hpo.below hb3a)
            have HXO := hide hXO
            have HB3 := hide hB3
            have HW3lt := hide hXO.lt
            have HRB := hide (fun d (hd : d ∈ b1) => (And.intro (hpo.2.2.2.1 d hd) (RowC.lt hpo.1 d hd)))
            clear hpo hb3 hb3a hXO hB3
            obtain ⟨e0, e1, e2, e3, e4, e5⟩ := HEL.out X3 HB3.out
            rw [hbz] at e0
            clear hbz
            subst hcc htt
            have hFC := HPOX.out.1
            obtain ⟨b3, off3, rfl, hbl3, _, _⟩ := at_place (FO.at cnC_len hFC HPOX.out.2.2.2.2.2.1 (fun _ _ => Nat.zero_le _) (lo := 0)) HKK.out
            obtain ⟨P3, hP3⟩ : ∃ P3, off3 + k * 7 = P3 := ⟨_, rfl⟩
            have hb1 : b1 = [b3] := by
              obtain ⟨_, ⟨a, cap, e, hn, _⟩ | ⟨b', off', cap', e, hlt', rfl, hcc⟩⟩ := hFC
              · have := HKK.out; omega
              · injection e with e1 _ _
                injection e1 with e1
                injection e1 with e1 _ _
                rw [e1]
            have hb3B := HRB.out b3 (by rw [hb1]; simp)
            have hA5 : ∀ j, j < 7 → ∃ u, X3.cell? ⟨b3, P3 + j, none⟩ = some u ∧ X3.frozen? ⟨b3, P3 + j, none⟩ = false := fun j hj => by
              obtain ⟨_, ⟨a, cap, e, hn, _⟩ | ⟨b', off', cap', e, hlt', _, hcc⟩⟩ := hFC
              · have := HKK.out; omega
              · injection e with e1 _ _
                injection e1 with e1
                injection e1 with e1 e2 _
                subst e1 e2
                have := hcc (k * 7 + j) (by have := HKK.out; omega)
                rw [← Nat.add_assoc, hP3] at this
                exact ⟨_, this⟩
            obtain ⟨v0, n0, z0⟩ := hA5 0 (by omega)
            obtain ⟨v1, n1, z1⟩ := hA5 1 (by omega)
            obtain ⟨v2, n2, z2⟩ := hA5 2 (by omega)
            obtain ⟨v3, n3, z3⟩ := hA5 3 (by omega)
            obtain ⟨v4, n4, z4⟩ := hA5 4 (by omega)
            obtain ⟨v5, n5, z5⟩ := hA5 5 (by omega)
            obtain ⟨v6, n6, z6⟩ := hA5 6 (by omega)
            have n0' : X3.cell? ⟨b3, P3, none⟩ = some v0 := n0
            have z0' : X3.frozen? ⟨b3, P3, none⟩ = false := z0
            obtain ⟨Y, hY⟩ : ∃ Y, (((((((X3.setCell ⟨b3, P3, none⟩ (.bool false)).setCell ⟨b3, P3 + 1, none⟩ (.string ⟨#[]⟩)).setCell ⟨b3, P3 + 2, none⟩ (.int .i64 0)).setCell ⟨b3, P3 + 3, none⟩ (.string ⟨#[]⟩)).setCell ⟨b3, P3 + 4, none⟩ (.string ⟨#[]⟩)).setCell ⟨b3, P3 + 5, none⟩ (.string ⟨#[]⟩)).setCell ⟨b3, P3 + 6, none⟩ (.int .i64 0)) = Y := ⟨_, rfl⟩
            have oY : Only [b3] X3 Y := by rw [← hY]; exact (((((((Only.refl _ _).setCell (by simp) _).setCell (by simp) _).setCell (by simp) _).setCell (by simp) _).setCell (by simp) _).setCell (by simp) _).setCell (by simp) _
            have h7 := FO.set7 hFC HKK.out cn0 hP3
            rw [List.length_set] at h7
            have hFCY : FO cnC 7 Y (.slice (some ⟨b3, off3, none⟩) x.conns.length c3) (x.conns.set k cn0) b1 := by rw [← hY]; exact h7
            have hFQY : FO wnC 4 Y (.slice a4 x.queue.length c4) x.queue b2 := RowC.kept HPOX.out.2.1 oY.size fun d hd => oY.block d (RowC.lt HPOX.out.2.1 d hd) (by simp; exact fun e => HPOX.out.2.2.1 b3 (by rw [hb1]; simp) (e ▸ hd))
            have HPLY : Hid (PlAt 0 Y ⟨x.epoch, x.next, x.conns.set k cn0, x.queue⟩ (.slice (some ⟨b3, off3, none⟩) x.conns.length c3) (.slice a4 x.queue.length c4)) := ⟨FO.at cnC_len hFCY (mem_all fun d hd => by
              rcases List.mem_or_eq_of_mem_set hd with h | h
              · exact all_mem HPOX.out.2.2.2.2.2.1 d h
              · rw [h]; exact cn0Z) (fun _ _ => Nat.zero_le _), FO.at wnC_len hFQY HPOX.out.2.2.2.2.2.2 (fun _ _ => Nat.zero_le _)⟩
            have hXOY : Box Y W3.heap.size 27 #[.int .i64 x.epoch, .int .i64 x.next, .slice (some ⟨b3, off3, none⟩) x.conns.length c3, .slice a4 x.queue.length c4] := HXO.out.only oY (by simp; have := hb3B.2; omega)
            have HBY : Hid (Below w1.heap.size w1 Y) := HB3.out.trans (oY.below HB3.out.size fun d hd => by simp at hd; have := hb3B.1; have := HBW.out.size; omega)
            obtain ⟨⟨y0, y1, y2, y3⟩, _⟩ := hXOY.pool
            clear n0 z0 hA5 hFC hbl3 oY h7 hFCY hFQY hXOY hb1
            go_wp2_with fail
            try rw [hY]
            clear hY
            refine (HSV.out _ _ _ HPLY.out).mono ?_
            rintro en W6 ⟨cv6, qv6, sv6, rfl, hp6, hs6, hb6⟩
            obtain ⟨⟨a6, c6, e6⟩, a7, c7, e7⟩ := hp6.form
            subst e6 e7
            obtain ⟨a8, c8, e8, _⟩ := hs6.form
            subst e8
            obtain ⟨X6, hX6⟩ : ∃ X, W6.alloc (Obj.cells #[.int .i64 R.1.epoch, .int .i64 R.1.next, .slice a6 R.1.conns.length c6, .slice a7 R.1.queue.length c7] 27) = X := ⟨_, rfl⟩
            obtain ⟨B6, hB6⟩ : ∃ B6, W6.heap.size = B6 := ⟨_, rfl⟩
            have hb6a : Below W6.heap.size W6 X6 := by rw [← hX6]; exact (Below.refl _ _).alloc (Nat.le_refl _) _
            have hXO6 : Box X6 B6 27 #[.int .i64 R.1.epoch, .int .i64 R.1.next, .slice a6 R.1.conns.length c6, .slice a7 R.1.queue.length c7] := by rw [← hX6, ← hB6]; exact Box.new _ _ _
            have HB6x := hide (bj3 (bjoin hb6a hb6) HBY.out (Nat.le_refl _))
            obtain ⟨D6, hwd6⟩ : ∃ D6, X6.drew = D6 := ⟨_, rfl⟩
            have hD0 : Below X6.heap.size X6 X6.drew := (Below.refl _ _).drew
            have hD1 : Below X6.heap.size X6 D6 := by rw [← hwd6]; exact hD0
            have HXO6 := hide hXO6
            have HBD := hide (bj3 hD1 HB6x.out (Nat.le_refl _))
            have HPD := hide ((hp6.below hb6a).below hD1)
            have HSD : Hid (StsAt 0 D6 (.slice a8 R.2.length c8) R.2) := At.kept kept_flat (At.kept kept_flat hs6 hb6a) hD1
            have KS6 : Hid (∀ X, Below X6.heap.size X6 X → (X.cell? ⟨B6, 0, none⟩ = some (.int .i64 R.1.epoch) ∧ X.cell? ⟨B6, 1, none⟩ = some (.int .i64 R.1.next) ∧ X.cell? ⟨B6, 2, none⟩ = some (.slice a6 R.1.conns.length c6) ∧ X.cell? ⟨B6, 3, none⟩ = some (.slice a7 R.1.queue.length c7)) ∧ X.cell? ⟨w.heap.size, 2, none⟩ = some (.slice (some ⟨b, off, none⟩) x.conns.length c1) ∧ (X.cell? ⟨b, P + 2, none⟩ = some (.int .i64 c.want.client) ∧ X.cell? ⟨b, P + 3, none⟩ = some (.string c.want.tag) ∧ X.cell? ⟨b, P + 4, none⟩ = some (.string c.want.query) ∧ X.cell? ⟨b, P + 5, none⟩ = some (.string c.want.pointer))) := fun X hX => by
              obtain ⟨⟨_, _, q2, _⟩, _⟩ := KS.out X (bj3 hX HB6x.out (Nat.le_refl _))
              obtain ⟨_, _, w2, w3, w4, w5⟩ := HEL.out X (bj3 hX HB6x.out (Nat.le_refl _))
              exact ⟨(HXO6.out.below hX).pool.1, q2, w2, w3, w4, w5⟩
            have hB6lo : w1.heap.size ≤ B6 := by rw [← hB6]; exact (bj3 hb6 HBY.out (Nat.le_refl _)).size
            have KS7 : Hid (∀ Y, Only [w.heap.size + 1, w.heap.size + 1 + 1] D6 Y → (Y.cell? ⟨B6, 0, none⟩ = some (.int .i64 R.1.epoch) ∧ Y.cell? ⟨B6, 1, none⟩ = some (.int .i64 R.1.next) ∧ Y.cell? ⟨B6, 2, none⟩ = some (.slice a6 R.1.conns.length c6) ∧ Y.cell? ⟨B6, 3, none⟩ = some (.slice a7 R.1.queue.length c7)) ∧ Y.cell? ⟨w.heap.size, 2, none⟩ = some (.slice (some ⟨b, off, none⟩) x.conns.length c1) ∧ (Y.cell? ⟨b, P + 2, none⟩ = some (.int .i64 c.want.client) ∧ Y.cell? ⟨b, P + 3, none⟩ = some (.string c.want.tag) ∧ Y.cell? ⟨b, P + 4, none⟩ = some (.string c.want.query) ∧ Y.cell? ⟨b, P + 5, none⟩ = some (.string c.want.pointer))) := fun Y hO => by
              have hlt := HB2lt.out
              have e1 : Y.heap[B6]? = D6.heap[B6]? := hO.block B6 (HXO6.out.below hD1).lt (by simp; omega)
              have e2 : Y.heap[w.heap.size]? = D6.heap[w.heap.size]? := hO.block w.heap.size (by have := HBD.out.size; omega) (fun h => by simp at h; omega)
              have e3 : Y.heap[b]? = D6.heap[b]? := hO.block b (by have := HBD.out.size; have := HBLT.out; omega) (by have := HBLT.out; simp; omega)
              obtain ⟨⟨s0, s1, s2, s3⟩, s4, s5, s6, s7, s8⟩ := KS6.out D6 hD1
              exact ⟨⟨(cellSame e1).trans s0, (cellSame e1).trans s1, (cellSame e1).trans s2, (cellSame e1).trans s3⟩, (cellSame e2).trans s4, (cellSame e3).trans s5, (cellSame e3).trans s6, (cellSame e3).trans s7, (cellSame e3).trans s8⟩
            have hS10 : ∀ x0 x1 x2 x3, (((((D6.setCell ⟨w.heap.size + 1, 0, none⟩ x0).setCell ⟨w.heap.size + 1, 1, none⟩ x1).setCell ⟨w.heap.size + 1, 2, none⟩ x2).setCell ⟨w.heap.size + 1, 3, none⟩ x3).cell? ⟨B6, 0, none⟩ = some (.int .i64 R.1.epoch) ∧ ((((D6.setCell ⟨w.heap.size + 1, 0, none⟩ x0).setCell ⟨w.heap.size + 1, 1, none⟩ x1).setCell ⟨w.heap.size + 1, 2, none⟩ x2).setCell ⟨w.heap.size + 1, 3, none⟩ x3).cell? ⟨B6, 1, none⟩ = some (.int .i64 R.1.next) ∧ ((((D6.setCell ⟨w.heap.size + 1, 0, none⟩ x0).setCell ⟨w.heap.size + 1, 1, none⟩ x1).setCell ⟨w.heap.size + 1, 2, none⟩ x2).setCell ⟨w.heap.size + 1, 3, none⟩ x3).cell? ⟨B6, 2, none⟩ = some (.slice a6 R.1.conns.length c6) ∧ ((((D6.setCell ⟨w.heap.size + 1, 0, none⟩ x0).setCell ⟨w.heap.size + 1, 1, none⟩ x1).setCell ⟨w.heap.size + 1, 2, none⟩ x2).setCell ⟨w.heap.size + 1, 3, none⟩ x3).cell? ⟨B6, 3, none⟩ = some (.slice a7 R.1.queue.length c7)) ∧ ((((D6.setCell ⟨w.heap.size + 1, 0, none⟩ x0).setCell ⟨w.heap.size + 1, 1, none⟩ x1).setCell ⟨w.heap.size + 1, 2, none⟩ x2).setCell ⟨w.heap.size + 1, 3, none⟩ x3).cell? ⟨w.heap.size, 2, none⟩ = some (.slice (some ⟨b, off, none⟩) x.conns.length c1) ∧ (((((D6.setCell ⟨w.heap.size + 1, 0, none⟩ x0).setCell ⟨w.heap.size + 1, 1, none⟩ x1).setCell ⟨w.heap.size + 1, 2, none⟩ x2).setCell ⟨w.heap.size + 1, 3, none⟩ x3).cell? ⟨b, P + 2, none⟩ = some (.int .i64 c.want.client) ∧ ((((D6.setCell ⟨w.heap.size + 1, 0, none⟩ x0).setCell ⟨w.heap.size + 1, 1, none⟩ x1).setCell ⟨w.heap.size + 1, 2, none⟩ x2).setCell ⟨w.heap.size + 1, 3, none⟩ x3).cell? ⟨b, P + 3, none⟩ = some (.string c.want.tag) ∧ ((((D6.setCell ⟨w.heap.size + 1, 0, none⟩ x0).setCell ⟨w.heap.size + 1, 1, none⟩ x1).setCell ⟨w.heap.size + 1, 2, none⟩ x2).setCell ⟨w.heap.size + 1, 3, none⟩ x3).cell? ⟨b, P + 4, none⟩ = some (.string c.want.query) ∧ ((((D6.setCell ⟨w.heap.size + 1, 0, none⟩ x0).setCell ⟨w.heap.size + 1, 1, none⟩ x1).setCell ⟨w.heap.size + 1, 2, none⟩ x2).setCell ⟨w.heap.size + 1, 3, none⟩ x3).cell? ⟨b, P + 5, none⟩ = some (.string c.want.pointer)) := fun x0 x1 x2 x3 => KS7.out _ (((((Only.refl _ _).setCell (by simp) _).setCell (by simp) _).setCell (by simp) _).setCell (by simp) _)
            have hS11 : ∀ x0 x1 x2 x3 y0 y1 y2 y3, (((((((((D6.setCell ⟨w.heap.size + 1, 0, none⟩ x0).setCell ⟨w.heap.size + 1, 1, none⟩ x1).setCell ⟨w.heap.size + 1, 2, none⟩ x2).setCell ⟨w.heap.size + 1, 3, none⟩ x3).setCell ⟨w.heap.size + 1 + 1, 0, none⟩ y0).setCell ⟨w.heap.size + 1 + 1, 1, none⟩ y1).setCell ⟨w.heap.size + 1 + 1, 2, none⟩ y2).setCell ⟨w.heap.size + 1 + 1, 3, none⟩ y3).cell? ⟨B6, 0, none⟩ = some (.int .i64 R.1.epoch) ∧ ((((((((D6.setCell ⟨w.heap.size + 1, 0, none⟩ x0).setCell ⟨w.heap.size + 1, 1, none⟩ x1).setCell ⟨w.heap.size + 1, 2, none⟩ x2).setCell ⟨w.heap.size + 1, 3, none⟩ x3).setCell ⟨w.heap.size + 1 + 1, 0, none⟩ y0).setCell ⟨w.heap.size + 1 + 1, 1, none⟩ y1).setCell ⟨w.heap.size + 1 + 1, 2, none⟩ y2).setCell ⟨w.heap.size + 1 + 1, 3, none⟩ y3).cell? ⟨B6, 1, none⟩ = some (.int .i64 R.1.next) ∧ ((((((((D6.setCell ⟨w.heap.size + 1, 0, none⟩ x0).setCell ⟨w.heap.size + 1, 1, none⟩ x1).setCell ⟨w.heap.size + 1, 2, none⟩ x2).setCell ⟨w.heap.size + 1, 3, none⟩ x3).setCell ⟨w.heap.size + 1 + 1, 0, none⟩ y0).setCell ⟨w.heap.size + 1 + 1, 1, none⟩ y1).setCell ⟨w.heap.size + 1 + 1, 2, none⟩ y2).setCell ⟨w.heap.size + 1 + 1, 3, none⟩ y3).cell? ⟨B6, 2, none⟩ = some (.slice a6 R.1.conns.length c6) ∧ ((((((((D6.setCell ⟨w.heap.size + 1, 0, none⟩ x0).setCell ⟨w.heap.size + 1, 1, none⟩ x1).setCell ⟨w.heap.size + 1, 2, none⟩ x2).setCell ⟨w.heap.size + 1, 3, none⟩ x3).setCell ⟨w.heap.size + 1 + 1, 0, none⟩ y0).setCell ⟨w.heap.size + 1 + 1, 1, none⟩ y1).setCell ⟨w.heap.size + 1 + 1, 2, none⟩ y2).setCell ⟨w.heap.size + 1 + 1, 3, none⟩ y3).cell? ⟨B6, 3, none⟩ = some (.slice a7 R.1.queue.length c7)) ∧ ((((((((D6.setCell ⟨w.heap.size + 1, 0, none⟩ x0).setCell ⟨w.heap.size + 1, 1, none⟩ x1).setCell ⟨w.heap.size + 1, 2, none⟩ x2).setCell ⟨w.heap.size + 1, 3, none⟩ x3).setCell ⟨w.heap.size + 1 + 1, 0, none⟩ y0).setCell ⟨w.heap.size + 1 + 1, 1, none⟩ y1).setCell ⟨w.heap.size + 1 + 1, 2, none⟩ y2).setCell ⟨w.heap.size + 1 + 1, 3, none⟩ y3).cell? ⟨w.heap.size, 2, none⟩ = some (.slice (some ⟨b, off, none⟩) x.conns.length c1) ∧ (((((((((D6.setCell ⟨w.heap.size + 1, 0, none⟩ x0).setCell ⟨w.heap.size + 1, 1, none⟩ x1).setCell ⟨w.heap.size + 1, 2, none⟩ x2).setCell ⟨w.heap.size + 1, 3, none⟩ x3).setCell ⟨w.heap.size + 1 + 1, 0, none⟩ y0).setCell ⟨w.heap.size + 1 + 1, 1, none⟩ y1).setCell ⟨w.heap.size + 1 + 1, 2, none⟩ y2).setCell ⟨w.heap.size + 1 + 1, 3, none⟩ y3).cell? ⟨b, P + 2, none⟩ = some (.int .i64 c.want.client) ∧ ((((((((D6.setCell ⟨w.heap.size + 1, 0, none⟩ x0).setCell ⟨w.heap.size + 1, 1, none⟩ x1).setCell ⟨w.heap.size + 1, 2, none⟩ x2).setCell ⟨w.heap.size + 1, 3, none⟩ x3).setCell ⟨w.heap.size + 1 + 1, 0, none⟩ y0).setCell ⟨w.heap.size + 1 + 1, 1, none⟩ y1).setCell ⟨w.heap.size + 1 + 1, 2, none⟩ y2).setCell ⟨w.heap.size + 1 + 1, 3, none⟩ y3).cell? ⟨b, P + 3, none⟩ = some (.string c.want.tag) ∧ ((((((((D6.setCell ⟨w.heap.size + 1, 0, none⟩ x0).setCell ⟨w.heap.size + 1, 1, none⟩ x1).setCell ⟨w.heap.size + 1, 2, none⟩ x2).setCell ⟨w.heap.size + 1, 3, none⟩ x3).setCell ⟨w.heap.size + 1 + 1, 0, none⟩ y0).setCell ⟨w.heap.size + 1 + 1, 1, none⟩ y1).setCell ⟨w.heap.size + 1 + 1, 2, none⟩ y2).setCell ⟨w.heap.size + 1 + 1, 3, none⟩ y3).cell? ⟨b, P + 4, none⟩ = some (.string c.want.query) ∧ ((((((((D6.setCell ⟨w.heap.size + 1, 0, none⟩ x0).setCell ⟨w.heap.size + 1, 1, none⟩ x1).setCell ⟨w.heap.size + 1, 2, none⟩ x2).setCell ⟨w.heap.size + 1, 3, none⟩ x3).setCell ⟨w.heap.size + 1 + 1, 0, none⟩ y0).setCell ⟨w.heap.size + 1 + 1, 1, none⟩ y1).setCell ⟨w.heap.size + 1 + 1, 2, none⟩ y2).setCell ⟨w.heap.size + 1 + 1, 3, none⟩ y3).cell? ⟨b, P + 5, none⟩ = some (.string c.want.pointer)) := fun x0 x1 x2 x3 y0 y1 y2 y3 => KS7.out _ (H8.out _ _ _ _ _ _ _ _ _)
            obtain ⟨⟨p0, p1, p2, p3⟩, ⟨⟨r0, r1, r2, r3⟩, f0, f1, f2, f3⟩, ⟨⟨u0, u1, u2, u3⟩, k0, k1, k2, k3⟩, hz9⟩ := KS.out D6 HBD.out
            have HFIN : Hid (∀ y0 y1 y2 y3, AnsSP x (k : Int) c.control c.want.tag now w (.returned (.tuple #[.agg #[.int .i64 R.1.epoch, .int .i64 R.1.next, .slice a6 R.1.conns.length c6, .slice a7 R.1.queue.length c7], .slice a8 R.2.length c8, .agg #[.int .i64 c.want.client, .string c.want.tag, .string c.want.query, .string c.want.pointer], .bool true])) ((((((((D6.setCell ⟨w.heap.size + 1, 0, none⟩ (.int .i64 R.1.epoch)).setCell ⟨w.heap.size + 1, 1, none⟩ (.int .i64 R.1.next)).setCell ⟨w.heap.size + 1, 2, none⟩ (.slice a6 R.1.conns.length c6)).setCell ⟨w.heap.size + 1, 3, none⟩ (.slice a7 R.1.queue.length c7)).setCell ⟨w.heap.size + 1 + 1, 0, none⟩ y0).setCell ⟨w.heap.size + 1 + 1, 1, none⟩ y1).setCell ⟨w.heap.size + 1 + 1, 2, none⟩ y2).setCell ⟨w.heap.size + 1 + 1, 3, none⟩ y3)) := fun y0 y1 y2 y3 => by
              have hO := H8.out D6 (.int .i64 R.1.epoch) (.int .i64 R.1.next) (.slice a6 R.1.conns.length c6) (.slice a7 R.1.queue.length c7) y0 y1 y2 y3
              have hxr := HXR.out.below HBD.out
              have hxq := HXQ.out.below HBD.out
              obtain ⟨V, hV⟩ : ∃ V, ((((D6.setCell ⟨w.heap.size + 1, 0, none⟩ (.int .i64 R.1.epoch)).setCell ⟨w.heap.size + 1, 1, none⟩ (.int .i64 R.1.next)).setCell ⟨w.heap.size + 1, 2, none⟩ (.slice a6 R.1.conns.length c6)).setCell ⟨w.heap.size + 1, 3, none⟩ (.slice a7 R.1.queue.length c7)) = V := ⟨_, rfl⟩
              have h4 := four_blk D6 (w.heap.size + 1) (.int .i64 R.1.epoch) (.int .i64 R.1.next) (.slice a6 R.1.conns.length c6) (.slice a7 R.1.queue.length c7)
              rw [hV] at h4 hO ⊢
              have hq4 := four_blk V (w.heap.size + 1 + 1) y0 y1 y2 y3
              have hxqV : Box V (w.heap.size + 1 + 1) 33 #[.int .i64 0, .string ⟨#[]⟩, .string ⟨#[]⟩, .string ⟨#[]⟩] := hxq.keep (h4.1 _ (by omega))
              have p1 : PlAt 0 V R.1 (.slice a6 R.1.conns.length c6) (.slice a7 R.1.queue.length c7) := HPD.out.off hxr (Nat.le_of_eq h4.2.symm) fun d hd _ => h4.1 d hd
              have s1 : StsAt 0 V (.slice a8 R.2.length c8) R.2 := at_off HSD.out hxr (st_off 0) (Nat.le_of_eq h4.2.symm) fun d hd _ => h4.1 d hd
              unfold AnsSP
              rw [HAP.out]
              refine ⟨_, _, _, rfl, ⟨at_off2 p1.1 hxqV (fun q _ => qoff_cn q) (Nat.le_of_eq hq4.2.symm) fun d hd _ => hq4.1 d hd, at_off2 p1.2 hxqV (fun q hq => qoff_wn q (HTQ.out q hq)) (Nat.le_of_eq hq4.2.symm) fun d hd _ => hq4.1 d hd⟩, at_off2 s1 hxqV (fun q hq => qoff_st q (HTS.out q hq)) (Nat.le_of_eq hq4.2.symm) fun d hd _ => hq4.1 d hd, ?_⟩
              have c1 := bjoin HBD.out HB1.out
              exact c1.trans (hO.below c1.size fun d hd => (HBS.out d hd).1)
            clear hp6 hs6 hb6 hb6a hXO6 p0 p1 p2 p3 e0 e1 e2 e3 e4 e5 hB6lo
            go_wp2_with fail
            clear hX6 hB6
            go_region_held3 (fun X : World => (X.cell? ⟨B6, 0, none⟩ = some (.int .i64 R.1.epoch) ∧ X.cell? ⟨B6, 1, none⟩ = some (.int .i64 R.1.next) ∧ X.cell? ⟨B6, 2, none⟩ = some (.slice a6 R.1.conns.length c6) ∧ X.cell? ⟨B6, 3, none⟩ = some (.slice a7 R.1.queue.length c7)) ∧ X.cell? ⟨w.heap.size, 2, none⟩ = some (.slice (some ⟨b, off, none⟩) x.conns.length c1) ∧ (X.cell? ⟨b, P + 2, none⟩ = some (.int .i64 c.want.client) ∧ X.cell? ⟨b, P + 3, none⟩ = some (.string c.want.tag) ∧ X.cell? ⟨b, P + 4, none⟩ = some (.string c.want.query) ∧ X.cell? ⟨b, P + 5, none⟩ = some (.string c.want.pointer)))
              (first | with_reducible exact KS6.out _ hD0 | with_reducible exact KS6.out _ hD1 | with_reducible exact hS10 _ _ _ _ | with_reducible exact hS11 _ _ _ _ _ _ _ _)
              (first | fail)
            clear hS10 hS11
            go_wp2_with fail
            exact bodyPost_ret (v := .tuple #[.agg #[.int .i64 R.1.epoch, .int .i64 R.1.next, .slice a6 R.1.conns.length c6, .slice a7 R.1.queue.length c7], .slice a8 R.2.length c8, .agg #[.int .i64 c.want.client, .string c.want.tag, .string c.want.query, .string c.want.pointer], .bool true]) (by simp [results, Tryd.results11, go_sem, r0, r1, r2, r3, u0, u1, u2, u3, hz9]) rfl (HFIN.out _ _ _ _)
          · have HHIT : Hid (hitN x.conns (k : Int) control tag = none) := hnone True trivial (fun h => htt h.2.2)
            obtain ⟨s1, s2⟩ := str_ne htt
            clear hnone hc hnl
            go_enter Tryd.func11, Tryd.ntmps11
            go_wp2_with fail
            refine (HPO.out _ HPL.out).mono ?_
            rintro en W ⟨rfl, hbW⟩
            obtain ⟨⟨p0, p1, p2, p3⟩, _⟩ := KS.out W hbW
            have HBW := hide hbW
            clear hbW
            go_wp2_with fail
            refine (HNO.out _).mono ?_
            rintro en W3 ⟨rfl, hW3⟩
            rw [hW3]
            clear hW3 W3
            go_wp2_with fail
            refine (HCP.out _ (HPL.out.below HBW.out)).mono ?_
            rintro en W3 ⟨cv3, qv3, b1, b2, rfl, hpo, _, hb3⟩
            obtain ⟨⟨a3, c3, e3⟩, a4, c4, e4⟩ := hpo.at.form
            subst e3 e4
            obtain ⟨X3, hX3⟩ : ∃ X, W3.alloc (Obj.cells #[.int .i64 x.epoch, .int .i64 x.next, .slice a3 x.conns.length c3, .slice a4 x.queue.length c4] 27) = X := ⟨_, rfl⟩
            have hb3a : Below W3.heap.size W3 X3 := by rw [← hX3]; exact (Below.refl _ _).alloc (Nat.le_refl _) _
            have hXO : Box X3 W3.heap.size 27 #[.int .i64 x.epoch, .int .i64 x.next, .slice a3 x.conns.length c3, .slice a4 x.queue.length c4] := by rw [← hX3]; exact Box.new _ _ _
            have hB3 : Below w1.heap.size w1 X3 := bjoin (bjoin hb3a hb3) HBW.out
            obtain ⟨⟨o0, o1, o2, o3⟩, _⟩ := hXO.pool
            obtain ⟨⟨p0, p1, p2, p3⟩, ⟨⟨r0, r1, r2, r3⟩, f0, f1, f2, f3⟩, ⟨⟨u0, u1, u2, u3⟩, k0, k1, k2, k3⟩, hz9⟩ := KS.out X3 hB3
            have HM := hide (HMISS.out HHIT.out X3 _ _ b1 b2 (hpo.below hb3a) (by have := HBW.out.size; exact this) hB3)
            have HPOX := hide (hpo.below hb3a)
            have HXO := hide hXO
            have HB3 := hide hB3
            have HW3lt := hide hXO.lt
            have HRB := hide (fun d (hd : d ∈ b1) => (And.intro (hpo.2.2.2.1 d hd) (RowC.lt hpo.1 d hd)))
            clear hpo hb3 hb3a hXO hB3
            obtain ⟨e0, e1, e2, e3, e4, e5⟩ := HEL.out X3 HB3.out
            rw [hbz] at e0
            clear hbz htt
            subst hcc
            go_wp2_with fail
            exact bodyPost_ret (v := .tuple #[.agg #[.int .i64 x.epoch, .int .i64 x.next, .slice a3 x.conns.length c3, .slice a4 x.queue.length c4], .slice (some ⟨w.heap.size + 1 + 1 + 1, 0, none⟩) 0 0, .agg #[.int .i64 0, .string ⟨#[]⟩, .string ⟨#[]⟩, .string ⟨#[]⟩], .bool false]) (by simp [results, Tryd.results11, go_sem, r0, r1, r2, r3, u0, u1, u2, u3, hz9]) rfl (HM.out _ _ _ _ _ _ _ _)
        · have HHIT : Hid (hitN x.conns (k : Int) control tag = none) := hnone True trivial (fun h => hcc h.2.1.symm)
          obtain ⟨s1, s2⟩ := str_ne hcc
          clear hnone hc hnl
          go_enter Tryd.func11, Tryd.ntmps11
          go_wp2_with fail
          refine (HPO.out _ HPL.out).mono ?_
          rintro en W ⟨rfl, hbW⟩
          obtain ⟨⟨p0, p1, p2, p3⟩, _⟩ := KS.out W hbW
          have HBW := hide hbW
          clear hbW
          go_wp2_with fail
          refine (HNO.out _).mono ?_
          rintro en W3 ⟨rfl, hW3⟩
          rw [hW3]
          clear hW3 W3
          go_wp2_with fail
          refine (HCP.out _ (HPL.out.below HBW.out)).mono ?_
          rintro en W3 ⟨cv3, qv3, b1, b2, rfl, hpo, _, hb3⟩
          obtain ⟨⟨a3, c3, e3⟩, a4, c4, e4⟩ := hpo.at.form
          subst e3 e4
          obtain ⟨X3, hX3⟩ : ∃ X, W3.alloc (Obj.cells #[.int .i64 x.epoch, .int .i64 x.next, .slice a3 x.conns.length c3, .slice a4 x.queue.length c4] 27) = X := ⟨_, rfl⟩
          have hb3a : Below W3.heap.size W3 X3 := by rw [← hX3]; exact (Below.refl _ _).alloc (Nat.le_refl _) _
          have hXO : Box X3 W3.heap.size 27 #[.int .i64 x.epoch, .int .i64 x.next, .slice a3 x.conns.length c3, .slice a4 x.queue.length c4] := by rw [← hX3]; exact Box.new _ _ _
          have hB3 : Below w1.heap.size w1 X3 := bjoin (bjoin hb3a hb3) HBW.out
          obtain ⟨⟨o0, o1, o2, o3⟩, _⟩ := hXO.pool
          obtain ⟨⟨p0, p1, p2, p3⟩, ⟨⟨r0, r1, r2, r3⟩, f0, f1, f2, f3⟩, ⟨⟨u0, u1, u2, u3⟩, k0, k1, k2, k3⟩, hz9⟩ := KS.out X3 hB3
          have HM := hide (HMISS.out HHIT.out X3 _ _ b1 b2 (hpo.below hb3a) (by have := HBW.out.size; exact this) hB3)
          have HPOX := hide (hpo.below hb3a)
          have HXO := hide hXO
          have HB3 := hide hB3
          have HW3lt := hide hXO.lt
          have HRB := hide (fun d (hd : d ∈ b1) => (And.intro (hpo.2.2.2.1 d hd) (RowC.lt hpo.1 d hd)))
          clear hpo hb3 hb3a hXO hB3
          obtain ⟨e0, e1, e2, e3, e4, e5⟩ := HEL.out X3 HB3.out
          rw [hbz] at e0
          clear hbz hcc
          go_wp2_with fail
          exact bodyPost_ret (v := .tuple #[.agg #[.int .i64 x.epoch, .int .i64 x.next, .slice a3 x.conns.length c3, .slice a4 x.queue.length c4], .slice (some ⟨w.heap.size + 1 + 1 + 1, 0, none⟩) 0 0, .agg #[.int .i64 0, .string ⟨#[]⟩, .string ⟨#[]⟩, .string ⟨#[]⟩], .bool false]) (by simp [results, Tryd.results11, go_sem, r0, r1, r2, r3, u0, u1, u2, u3, hz9]) rfl (HM.out _ _ _ _ _ _ _ _)
end Go.Proofs.YtfdefjdogmhinaaDoor.Msg
