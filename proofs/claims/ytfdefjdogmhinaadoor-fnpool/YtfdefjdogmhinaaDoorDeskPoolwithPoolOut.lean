import Derived.Test.YtfdefjdogmhinaaDoorDeskwithDeskServe
import Derived.Test.YtfdefjdogmhinaaDoorServeSwithAskS
import Derived.Test.YtfdefjdogmhinaaDoorDeskSendwithDeskOf2
import Derived.Test.YtfdefjdogmhinaaDoorAskPurewithDeskRel
namespace Go.Proofs.YtfdefjdogmhinaaDoor.Msg
open Go.ChangeShapes Go.WideShapes Go.ChangeAt Go.RowKit
set_option linter.unusedVariables false
set_option linter.unusedSimpArgs false

theorem FV.fo {α : Type} {C : α → List Value} {c : Nat} {e : TypeId} (hC : ∀ x, (C x).length = c) (hc : 0 < c) {lo : Nat} {w : World} {v : Value} {xs : List α} (h : FV C c e lo w v xs) (hl : xs.length ≤ 9223372036854775807) : ∃ bs, FO C c w v xs bs ∧ ∀ b ∈ bs, lo ≤ b ∧ (∃ cur, Box w b e cur) ∧ ∀ hi, QB v hi → b < hi := by
  rcases h with ⟨a, cap, rfl, rfl⟩ | ⟨b, off, cap, cur, rfl, hlo, hb, hcap, hx⟩
  · exact ⟨[], ⟨by simp, .inl ⟨_, _, rfl, rfl, rfl⟩⟩, by simp⟩
  · refine ⟨[b], ⟨hl, .inr ⟨b, off, cap, rfl, hb.lt, rfl, fun i hi => ⟨?_, hb.frozen _⟩⟩⟩, fun d hd => by simp at hd; subst hd; exact ⟨hlo, ⟨cur, hb⟩, fun hi h => h _ _ _ rfl⟩⟩
    have hq : i / c < xs.length := (Nat.div_lt_iff_lt_mul hc).2 hi
    have hm : i % c < c := Nat.mod_lt _ hc
    have e1 : i / c * c + i % c = i := Nat.div_add_mod' i c
    have h1 := hx (i / c) hq (i % c) (by rw [hC]; exact hm)
    rw [Nat.add_assoc, e1] at h1
    have h2 := flat_get hC xs (i / c) (i % c) hq hm
    rw [e1] at h2
    simp only [List.getD_eq_getElem?_getD, h2, Option.getD_some]
    unfold Box at hb
    simp only [World.cell?, hb]
    exact h1
/-- a cell of the row of lines -/
theorem Desk.lineAt {lo : Nat} {w : World} {D M : Nat} {Ls : List Nat} {s : Ds} {lv fv qv sv : Value} {n : Nat} (h : Desk lo w D M Ls s lv fv qv sv n) {k : Nat} (hk : k < Ls.length) : ∃ b cap, lv = .slice (some ⟨b, 0, none⟩) Ls.length cap ∧ b < w.heap.size ∧ w.cell? ⟨b, k, none⟩ = some (.pointer (some ⟨Ls[k], 0, none⟩)) := by
  have h' := h.lrow
  obtain ⟨_, ⟨rfl, h0⟩ | ⟨g, cap, cur, rfl, hg, hs, hc, hm, _⟩⟩ := h.lrow
  · omega
  · refine ⟨g, cap, rfl, by rw [Array.getElem?_eq_some_iff] at hs; exact hs.1, ?_⟩
    have := World.ownsRow.cellAt h' k (by omega)
    rw [this]
    have h2 := flat_get ptrC_len Ls k 0 hk (by omega)
    simp only [Nat.mul_one, Nat.add_zero] at h2
    rw [h2]
    rfl

set_option maxRecDepth 100000 in
set_option maxHeartbeats 6000000 in
theorem poolI_any {lo : Nat} {w : World} {D M : Nat} {Ls : List Nat} {s : Ds} {lv fv qv sv : Value} {n : Nat} (h : Desk lo w D M Ls s lv fv qv sv n) (hz1 : ∀ i (h : i < s.conns.length), cnZ s.conns[i]) (hz2 : ∀ i (h : i < s.queue.length), wnZ s.queue[i]) (hk4 : Ls.length ≤ 100) (hql : s.queue.length ≤ 100) (hlo : lo ≤ w.heap.size) :
    Calls Tryd.prog 22 #[.pointer (some ⟨D, 0, none⟩)] w fun en w' => ∃ cv qv2 b1 b2, en = .returned (plV ⟨s.epoch, s.next, s.conns, s.queue⟩ cv qv2) ∧ PlO lo w' ⟨s.epoch, s.next, s.conns, s.queue⟩ cv qv2 b1 b2 ∧ (∀ d ∈ b1, w.heap.size ≤ d) ∧ (∀ d ∈ b2, (∃ cur, Box w d 33 cur) ∧ ∀ hi, QB qv hi → d < hi) ∧ Below w.heap.size w w' := by
  have HD := hide h
  have HZ1 := hide hz1
  have HZ2 := hide hz2
  have HLEN := hide h.len
  obtain ⟨aq, cq, hqf⟩ := h.queue.form
  obtain ⟨al, cl, hlf, hlc, _⟩ := h.lrow.form
  subst hqf hlf
  obtain ⟨w1, hw1⟩ : ∃ w1, w.alloc (Obj.cells #[.int .i64 0, .int .i64 0, .slice none 0 0, .slice none 0 0] 27) = w1 := ⟨_, rfl⟩
  have hb1 : Below w.heap.size w w1 := by rw [← hw1]; exact (Below.refl _ _).alloc (Nat.le_refl _) _
  have hXR1 : Box w1 w.heap.size 27 #[.int .i64 0, .int .i64 0, .slice none 0 0, .slice none 0 0] := by rw [← hw1]; exact Box.new _ _ _
  have S1 : Hid (∀ X, Below w1.heap.size w1 X → X.cell? ⟨D, 0, none⟩ = some (.int .i64 s.epoch) ∧ X.cell? ⟨D, 1, none⟩ = some (.int .i64 s.next) ∧ X.cell? ⟨D, 6, none⟩ = some (.slice aq s.queue.length cq)) := fun X hX => by
    obtain ⟨⟨d0, d1, d2, d3, d4, d5, d6, d7⟩, _⟩ := (HD.out.below (bjoin hX hb1)).cells
    exact ⟨d0, d1, d6⟩
  have hk0 : Below w1.heap.size w1 w1.drew := (Below.refl _ _).drew
  obtain ⟨D1, hwd⟩ : ∃ D1, w1.drew = D1 := ⟨_, rfl⟩
  have hk1 : Below w1.heap.size w1 D1 := by rw [← hwd]; exact hk0
  have hk2 : ∀ o, Below w1.heap.size w1 (D1.alloc o) := fun o => hk1.alloc hk1.size o
  have hsD1 : D1.heap.size = w.heap.size + 1 := by rw [← hwd, ← hw1]; simp
  obtain ⟨w2, hw2⟩ : ∃ w2, D1.alloc (Obj.cells #[.int .i64 s.epoch, .int .i64 s.next, .slice none 0 0, .slice aq s.queue.length cq] 27) = w2 := ⟨_, rfl⟩
  have hb2 : Below w.heap.size w w2 := by rw [← hw2]; exact bjoin (hk2 _) hb1
  have HB2 := hide hb2
  have HXR2 : Hid (Box w2 w.heap.size 27 #[.int .i64 0, .int .i64 0, .slice none 0 0, .slice none 0 0]) := by rw [← hw2]; exact hXR1.below (hk2 _)
  have HXP2 : Hid (Box w2 (w.heap.size + 1) 27 #[.int .i64 s.epoch, .int .i64 s.next, .slice none 0 0, .slice aq s.queue.length cq]) := by
    have := Box.new D1 27 #[.int .i64 s.epoch, .int .i64 s.next, .slice none 0 0, .slice aq s.queue.length cq]
    rw [hw2, hsD1] at this
    exact this
  have hsz2 : w.heap.size + 2 ≤ w2.heap.size := by rw [← hw2, Deep.nblk_alloc]; omega
  have HSZ2 := hide hsz2
  clear hsz2
  have d3 : w2.cell? ⟨D, 3, none⟩ = some (.slice al Ls.length cl) := (h.below hb2).cells.1.2.2.2.1
  have HW2 := hide hw2
  clear h hb1 hXR1 hb2 hz1 hz2 hw2
  go_enter Tryd.func22, Tryd.ntmps22
  go_wp2_with fail
  go_region_held3 (fun X => X.cell? ⟨D, 0, none⟩ = some (.int .i64 s.epoch) ∧ X.cell? ⟨D, 1, none⟩ = some (.int .i64 s.next) ∧ X.cell? ⟨D, 6, none⟩ = some (.slice aq s.queue.length cq))
    (first | with_reducible exact S1.out _ hk0 | with_reducible exact S1.out _ hk1 | with_reducible exact S1.out _ (hk2 _))
    (first | fail)
  rw [HW2.out]
  go_wp2_with fail
  go_loopg [24] Ls.length (fun q i wx => ∃ (k : Nat) (v : Value), k ≤ Ls.length ∧ q = Ls.length - k ∧ i = .int .i64 k ∧ FB cnC 7 37 (w.heap.size + 2) wx v (s.conns.take k) ∧ Box wx w.heap.size 27 #[.int .i64 0, .int .i64 0, .slice none 0 0, .slice none 0 0] ∧ Box wx (w.heap.size + 1) 27 #[.int .i64 s.epoch, .int .i64 s.next, v, .slice aq s.queue.length cq] ∧ w.heap.size + 2 ≤ wx.heap.size ∧ Below w.heap.size w wx)
  case atStart => exact ⟨0, .slice none 0 0, Nat.zero_le _, rfl, rfl, FB.nil _ _ _ _ _, HXR2.out, HXP2.out, HSZ2.out, HB2.out⟩
  case round =>
    obtain ⟨k, v, hk, rfl, rfl, hF, hX0, hX1, hsz, hb⟩ := hrel
    by_cases hlt : k < Ls.length
    · have hkc : k < s.conns.length := by rw [← HLEN.out]; exact hlt
      have hlk : (s.conns.take k).length = k := by rw [List.length_take]; omega
      obtain ⟨av, cap, hfv, _⟩ := hF.form
      rw [hlk] at hfv
      subst hfv
      obtain ⟨lb, lcap, hle, hlbl, hlcell⟩ := HD.out.lineAt hlt
      injection hle with hle1 _ hle3
      subst hle1 hle3
      have hdr := HD.out.below hb
      have cL : wr.cell? ⟨lb, k, none⟩ = some (.pointer (some ⟨Ls[k], 0, none⟩)) := by rw [hb.cell (p := ⟨lb, k, none⟩) hlbl]; exact hlcell
      obtain ⟨D2, hwd2⟩ : ∃ D2, wr.drew = D2 := ⟨_, rfl⟩
      have oD : Only [] wr D2 := by rw [← hwd2]; exact Only.of_below (Below.refl _ _).drew
      have bD : Below wr.heap.size wr D2 := by rw [← hwd2]; exact (Below.refl _ _).drew
      have hX0D := hX0.only oD (by simp)
      have hX1D := hX1.only oD (by simp)
      have hFD : FB cnC 7 37 (w.heap.size + 2) D2 (.slice av k cap) (s.conns.take k) := hF.only oD (by simp)
      have hbl := (hdr.below bD).line k hlt hkc
      have hszD : w.heap.size + 2 ≤ D2.heap.size := by have := oD.size; omega
      obtain ⟨v', w', hr, hF', hO, hat⟩ := app1 Tryd.underlying24 info_Conn rfl (by decide) cnC_len cnC_one hFD 24 s.conns[k] hszD (by rw [hlk]; omega) (by omega)
      rw [take_snoc s.conns k hkc] at hF'
      obtain ⟨L, hL⟩ : ∃ L, Ls[k] = L := ⟨_, rfl⟩
      rw [hL] at cL hbl
      obtain ⟨x, hx⟩ : ∃ x, s.conns[k] = x := ⟨_, rfl⟩
      rw [hx] at hr hbl
      obtain ⟨⟨g0, g1, g2, g3, g4, g5, g6, _⟩, _⟩ := hbl.line7
      have hlo2 : ∀ d ∈ (Value.slice av k cap).ownBlock.toList, w.heap.size + 2 ≤ d := fun d hd => (hFD.own d hd).1
      have hX0' := hX0D.only hO (fun h => by have := hlo2 _ h; omega)
      have hX1' := hX1D.only hO (fun h => by have := hlo2 _ h; omega)
      have o2 : D2.cell? ⟨w.heap.size + 1, 2, none⟩ = some (.slice av k cap) := hX1D.cell 2 (by simp)
      have t2 : w'.cell? ⟨w.heap.size + 1, 2, none⟩ = some (.slice av k cap) := hX1'.cell 2 (by simp)
      have f2 := hX1'.frozen 2
      have l1 := hX1D.lt
      have lL := hbl.lt
      have HR : Hid (FB cnC 7 37 (w.heap.size + 2) (w'.setCell ⟨w.heap.size + 1, 2, none⟩ v') v' (s.conns.take (k + 1)) ∧ Box (w'.setCell ⟨w.heap.size + 1, 2, none⟩ v') w.heap.size 27 #[.int .i64 0, .int .i64 0, .slice none 0 0, .slice none 0 0] ∧ Box (w'.setCell ⟨w.heap.size + 1, 2, none⟩ v') (w.heap.size + 1) 27 #[.int .i64 s.epoch, .int .i64 s.next, v', .slice aq s.queue.length cq] ∧ w.heap.size + 2 ≤ (w'.setCell ⟨w.heap.size + 1, 2, none⟩ v').heap.size ∧ Below w.heap.size w (w'.setCell ⟨w.heap.size + 1, 2, none⟩ v')) := by
        refine ⟨hF'.set (by simp) _, hX0'.other (by simp) _, hX1'.set 2 _, by rw [Deep.nblk_setCell]; have := hO.size; omega, ?_⟩
        have c1 := bjoin bD hb
        exact (c1.trans (hO.below c1.size fun d hd => by have := hlo2 d hd; omega)).setCell (by simp) _
      obtain ⟨a', cap', hfv, _⟩ := hF'.form
      rw [show (s.conns.take (k + 1)).length = k + 1 by rw [List.length_take]; omega] at hfv
      subst hfv
      have hi : (k : Int) < (Ls.length : Int) := by omega
      have hr2 : (Builtin.append_ #[24, 24] 24 #[.slice av k cap, .slice (some ⟨D2.heap.size, 0, none⟩) 1 1]).run Tryd.prog (D2.alloc (.cells #[.bool x.busy, .string x.control, .int .i64 x.want.client, .string x.want.tag, .string x.want.query, .string x.want.pointer, .int .i64 x.due] 37)) = .ok (.slice a' (k + 1) cap') w' := hr
      clear hF hX0 hX1 hb hdr oD bD hX0D hX1D hFD hbl hO hat hF' hX0' hX1' hr hx hlo2 hlcell
      go_wp2_with fail
      go_region_law (refine step_app rfl _ _ 24 rfl hr2 (by first | rfl | simp [Act.eval, Act.put]) (by first | rfl | simp [Act.eval, Act.put]) ?_)
      all_goals
        go_wp2_with fail
        go_roundg (Ls.length - (k + 1))
        case measure => omega
        case rel => exact ⟨k + 1, _, by omega, rfl, by go_num, HR.out.1, HR.out.2.1, HR.out.2.2.1, HR.out.2.2.2.1, HR.out.2.2.2.2⟩
    · have hkl : k = s.conns.length := by rw [← HLEN.out]; omega
      subst hkl
      rw [List.take_length] at hF
      obtain ⟨av, cap, hfv, _⟩ := hF.form
      subst hfv
      obtain ⟨⟨c0, c1, c2, c3⟩, _⟩ := hX1.pool
      obtain ⟨⟨e0, e1, e2, e3⟩, f0, f1, f2, f3⟩ := hX0.pool
      have hz : w.heap.size < wr.heap.size := hX0.lt
      have HR : Hid (∀ x0 x1 x2 x3, ∃ b1 b2, PlO lo ((((wr.setCell ⟨w.heap.size, 0, none⟩ x0).setCell ⟨w.heap.size, 1, none⟩ x1).setCell ⟨w.heap.size, 2, none⟩ x2).setCell ⟨w.heap.size, 3, none⟩ x3) ⟨s.epoch, s.next, s.conns, s.queue⟩ (.slice av s.conns.length cap) (.slice aq s.queue.length cq) b1 b2 ∧ (∀ d ∈ b1, w.heap.size ≤ d) ∧ (∀ d ∈ b2, (∃ cur, Box w d 33 cur) ∧ ∀ hi, QB (.slice aq s.queue.length cq) hi → d < hi) ∧ Below w.heap.size w ((((wr.setCell ⟨w.heap.size, 0, none⟩ x0).setCell ⟨w.heap.size, 1, none⟩ x1).setCell ⟨w.heap.size, 2, none⟩ x2).setCell ⟨w.heap.size, 3, none⟩ x3)) := fun x0 x1 x2 x3 => by
        have h4 := four_blk wr w.heap.size x0 x1 x2 x3
        have hBl : Below w.heap.size w ((((wr.setCell ⟨w.heap.size, 0, none⟩ x0).setCell ⟨w.heap.size, 1, none⟩ x1).setCell ⟨w.heap.size, 2, none⟩ x2).setCell ⟨w.heap.size, 3, none⟩ x3) := (((hb.setCell (by simp) _).setCell (by simp) _).setCell (by simp) _).setCell (by simp) _
        obtain ⟨b1, r1, r2, _⟩ := FO.of_own cnC_len (hF.keep (w' := ((((wr.setCell ⟨w.heap.size, 0, none⟩ x0).setCell ⟨w.heap.size, 1, none⟩ x1).setCell ⟨w.heap.size, 2, none⟩ x2).setCell ⟨w.heap.size, 3, none⟩ x3)) fun d hd => h4.1 d (by have := (hF.own d hd).1; omega)) (by have := HLEN.out; omega)
        obtain ⟨b2, s1, s2⟩ := FV.fo wnC_len (by omega) HD.out.queue (by omega)
        refine ⟨b1, b2, ⟨r1, RowC.below s1 hBl, fun d hd hd2 => ?_, fun d hd => by have := (r2 d hd).1; omega, fun d hd => (s2 d hd).1, HZ1.out, HZ2.out⟩, fun d hd => by have := (r2 d hd).1; omega, fun d hd => (s2 d hd).2, hBl⟩
        have := (r2 d hd).1
        have := RowC.lt s1 d hd2
        omega
      clear hF hX0 hX1 hb
      go_wp2_with fail
      obtain ⟨b1, b2, hp1, hp2, hp3, hp4⟩ := HR.out (.int .i64 s.epoch) (.int .i64 s.next) (.slice av s.conns.length cap) (.slice aq s.queue.length cq)
      exact bodyPost_ret (v := .agg #[.int .i64 s.epoch, .int .i64 s.next, .slice av s.conns.length cap, .slice aq s.queue.length cq]) (by simp [results, Tryd.results22, go_sem, e0, e1, e2, e3, hz]) rfl ⟨_, _, b1, b2, rfl, hp1, hp2, hp3, hp4⟩
end Go.Proofs.YtfdefjdogmhinaaDoor.Msg

namespace Go.Proofs.YtfdefjdogmhinaaDoor.Msg
open Go.ChangeShapes Go.WideShapes Go.ChangeAt Go.RowKit
set_option linter.unusedVariables false
set_option linter.unusedSimpArgs false

theorem Desk.setQueue {lo : Nat} {w w' : World} {D M : Nat} {Ls : List Nat} {s : Ds} {lv fv qv sv qv' : Value} {n : Nat} {qs : List Wn} (h : Desk lo w D M Ls s lv fv qv sv n) (hq : FB wnC 4 33 lo w qv s.queue) (ho : Only qv.ownBlock.toList w w') (hf : FB wnC 4 33 lo w' qv' qs) :
    Desk lo (w'.setCell ⟨D, 6, none⟩ qv') D M Ls { s with queue := qs } lv fv qv' sv n := by
  have hb' : Box w' D 58 #[.int .i64 s.epoch, .int .i64 s.next, .int .i64 s.now, lv, fv, .map (some M), qv, sv] := h.box.keepT (TSame.own hq ho (by decide))
  have hm' : MapO w' M n := h.map.keep (ho.block M h.map.lt fun hx => by obtain ⟨cur, hb⟩ := hq.box M hx; exact (h.map.ne hb) rfl)
  have o2 : Only [D] w' (w'.setCell ⟨D, 6, none⟩ qv') := (Only.refl _ _).setCell (by simp) _
  exact ⟨hb'.set 6 _, h.len, fun i hi h2 => ((h.line i hi h2).keepT (TSame.own hq ho (by decide))).keepT (TSame.only o2 hb' (by decide)), h.nd, (h.lrow.keepT (TSame.own hq ho (by decide))).keepT (TSame.only o2 hb' (by decide)), (h.free.keepT (TSame.own hq ho (by decide))).keepT (TSame.only o2 hb' (by decide)), h.fok, (FV.of_own wnC_len hf (Nat.le_refl _)).keepT (TSame.only o2 hb' (by decide)), (h.sent.keepT (TSame.own hq ho (by decide))).keepT (TSame.only o2 hb' (by decide)), hm'.keep (o2.block M hm'.lt (by simp; exact fun e => (hm'.ne hb') e.symm)), h.lows⟩

/-- what a call of the pool gives: a pool and what was sent, in memory of its own -/
def PoolSent (x : Pl) (ss : List St) (w : World) (cv qv sv : Value) (w' : World) : Prop :=
  ∃ b1 b2 b3, PlO w.heap.size w' x cv qv b1 b2 ∧ FO stC 6 w' sv ss b3 ∧ (∀ t ∈ ss, stZ t) ∧ (∀ d ∈ b3, w.heap.size ≤ d ∧ d ∉ b1 ∧ d ∉ b2) ∧ Below w.heap.size w w'
theorem PoolSent.none (w w' : World) (e n : Int) (a1 a2 a3 : Option Addr) (c1 c2 c3 : Nat) (h : Below w.heap.size w w') : PoolSent ⟨e, n, [], []⟩ [] w (.slice a1 0 c1) (.slice a2 0 c2) (.slice a3 0 c3) w' :=
  ⟨[], [], [], PlO.none _ _ _ _ _ _ _ _, ⟨by simp, .inl ⟨_, _, rfl, rfl, rfl⟩⟩, by simp, by simp, h⟩
/-- what a desk gives out: pool() at the world W8, and the answer's box is filled -/
theorem PoolSent.of4 {w w1 W8 W9 X : World} {D M : Nat} {Ls : List Nat} {s : Ds} {lv fv qv sv cv9 qv9 : Value} {n B : Nat} {b1 b2 : List Nat} (hd : Desk w1.heap.size W8 D M Ls s lv fv qv sv n) (hw : Below w.heap.size w w1) (hl : Below w1.heap.size w1 W8) (hB0 : w.heap.size ≤ B) (hB1 : B < w1.heap.size)
    (hpo : PlO w1.heap.size W9 ⟨s.epoch, s.next, s.conns, s.queue⟩ cv9 qv9 b1 b2) (hb1 : ∀ d ∈ b1, W8.heap.size ≤ d) (hb2 : ∀ d ∈ b2, (∃ cur, Box W8 d 33 cur) ∧ ∀ hi, QB qv hi → d < hi) (h9 : Below W8.heap.size W8 W9) (hz : ∀ t ∈ s.sent, stZ t) (hsl : s.sent.length ≤ 1000) (hX : Only [B] W9 X) :
    ∃ b3, PlO w.heap.size X ⟨s.epoch, s.next, s.conns, s.queue⟩ cv9 qv9 b1 b2 ∧ FO stC 6 X sv s.sent b3 ∧ (∀ t ∈ s.sent, stZ t) ∧ (∀ d ∈ b3, w.heap.size ≤ d ∧ d ∉ b1 ∧ d ∉ b2) ∧ Below w.heap.size w X ∧ ∀ d ∈ b3, ∃ cur, Box W8 d 48 cur := by
  obtain ⟨b3, f3, o3, _⟩ := FO.of_own stC_len hd.sent (by omega)
  have hsz : w.heap.size ≤ w1.heap.size := hw.size
  have hX' : ∀ d, w1.heap.size ≤ d → d < W9.heap.size → X.heap[d]? = W9.heap[d]? := fun d h1 h2 => hX.block d h2 (by simp; omega)
  have h3 : ∀ d ∈ b3, w1.heap.size ≤ d ∧ d < W8.heap.size ∧ ∃ cur, Box W8 d 48 cur := fun d hd' => by
    obtain ⟨q1, q2⟩ := o3 d hd'
    exact ⟨q1, RowC.lt f3 d hd', hd.sent.box d (by rw [q2]; simp)⟩
  have hs8 : W8.heap.size ≤ W9.heap.size := h9.size
  refine ⟨b3, ⟨RowC.kept hpo.1 hX.size fun d h => hX' d (hpo.2.2.2.1 d h) (RowC.lt hpo.1 d h), RowC.kept hpo.2.1 hX.size fun d h => hX' d (hpo.2.2.2.2.1 d h) (RowC.lt hpo.2.1 d h), hpo.2.2.1, fun d h => by have := hpo.2.2.2.1 d h; omega, fun d h => by have := hpo.2.2.2.2.1 d h; omega, hpo.2.2.2.2.2.1, hpo.2.2.2.2.2.2⟩, ?_, hz, fun d h => ⟨by have := (h3 d h).1; omega, fun h1 => ?_, fun h2 => ?_⟩, ?_, fun d h => (h3 d h).2.2⟩
  · refine RowC.kept (RowC.below f3 h9) hX.size fun d h => hX' d (h3 d h).1 (by have := (h3 d h).2.1; omega)
  · have := hb1 d h1
    have := (h3 d h).2.1
    omega
  · obtain ⟨⟨c1, hc1⟩, _⟩ := hb2 d h2
    obtain ⟨_, _, c2, hc2⟩ := h3 d h
    exact (hc1.ne hc2 (by decide)) rfl
  · have c1 : Below w.heap.size w W9 := bjoin (bjoin h9 (hl.mono (Nat.le_refl _))) hw
    exact c1.trans (hX.below (by have := c1.size; omega) fun d hd' => by simp at hd'; omega)
theorem PoolSent.of {w w1 W8 W9 X : World} {D M : Nat} {Ls : List Nat} {s : Ds} {lv fv qv sv cv9 qv9 : Value} {n B : Nat} {b1 b2 : List Nat} (hd : Desk w1.heap.size W8 D M Ls s lv fv qv sv n) (hw : Below w.heap.size w w1) (hl : Below w1.heap.size w1 W8) (hB0 : w.heap.size ≤ B) (hB1 : B < w1.heap.size)
    (hpo : PlO w1.heap.size W9 ⟨s.epoch, s.next, s.conns, s.queue⟩ cv9 qv9 b1 b2) (hb1 : ∀ d ∈ b1, W8.heap.size ≤ d) (hb2 : ∀ d ∈ b2, (∃ cur, Box W8 d 33 cur) ∧ ∀ hi, QB qv hi → d < hi) (h9 : Below W8.heap.size W8 W9) (hz : ∀ t ∈ s.sent, stZ t) (hsl : s.sent.length ≤ 1000) (hX : Only [B] W9 X) :
    PoolSent ⟨s.epoch, s.next, s.conns, s.queue⟩ s.sent w cv9 qv9 sv X := by
  obtain ⟨b3, h1, h2, h3, h4, h5, _⟩ := PoolSent.of4 hd hw hl hB0 hB1 hpo hb1 hb2 h9 hz hsl hX
  exact ⟨b1, b2, b3, h1, h2, h3, h4, h5⟩
def AskI (x : Pl) (q : Wn) (now : Int) (w : World) (en : Ending) (w' : World) : Prop :=
  ∃ cv qv sv, en = .returned (.tuple #[plV (askP x q now).1 cv qv, sv, .int .i64 (askP x q now).2.2]) ∧ PoolSent (askP x q now).1 (askP x q now).2.1 w cv qv sv w'

end Go.Proofs.YtfdefjdogmhinaaDoor.Msg
