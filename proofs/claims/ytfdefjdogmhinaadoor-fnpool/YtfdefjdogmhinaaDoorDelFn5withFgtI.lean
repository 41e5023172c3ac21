import Derived.Test.YtfdefjdogmhinaaDoorDelFn3withDelFn4
import Derived.Test.YtfdefjdogmhinaaDoorDeskwithDeskServe
import Derived.Test.YtfdefjdogmhinaaDoorExpIwithExpS
import Derived.Test.YtfdefjdogmhinaaDoorFgtPurewithDeskMap
import Derived.Test.YtfdefjdogmhinaaDoorClientImplwithRowsSpec
import Derived.Test.YtfdefjdogmhinaaDoorTextImplwithRowsImpl
namespace Go.Proofs.YtfdefjdogmhinaaDoor.Msg
open Go.ChangeShapes Go.WideShapes Go.ChangeAt Go.RowKit
set_option linter.unusedVariables false
set_option linter.unusedSimpArgs false

set_option maxRecDepth 100000 in
set_option maxHeartbeats 4000000 in
theorem delete_any (client : Int) (tag : ByteArray) (qs : List Wn) (v : Value) (Bc Bt : Nat) (w : World) {lo lo2 : Nat} (hv : WnsAt lo2 w v qs) (hF : FB wnC 4 33 lo w v qs) (hc : Box w Bc 3 #[.int .i64 client]) (ht : Box w Bt 9 #[.string tag]) (hq : qs.length ≤ 1000000) :
    Calls Tryd.prog 35 #[v, .func (.func 33) #[] #[.pointer (some ⟨Bc, 0, none⟩), .pointer (some ⟨Bt, 0, none⟩)]] w fun en w' => ∃ v', en = .returned v' ∧ FB wnC 4 33 lo w' v' (qs.filter fun q => !thB client tag q) ∧ Only v.ownBlock.toList w w' ∧ (∀ hi, QB v hi → QB v' hi) := by
  have HIX := hide (indexTh_any client tag qs v Bc Bt w hv hc ht)
  obtain ⟨a1, c1, hvf, _⟩ := hF.form
  subst hvf
  by_cases hix : qs.findIdx (thB client tag) < qs.length
  · have e1 : thI client tag qs = (qs.findIdx (thB client tag) : Int) := if_pos hix
    obtain ⟨k, hk⟩ : ∃ k, qs.findIdx (thB client tag) = k := ⟨_, rfl⟩
    have hkb : thB client tag (qs[k]'(by omega)) = true := by
      have := List.findIdx_getElem (w := hix)
      simpa [hk] using this
    have hka : ∀ i (hi : i < qs.length), i < k → thB client tag qs[i] = false := fun i hi h => by
      have := List.not_of_lt_findIdx (p := thB client tag) (xs := qs) (i := i) (by omega)
      simpa using this
    rw [e1, hk] at HIX
    have hkl : k < qs.length := by omega
    obtain ⟨g, rfl⟩ : ∃ g, a1 = some ⟨g, 0, none⟩ := by
      obtain ⟨_, ⟨e, h0⟩ | ⟨g', cap', cur, e, _⟩⟩ := hF
      · injection e with _ e2 _; omega
      · injection e with e1 _ _; exact ⟨g', e1⟩
    obtain ⟨hg, ⟨cur, hgB, _⟩, _, hcap, hmax⟩ := hF.boxG
    have hlc := hc.ne hgB (by decide)
    have hlt := ht.ne hgB (by decide)
    have HCT : Hid (∀ wx, Only [g] w wx → wx.cell? ⟨Bc, 0, none⟩ = some (.int .i64 client) ∧ wx.cell? ⟨Bt, 0, none⟩ = some (.string tag)) := fun wx ho =>
      ⟨(cellSame (ho.block Bc hc.lt (by simp; exact hlc))).trans (hc.cell 0 (by simp)), (cellSame (ho.block Bt ht.lt (by simp; exact hlt))).trans (ht.cell 0 (by simp))⟩
    have HST : Hid (∀ W, Below w.heap.size w W → DelL lo w g c1 client tag qs k (k + 1) W) := fun W hW => (DelL.start hF (Only.refl _ _) hkl hkb hka).below hW
    have HFIN : Hid (∀ i j wx, DelL lo w g c1 client tag qs i j wx → ¬ j < qs.length → ∃ W, (Builtin.clear_ #[25] 0 #[.slice (some ⟨g, i * 4, none⟩) (qs.length - i) (c1 - i)]).run Tryd.prog wx = .ok (.tuple #[]) W ∧ FB wnC 4 33 lo W (.slice (some ⟨g, 0, none⟩) i c1) (qs.filter fun q => !thB client tag q) ∧ Only [g] w W) := fun i j wx h hj => by
      obtain ⟨ys, h1, h2, h3, h4, h5, h6, h7⟩ := h
      obtain ⟨W, hr, ho, hFW⟩ := h1.cleared (i := i) (by omega) 0
      refine ⟨W, hr, ?_, h7.trans ho⟩
      rw [h3, List.take_of_length_le (by omega)] at hFW
      exact hFW
    clear hv hF hc ht hix hkb hka hgB hlc hlt hk e1
    go_enter Tryd.func35, Tryd.ntmps35
    go_wp2_with (go_at_call 49; refine HIX.out.mono ?_; rintro en W1 ⟨rfl, hb1⟩)
    have hS := HST.out _ hb1
    go_loopg [5, 6] (qs.length - (k + 1)) (fun q u v wx => ∃ i j : Nat, q = qs.length - j ∧ u = .int .i64 i ∧ v = .int .i64 j ∧ DelL lo w g c1 client tag qs i j wx)
    case atStart => exact ⟨k, k + 1, rfl, rfl, by go_num, hS⟩
    case round =>
      obtain ⟨i, j, rfl, rfl, rfl, hL⟩ := hrel
      obtain ⟨hij, hjl⟩ : i < j ∧ j ≤ qs.length := by obtain ⟨ys, h1, h2, h3, h4, h5, h6, h7⟩ := hL; exact ⟨h5, h6⟩
      have hog : Only [g] w wr := by obtain ⟨ys, h1, h2, h3, h4, h5, h6, h7⟩ := hL; exact h7
      by_cases hlt : j < qs.length
      · obtain ⟨x, hx⟩ : ∃ x, qs[j] = x := ⟨_, rfl⟩
        obtain ⟨g0, g1, g2, g3⟩ := hL.at hlt
        rw [hx] at g0 g1 g2 g3
        have hi : (j : Int) < (qs.length : Int) := by omega
        obtain ⟨wa, hwa⟩ : ∃ wa, wr.alloc (Obj.cells #[.int .i64 x.client, .string x.tag, .string x.query, .string x.pointer] 33) = wa := ⟨_, rfl⟩
        have hXB : Box wa wr.heap.size 33 #[.int .i64 x.client, .string x.tag, .string x.query, .string x.pointer] := by rw [← hwa]; exact Box.new _ _ _
        have hba : Below wr.heap.size wr wa := by rw [← hwa]; exact (Below.refl _ _).alloc (Nat.le_refl _) _
        have hct := HCT.out wa (hog.trans (Only.of_below hba))
        have HIF := hide (theirs_any client tag x Bc Bt wa hct.1 hct.2)
        unfold wnV at HIF
        have KX : Hid (∀ W, Below wa.heap.size wa W → (W.cell? ⟨wr.heap.size, 0, none⟩ = some (.int .i64 x.client) ∧ W.cell? ⟨wr.heap.size, 1, none⟩ = some (.string x.tag) ∧ W.cell? ⟨wr.heap.size, 2, none⟩ = some (.string x.query) ∧ W.cell? ⟨wr.heap.size, 3, none⟩ = some (.string x.pointer)) ∧ DelL lo w g c1 client tag qs i j W) := fun W hW => by
          have hq := hXB.below hW
          exact ⟨⟨hq.cell 0 (by simp), hq.cell 1 (by simp), hq.cell 2 (by simp), hq.cell 3 (by simp)⟩, (hL.below hba).below hW⟩
        obtain ⟨⟨z0, z1, z2, z3⟩, _⟩ := KX.out wa (Below.refl _ _)
        cases hbz : thB client tag x with
        | true =>
          rw [hbz] at HIF
          have HN : Hid (∀ W, DelL lo w g c1 client tag qs i j W → DelL lo w g c1 client tag qs i (j + 1) W) := fun W h => h.skip hlt (by rw [hx]; exact hbz)
          clear hL hog hct hXB hba hbz hx
          go_wp2_with (go_at_call 33; refine HIF.out.mono ?_; rintro en W2 ⟨rfl, hb2⟩)
          go_roundg (qs.length - (j + 1))
          case measure => omega
          case rel => exact ⟨i, j + 1, rfl, rfl, by go_num, HN.out _ (KX.out _ hb2).2⟩
        | false =>
          rw [hbz] at HIF
          have HN : Hid (∀ W, DelL lo w g c1 client tag qs i j W → DelL lo w g c1 client tag qs (i + 1) (j + 1) (put4 W g (i * 4) x)) := fun W h => by rw [← hx]; exact h.put hlt (by rw [hx]; exact hbz)
          clear hL hog hct hXB hba hbz hx
          have hi2 : (i : Int) < (qs.length : Int) := by omega
          go_wp2_with (go_at_call 33; refine HIF.out.mono ?_; rintro en W2 ⟨rfl, hb2⟩; obtain ⟨⟨y0, y1, y2, y3⟩, hL2⟩ := KX.out _ hb2; obtain ⟨y, ⟨t0, t1, t2, t3⟩, ft⟩ := hL2.to; have ft0 := ft (i * 4); have ft1 := ft (i * 4 + 1); have ft2 := ft (i * 4 + 2); have ft3 := ft (i * 4 + 3); have HL2 := hide (HN.out _ hL2); clear hL2 ft)
          go_roundg (qs.length - (j + 1))
          case measure => omega
          case rel => exact ⟨i + 1, j + 1, rfl, by go_num, by go_num, HL2.out⟩
      · obtain ⟨W, hr, hFW, hoW⟩ := HFIN.out i j wr hL hlt
        have hsf := sliceFrom g qs.length c1 i (by omega) (by omega) wr
        have hst := sliceTo g qs.length c1 i (by omega) hcap W
        have HFW := hide hFW
        have HOW := hide hoW
        clear hL hog hFW hoW
        go_wp2_with (first | (refine wpList_clr rfl _ 25 rfl hr (by first | rfl | simp [Act.eval, Act.put]) ?_))
        go_ret
        exact ⟨_, rfl, HFW.out, HOW.out, fun hi h a n c e => h a _ _ (by injection e with e1 _ _; rw [e1])⟩
  · have e1 : thI client tag qs = -1 := if_neg hix
    rw [e1] at HIX
    have hnone : (qs.filter fun q => !thB client tag q) = qs := List.filter_eq_self.2 fun a ha => by
      have h1 : qs.findIdx (thB client tag) = qs.length := by have := List.findIdx_le_length (p := thB client tag) (xs := qs); omega
      have := List.findIdx_eq_length.1 h1 a ha
      simp [this]
    have HFW := hide hF
    rw [← hnone] at HFW
    have HL := hide hnone
    clear hv hF hc ht hix e1 hnone
    go_enter Tryd.func35, Tryd.ntmps35
    go_wp2_with (go_at_call 49; refine HIX.out.mono ?_; rintro en W1 ⟨rfl, hb1⟩)
    go_ret
    have h1 := HFW.out
    rw [HL.out] at h1 ⊢
    exact ⟨_, rfl, h1.below hb1, Only.of_below hb1, fun hi h => h⟩
end Go.Proofs.YtfdefjdogmhinaaDoor.Msg

namespace Go.Proofs.YtfdefjdogmhinaaDoor.Msg
open Go.ChangeShapes Go.WideShapes Go.ChangeAt Go.RowKit
set_option linter.unusedVariables false
set_option linter.unusedSimpArgs false

theorem inC_one (n : Int) : ∀ u ∈ inC n, u.oneCell' = true := by intro u hu; simp [inC] at hu; subst hu; rfl
theorem info_intF : (Tryd.prog.info? 3).map (fun i => (i.zero, i.size, i.bytes)) = some (some (.int .i64 0), 1, 8) := by kernel_rfl
theorem DeskN.keepI {lo B : Nat} {w w' : World} {D M : Nat} {Ls : List Nat} {s : Ds} {lv fv qv sv v : Value} {n : Nat} {xs : List Int} (h : DeskN lo w D M Ls s lv fv qv sv n) (hv : FB inC 1 3 B w v xs) (ho : Only v.ownBlock.toList w w') : DeskN lo w' D M Ls s lv fv qv sv n :=
  ⟨h.desk.keep (TSame.own hv ho (by decide)) (TSame.own hv ho (by decide)) (TSame.own hv ho (by decide)) (TSame.own hv ho (by decide)) (TSame.own hv ho (by decide)) (ho.block M h.desk.map.lt fun hx => by obtain ⟨cur, hb⟩ := hv.box M hx; exact (h.desk.map.ne hb) rfl), h.ffree.keepT (TSame.own hv ho (by decide)), h.sep, h.fqueue.keepT (TSame.own hv ho (by decide))⟩
theorem DeskN.setQueue {lo : Nat} {w w' : World} {D M : Nat} {Ls : List Nat} {s : Ds} {lv fv qv sv qv' : Value} {n : Nat} {qs : List Wn} (h : DeskN lo w D M Ls s lv fv qv sv n) (ho : Only qv.ownBlock.toList w w') (hf : FB wnC 4 33 lo w' qv' qs) :
    DeskN lo (w'.setCell ⟨D, 6, none⟩ qv') D M Ls { s with queue := qs } lv fv qv' sv n := by
  have hb' : Box w' D 58 #[.int .i64 s.epoch, .int .i64 s.next, .int .i64 s.now, lv, fv, .map (some M), qv, sv] := h.desk.box.keepT (TSame.own h.fqueue ho (by decide))
  have o2 : Only [D] w' (w'.setCell ⟨D, 6, none⟩ qv') := (Only.refl _ _).setCell (by simp) _
  exact ⟨h.desk.setQueue h.fqueue ho hf, (h.ffree.keepT (TSame.own h.fqueue ho (by decide))).keepT (TSame.only o2 hb' (by decide)), h.sep, hf.keepT (TSame.only o2 hb' (by decide))⟩
def FgtI (x : Pl) (cl : Int) (tg : ByteArray) (now : Int) (w : World) (en : Ending) (w' : World) : Prop :=
  ∃ cv qv sv lv b1 b2 b3 b4, en = .returned (.tuple #[plV (fgP x cl tg now).1 cv qv, sv, lv]) ∧ PlO w.heap.size w' (fgP x cl tg now).1 cv qv b1 b2 ∧ FO stC 6 w' sv (fgP x cl tg now).2.1 b3 ∧ (∀ t ∈ (fgP x cl tg now).2.1, stZ t) ∧ (∀ d ∈ b3, w.heap.size ≤ d ∧ d ∉ b1 ∧ d ∉ b2) ∧ FO inC 1 w' lv (fgP x cl tg now).2.2 b4 ∧ (∀ d ∈ b4, w.heap.size ≤ d ∧ d ∉ b1 ∧ d ∉ b2 ∧ d ∉ b3) ∧ Below w.heap.size w w'

/-- the loop's state -/
def FgtL (lo : Nat) (w1 W0 : World) (D M : Nat) (Ls : List Nat) (cl : Int) (tg : ByteArray) (s : Ds) (lv qv sv : Value) (n k : Nat) (v : Value) (wx : World) : Prop :=
  (∃ fv, DeskN lo wx D M Ls (fgD cl tg s k) lv fv qv sv n) ∧ FB inC 1 3 W0.heap.size wx v (fgN cl tg (s.conns.take k)) ∧ Below lo w1 wx ∧ W0.heap.size ≤ wx.heap.size

set_option maxRecDepth 100000 in
set_option maxHeartbeats 8000000 in
theorem fgtI_any (x : Pl) (cv qv : Value) (cl : Int) (tg : ByteArray) (now : Int) (w : World) {lo : Nat} (hp : PlAt lo w x cv qv) (htl : tg.size ≤ 9223372036854775807) (hI : Ito w.heap.size w) :
    Calls Tryd.prog 15 #[plV x cv qv, .int .i64 cl, .string tg, .int .i64 now] w (FgtI x cl tg now w) := by
  obtain ⟨a1, c1, hf1, _⟩ := hp.1.form
  obtain ⟨a2, c2, hf2, _⟩ := hp.2.form
  subst hf1 hf2
  have HZC : Hid (∀ i (h : i < x.conns.length), cnZ x.conns[i]) := fun i h => by obtain ⟨_, _, _, _, _, hz⟩ := at_place hp.1 h; exact hz
  have HZQ : Hid (∀ i (h : i < x.queue.length), wnZ x.queue[i]) := fun i h => by obtain ⟨_, _, _, _, _, hz⟩ := at_place hp.2 h; exact hz
  have HOF := hide (fun W (h : PlAt lo W x (.slice a1 x.conns.length c1) (.slice a2 x.queue.length c2)) => deskOf_any x _ _ now W h)
  unfold plV at HOF
  show Calls Tryd.prog 15 #[.agg #[.int .i64 x.epoch, .int .i64 x.next, .slice a1 x.conns.length c1, .slice a2 x.queue.length c2], .int .i64 cl, .string tg, .int .i64 now] w _
  obtain ⟨wA, hwA⟩ : ∃ wA, (((w.alloc (Obj.cells #[.int .i64 x.epoch, .int .i64 x.next, .slice a1 x.conns.length c1, .slice a2 x.queue.length c2] 27)).alloc (Obj.cells #[.int .i64 cl] 3)).alloc (Obj.cells #[.string tg] 9)) = wA := ⟨_, rfl⟩
  obtain ⟨w1, hw1⟩ : ∃ w1, wA.alloc (Obj.cells #[.int .i64 0, .int .i64 0, .slice none 0 0, .slice none 0 0] 27) = w1 := ⟨_, rfl⟩
  have hsA : wA.heap.size = w.heap.size + 1 + 1 + 1 := by rw [← hwA]; simp only [Deep.nblk_alloc]
  have HB1 : Hid (Below w.heap.size w w1) := by rw [← hw1, ← hwA]; exact ((((Below.refl w.heap.size w).alloc (Nat.le_refl _) _).alloc (by simp) _).alloc (by simp; omega) _).alloc (by simp; omega) _
  have HXP : Hid (Box w1 w.heap.size 27 #[.int .i64 x.epoch, .int .i64 x.next, .slice a1 x.conns.length c1, .slice a2 x.queue.length c2]) := by rw [← hw1, ← hwA]; exact (((Box.new w _ _).alloc _).alloc _).alloc _
  have HXC : Hid (Box w1 (w.heap.size + 1) 3 #[.int .i64 cl]) := by
    have := Box.new (w.alloc (Obj.cells #[.int .i64 x.epoch, .int .i64 x.next, .slice a1 x.conns.length c1, .slice a2 x.queue.length c2] 27)) 3 #[.int .i64 cl]
    rw [Deep.nblk_alloc] at this
    rw [← hw1, ← hwA]
    exact (this.alloc _).alloc _
  have HXT : Hid (Box w1 (w.heap.size + 1 + 1) 9 #[.string tg]) := by
    have := Box.new ((w.alloc (Obj.cells #[.int .i64 x.epoch, .int .i64 x.next, .slice a1 x.conns.length c1, .slice a2 x.queue.length c2] 27)).alloc (Obj.cells #[.int .i64 cl] 3)) 9 #[.string tg]
    rw [Deep.nblk_alloc, Deep.nblk_alloc] at this
    rw [← hw1, ← hwA]
    exact this.alloc _
  have HXR : Hid (Box w1 (w.heap.size + 1 + 1 + 1) 27 #[.int .i64 0, .int .i64 0, .slice none 0 0, .slice none 0 0]) := by
    have := Box.new wA 27 #[.int .i64 0, .int .i64 0, .slice none 0 0, .slice none 0 0]
    rw [hw1, hsA] at this
    exact this
  have HPL := hide (hp.below HB1.out)
  have HI1 := hide (hI.up HB1.out)
  have KS : Hid (∀ W, Below w1.heap.size w1 W → (W.cell? ⟨w.heap.size, 0, none⟩ = some (.int .i64 x.epoch) ∧ W.cell? ⟨w.heap.size, 1, none⟩ = some (.int .i64 x.next) ∧ W.cell? ⟨w.heap.size, 2, none⟩ = some (.slice a1 x.conns.length c1) ∧ W.cell? ⟨w.heap.size, 3, none⟩ = some (.slice a2 x.queue.length c2)) ∧ (W.cell? ⟨w.heap.size + 1, 0, none⟩ = some (.int .i64 cl) ∧ W.cell? ⟨w.heap.size + 1 + 1, 0, none⟩ = some (.string tg)) ∧ ((W.cell? ⟨w.heap.size + 1 + 1 + 1, 0, none⟩ = some (.int .i64 0) ∧ W.cell? ⟨w.heap.size + 1 + 1 + 1, 1, none⟩ = some (.int .i64 0) ∧ W.cell? ⟨w.heap.size + 1 + 1 + 1, 2, none⟩ = some (.slice none 0 0) ∧ W.cell? ⟨w.heap.size + 1 + 1 + 1, 3, none⟩ = some (.slice none 0 0)) ∧ W.frozen? ⟨w.heap.size + 1 + 1 + 1, 0, none⟩ = false ∧ W.frozen? ⟨w.heap.size + 1 + 1 + 1, 1, none⟩ = false ∧ W.frozen? ⟨w.heap.size + 1 + 1 + 1, 2, none⟩ = false ∧ W.frozen? ⟨w.heap.size + 1 + 1 + 1, 3, none⟩ = false) ∧ w.heap.size + 1 + 1 + 1 < W.heap.size) := fun W hW =>
    ⟨(HXP.out.below hW).pool.1, ⟨(HXC.out.below hW).cell 0 (by simp), (HXT.out.below hW).cell 0 (by simp)⟩, (HXR.out.below hW).pool, (HXR.out.below hW).lt⟩
  have HB2lt := hide HXR.out.lt
  have HTL := hide htl
  have HCLI := hide (fun W => isClient_any cl W)
  have HTAG := hide (fun W => isTag_any tg W htl)
  have hw1' : (((w.alloc (Obj.cells #[.int .i64 x.epoch, .int .i64 x.next, .slice a1 x.conns.length c1, .slice a2 x.queue.length c2] 27)).alloc (Obj.cells #[.int .i64 cl] 3)).alloc (Obj.cells #[.string tg] 9)).alloc (Obj.cells #[.int .i64 0, .int .i64 0, .slice none 0 0, .slice none 0 0] 27) = w1 := by rw [hwA, hw1]
  clear hp hI hsA hw1 hwA
  have hw1 := hw1'
  clear hw1'
  obtain ⟨⟨p0, p1, p2, p3⟩, ⟨q0, s0q⟩, ⟨⟨r0, r1, r2, r3⟩, f0, f1, f2, f3⟩, hz9⟩ := KS.out w1 (Below.refl _ _)
  have HG : Hid (¬ ((okPl x = true ∧ nowB now = true) ∧ clientB cl = true ∧ tagB tg = true) → ∀ W, Below w1.heap.size w1 W → ∀ x0 x1 x2 x3, FgtI x cl tg now w (.returned (.tuple #[.agg #[.int .i64 0, .int .i64 0, .slice none 0 0, .slice none 0 0], .slice none 0 0, .slice none 0 0])) ((((W.setCell ⟨w.heap.size + 1 + 1 + 1, 0, none⟩ x0).setCell ⟨w.heap.size + 1 + 1 + 1, 1, none⟩ x1).setCell ⟨w.heap.size + 1 + 1 + 1, 2, none⟩ x2).setCell ⟨w.heap.size + 1 + 1 + 1, 3, none⟩ x3)) := fun hok W hW x0 x1 x2 x3 => by
      have e : fgP x cl tg now = (pl0, [], []) := if_neg hok
      unfold FgtI
      rw [e]
      exact ⟨_, _, _, _, [], [], [], [], rfl, PlO.none _ _ _ _ _ _ _ _, ⟨by simp, .inl ⟨_, _, rfl, rfl, rfl⟩⟩, by simp, by simp, ⟨by simp, .inl ⟨_, _, rfl, rfl, rfl⟩⟩, by simp, ((((bjoin hW HB1.out).setCell (by show w.heap.size ≤ w.heap.size + 1 + 1 + 1; omega) _).setCell (by show w.heap.size ≤ w.heap.size + 1 + 1 + 1; omega) _).setCell (by show w.heap.size ≤ w.heap.size + 1 + 1 + 1; omega) _).setCell (by show w.heap.size ≤ w.heap.size + 1 + 1 + 1; omega) _⟩
  by_cases hok : okPl x = true ∧ nowB now = true
  · cases hcb : clientB cl with
    | false =>
      have HN := hide (HG.out (by rw [hcb]; simp))
      rw [hcb] at HCLI
      have HOK := hide hok
      clear hok hcb HG
      go_enter Tryd.func15, Tryd.ntmps15
      go_wp2_with fail
      refine (HOF.out _ HPL.out).mono ?_
      rintro en W ⟨⟨_, _, D, M, Ls, lv, fv0, qv2, n, rfl, hdn, hn⟩ | ⟨hno, _⟩, hbW⟩
      case inr => exact absurd HOK.out hno
      clear hdn
      obtain ⟨⟨p0, p1, p2, p3⟩, ⟨q0, s0q⟩, ⟨⟨r0, r1, r2, r3⟩, f0, f1, f2, f3⟩, hz9⟩ := KS.out W hbW
      go_wp2_with (first | (go_at_call 31; refine (HCLI.out _).mono ?_; rintro e W2 ⟨rfl, hW2⟩; have hW3 := hW2.symm; clear hW2; subst hW3))
      exact bodyPost_ret (v := .tuple #[.agg #[.int .i64 0, .int .i64 0, .slice none 0 0, .slice none 0 0], .slice none 0 0, .slice none 0 0]) (by simp [results, Tryd.results15, go_sem, r0, r1, r2, r3, hz9]) rfl (HN.out _ hbW _ _ _ _)
    | true => cases htb : tagB tg with
      | false =>
        have HN := hide (HG.out (by rw [htb]; simp))
        rw [hcb] at HCLI
        rw [htb] at HTAG
        have HOK := hide hok
        clear hok hcb htb HG
        go_enter Tryd.func15, Tryd.ntmps15
        go_wp2_with fail
        refine (HOF.out _ HPL.out).mono ?_
        rintro en W ⟨⟨_, _, D, M, Ls, lv, fv0, qv2, n, rfl, hdn, hn⟩ | ⟨hno, _⟩, hbW⟩
        case inr => exact absurd HOK.out hno
        clear hdn
        obtain ⟨⟨p0, p1, p2, p3⟩, ⟨q0, s0q⟩, ⟨⟨r0, r1, r2, r3⟩, f0, f1, f2, f3⟩, hz9⟩ := KS.out W hbW
        go_wp2_with (first | (go_at_call 31; refine (HCLI.out _).mono ?_; rintro e W2 ⟨rfl, hW2⟩; have hW3 := hW2.symm; clear hW2; subst hW3) | (go_at_call 32; refine (HTAG.out _).mono ?_; rintro e W2 ⟨rfl, hW2⟩; have hW3 := hW2.symm; clear hW2; subst hW3))
        exact bodyPost_ret (v := .tuple #[.agg #[.int .i64 0, .int .i64 0, .slice none 0 0, .slice none 0 0], .slice none 0 0, .slice none 0 0]) (by simp [results, Tryd.results15, go_sem, r0, r1, r2, r3, hz9]) rfl (HN.out _ hbW _ _ _ _)
      | true =>
        obtain ⟨g1, g2, g3, g4, g5, g6, g7⟩ := okPl_head_of hok.1
        obtain ⟨g8, g9⟩ := nowB_of hok.2
        have HALL := hide (show (okPl x = true ∧ nowB now = true) ∧ clientB cl = true ∧ tagB tg = true from ⟨hok, hcb, htb⟩)
        rw [hcb] at HCLI
        rw [htb] at HTAG
        obtain ⟨s0, hs0⟩ : ∃ s0 : Ds, (⟨x.epoch, x.next, now, x.conns, freeIdx x.conns, x.queue, []⟩ : Ds) = s0 := ⟨_, rfl⟩
        obtain ⟨s1, hs1⟩ : ∃ s1 : Ds, (⟨x.epoch, x.next, now, x.conns, freeIdx x.conns, fgQ cl tg x.queue, []⟩ : Ds) = s1 := ⟨_, rfl⟩
        have HS01 : Hid ({ s0 with queue := fgQ cl tg x.queue } = s1) := by rw [← hs0, ← hs1]; exact rfl
        obtain ⟨Q, hQ⟩ : ∃ Q, (fgQ cl tg x.queue).length = Q := ⟨_, rfl⟩
        have hQl : Q ≤ x.queue.length := by rw [← hQ]; exact fgQ_len cl tg x.queue
        have hEl : (fgD cl tg s1 x.conns.length).queue.length = Q := by rw [← hs1]; exact hQ
        obtain ⟨R, hR⟩ : ∃ R, serveD Q (fgD cl tg s1 x.conns.length) = R := ⟨_, rfl⟩
        have HAP : Hid (fgP x cl tg now = (⟨R.epoch, R.next, R.conns, R.queue⟩, R.sent, fgN cl tg x.conns)) := by
          have hs := served (fgD cl tg s1 x.conns.length) (by have := fgD_serves cl tg now hok.1; rw [hs1] at this; exact this) (by rw [← hs1]; rfl)
          rw [hEl, hR] at hs
          have e2 : serveA now ⟨x.epoch, x.next, x.conns.map (fgC cl tg), fgQ cl tg x.queue⟩ = serveA (fgD cl tg s1 x.conns.length).now ⟨(fgD cl tg s1 x.conns.length).epoch, (fgD cl tg s1 x.conns.length).next, (fgD cl tg s1 x.conns.length).conns, (fgD cl tg s1 x.conns.length).queue⟩ := by
            rw [← hs1, (fgD_all cl tg ⟨x.epoch, x.next, now, x.conns, freeIdx x.conns, fgQ cl tg x.queue, []⟩).1]
            rfl
          unfold fgP
          rw [if_pos HALL.out, e2, hs]
          exact rfl
        have hDZ1 : DsZ s1 := by rw [← hs1]; exact ⟨all_mem HZC.out, fgQ_Z cl tg (all_mem HZQ.out), by simp⟩
        have HZR := hide (serveD_Z Q (fgD cl tg s1 x.conns.length) (by rw [← hs1]; simp only [fgD]; omega) (by rw [← hs1]; simp only [fgD]; omega) (fgD_Z cl tg _ hDZ1))
        rw [hR] at HZR
        have HOK := hide hok
        have HS0 := hide hs0
        have HS1 := hide hs1
        have HR := hide hR
        have HEL := hide hEl
        have HQ := hide hQ
        have HDZ1 := hide hDZ1
        clear hok hs0 hs1 hR hEl hDZ1 hQ HG hcb htb
        go_enter Tryd.func15, Tryd.ntmps15
        go_wp2_with fail
        refine (HOF.out _ HPL.out).mono ?_
        rintro en W0 ⟨⟨_, _, D, M, Ls, lv, fv0, qv2, n, rfl, hdn, hn⟩ | ⟨hno, _⟩, hbW⟩
        case inr => exact absurd HOK.out hno
        rw [HS0.out] at hdn
        have hc0 : s1.conns = x.conns := by rw [← HS1.out]
        have hq0 : s0.queue = x.queue := by rw [← HS0.out]
        have HC0 := hide hc0
        have hLl : Ls.length = x.conns.length := by have := hdn.desk.len; rw [← HS0.out] at this; exact this
        have HLINE : Hid (∀ k (hk : k < Ls.length), ∃ b cap, lv = .slice (some ⟨b, 0, none⟩) Ls.length cap) := fun k hk => by
          obtain ⟨b, cap, e, _⟩ := hdn.desk.lineAt hk
          exact ⟨b, cap, e⟩
        obtain ⟨lb, lcap, hlv⟩ := HLINE.out 0 (by omega)
        subst hlv
        have hfq := hdn.fqueue
        rw [hq0] at hfq
        obtain ⟨aq, cq, hqf, _⟩ := hfq.form
        subst hqf
        obtain ⟨bsq, hfo, hbq, _⟩ := FO.of_own wnC_len hfq (by omega)
        have hwa : WnsAt 0 W0 (.slice aq x.queue.length cq) x.queue := hfo.at wnC_len HZQ.out (fun _ _ => Nat.zero_le _)
        have HDEL := hide (delete_any cl tg x.queue (.slice aq x.queue.length cq) (w.heap.size + 1) (w.heap.size + 1 + 1) W0 hwa hfq (HXC.out.below hbW) (HXT.out.below hbW) (by omega))
        have d6 : W0.cell? ⟨D, 6, none⟩ = some (.slice aq x.queue.length cq) := hdn.desk.cells.1.2.2.2.2.2.2.1
        obtain ⟨⟨p0, p1, p2, p3⟩, ⟨q0, s0q⟩, ⟨⟨r0, r1, r2, r3⟩, f0, f1, f2, f3⟩, hz9⟩ := KS.out W0 hbW
        have HBW := hide hbW
        have HLL := hide hLl
        have HDN := hide hdn
        have HFQ := hide hfq
        clear hbW hdn hc0 HLINE hLl hfq hfo hbq hwa
        go_wp2_with (first | (go_at_call 31; refine (HCLI.out _).mono ?_; rintro e W2 ⟨rfl, hW2⟩; have hW3 := hW2.symm; clear hW2; subst hW3) | (go_at_call 32; refine (HTAG.out _).mono ?_; rintro e W2 ⟨rfl, hW2⟩; have hW3 := hW2.symm; clear hW2; subst hW3))
        refine HDEL.out.mono ?_
        rintro en W1 ⟨v', rfl, hF1, o1, hqb1⟩
        have hF1' : FB wnC 4 33 w1.heap.size W1 v' (fgQ cl tg x.queue) := hF1
        have hbx1 : Box W1 D 58 _ := HDN.out.desk.box.keepT (TSame.own HFQ.out o1 (by decide))
        have t6 : W1.cell? ⟨D, 6, none⟩ = some (.slice aq x.queue.length cq) := hbx1.cell 6 (by simp)
        have tf6 := hbx1.frozen 6
        have hdY := HDN.out.setQueue o1 hF1'
        rw [HS01.out] at hdY
        obtain ⟨av', cv', hsv', _⟩ := hF1'.form
        rw [HQ.out] at hsv'
        subst hsv'
        have HQB0 : Hid (QB (.slice av' Q cv') W0.heap.size) := hqb1 _ HFQ.out.qb
        have hB1' : Below w1.heap.size w1 W1 := HBW.out.trans (o1.below HBW.out.size fun d hd => (HFQ.out.own d hd).1)
        obtain ⟨Y, hY⟩ : ∃ Y, W1.setCell ⟨D, 6, none⟩ (.slice av' Q cv') = Y := ⟨_, rfl⟩
        rw [hY] at hdY
        have HBY : Hid (Below w1.heap.size w1 Y) := by rw [← hY]; exact hB1'.setCell (by have := HDN.out.desk.lows.1; simp; omega) _
        have HYS : Hid (W0.heap.size ≤ Y.heap.size) := by show _ ≤ _; rw [← hY, Deep.nblk_setCell]; exact o1.size
        have HST : Hid (FgtL w1.heap.size w1 W0 D M Ls cl tg s1 (.slice (some ⟨lb, 0, none⟩) Ls.length lcap) (.slice av' Q cv') (.slice none 0 0) n 0 (.slice none 0 0) Y) := ⟨⟨fv0, by rw [fgD_zero]; exact hdY⟩, by simp [fgN, fgGo]; exact FB.nil _ _ _ _ _, HBY.out, HYS.out⟩
        have d3 : Y.cell? ⟨D, 3, none⟩ = some (.slice (some ⟨lb, 0, none⟩) Ls.length lcap) := hdY.desk.cells.1.2.2.2.1
        clear hF1 hF1' hbx1 hdY o1 hqb1 hB1'
        go_wp2_with fail
        go_loopg [47, 13] Ls.length (fun q i v wx => ∃ k : Nat, k ≤ Ls.length ∧ q = Ls.length - k ∧ i = .int .i64 k ∧ FgtL w1.heap.size w1 W0 D M Ls cl tg s1 (.slice (some ⟨lb, 0, none⟩) Ls.length lcap) (.slice av' Q cv') (.slice none 0 0) n k v wx)
        case atStart => exact ⟨0, Nat.zero_le _, rfl, rfl, HST.out⟩
        case round =>
          obtain ⟨k, hk, rfl, rfl, ⟨fvk, hdk⟩, hF, hb, hsz⟩ := hrel
          by_cases hlt : k < Ls.length
          · have hkc : k < s1.conns.length := by rw [HC0.out, ← HLL.out]; exact hlt
            obtain ⟨hkE, hEk⟩ := fgD_at cl tg s1 hkc
            obtain ⟨c, hc⟩ : ∃ c, s1.conns[k] = c := ⟨_, rfl⟩
            obtain ⟨lb2, lcap2, hle, hlbl, hlcell⟩ := hdk.desk.lineAt hlt
            injection hle with hle1 _ hle3
            injection hle1 with hle1
            injection hle1 with hle1 _ _
            subst hle1 hle3
            obtain ⟨L, hL⟩ : ∃ L, Ls[k] = L := ⟨_, rfl⟩
            rw [hL] at hlcell
            have hln := hdk.desk.line k hlt hkE
            rw [hEk, hc, hL] at hln
            obtain ⟨⟨m0, m1, m2, m3, m4, m5, m6, m7⟩, _⟩ := hln.line7
            have hi : (k : Int) < (Ls.length : Int) := by omega
            have lL := hln.lt
            have HK := hide hlt
            have hkb : (k : Int) ≤ 100 := by have := HLL.out; omega
            cases hbz : c.busy with
            | false =>
              rw [hbz] at m0
              have HN : Hid (FgtL w1.heap.size w1 W0 D M Ls cl tg s1 (.slice (some ⟨lb, 0, none⟩) Ls.length lcap) (.slice av' Q cv') (.slice none 0 0) n (k + 1) u13 wr) := by
                have he : fgB cl tg s1.conns[k] = false := by rw [hc]; unfold fgB; rw [hbz]; rfl
                exact ⟨⟨fvk, by rw [fgD_skip cl tg s1 hkc he]; exact hdk⟩, by rw [fgN_skip cl tg s1.conns hkc he]; exact hF, hb, hsz⟩
              clear hdk hF hb hbz hln hc hL
              go_wp2_with fail
              go_roundg (Ls.length - (k + 1))
              case measure => omega
              case rel => exact ⟨k + 1, by have := HK.out; omega, rfl, by have := HK.out; have := HLL.out; go_num, HN.out⟩
            | true =>
              rw [hbz] at m0
              have HTH := hide (theirs_any cl tg c.want (w.heap.size + 1) (w.heap.size + 1 + 1) wr (KS.out wr hb).2.1.1 (KS.out wr hb).2.1.2)
              unfold wnV at HTH
              cases hth : thB cl tg c.want with
              | false =>
                rw [hth] at HTH
                have HN : Hid (∀ W2, Below wr.heap.size wr W2 → FgtL w1.heap.size w1 W0 D M Ls cl tg s1 (.slice (some ⟨lb, 0, none⟩) Ls.length lcap) (.slice av' Q cv') (.slice none 0 0) n (k + 1) u13 W2) := fun W2 hb2 => by
                  have he : fgB cl tg s1.conns[k] = false := by rw [hc]; unfold fgB; rw [hbz, hth]; rfl
                  exact ⟨⟨fvk, by rw [fgD_skip cl tg s1 hkc he]; exact hdk.below hb2⟩, by rw [fgN_skip cl tg s1.conns hkc he]; exact hF.below hb2, bj2 hb2 hb (Nat.le_refl _), by have := hb2.size; omega⟩
                clear hdk hF hb hbz hln hc hL hth
                go_wp2_with (go_at_call 33; refine HTH.out.mono ?_; rintro en W2 ⟨rfl, hb2⟩)
                go_roundg (Ls.length - (k + 1))
                case measure => omega
                case rel => exact ⟨k + 1, by have := HK.out; omega, rfl, by have := HK.out; have := HLL.out; go_num, HN.out _ hb2⟩
              | true =>
                rw [hth] at HTH
                have he : fgB cl tg s1.conns[k] = true := by rw [hc]; unfold fgB; rw [hbz, hth]; rfl
                have hfl : (fgD cl tg s1 k).free.length ≤ 1000 := by
                  have h1 := fgD_free_len cl tg s1 k
                  have h2 : s1.free.length ≤ s1.conns.length := by rw [← HS1.out]; exact freeGo_len 0 _
                  have h3 := HC0.out
                  rw [h3] at h1 h2
                  omega
                have hrel : ∀ W2, Below wr.heap.size wr W2 → _ := fun W2 hb2 => release_any (hdk.below hb2) k hlt hkE (by have := hb.size; have := hb2.size; omega) (by rw [hEk]; exact HDZ1.out.1 _ (List.getElem_mem hkc)) hfl (by have := HLL.out; omega)
                simp only [hEk, hc, hL] at hrel
                unfold wnV at hrel
                have HREL := hide hrel
                have HF := hide hF
                have HB := hide hb
                have HSZ := hide hsz
                have HE := hide he
                have HCC := hide hc
                have HKC := hide hkc
                have HLk := hide hL
                obtain ⟨av, cav, hfv, _⟩ := hF.form
                subst hfv
                obtain ⟨vl, hvl⟩ : ∃ vl, (fgN cl tg (List.take k s1.conns)).length = vl := ⟨_, rfl⟩
                rw [hvl] at HF
                have HVL := hide hvl
                rw [hvl]
                clear hdk hF hb hbz hln hc hL hrel he hvl hth
                go_wp2_with (go_at_call 33; refine HTH.out.mono ?_; rintro en W2 ⟨rfl, hb2⟩)
                refine (HREL.out _ hb2).mono ?_
                rintro en W3 ⟨rfl, fv2, hd1, hb1, ht1⟩
                have hkR : k < (relD (fgD cl tg s1 k) k).conns.length := by rw [← hd1.desk.len]; exact HK.out
                have m7' := (hd1.desk.line k HK.out hkR).line7.1.2.2.2.2.2.2.2
                have lL' := (hd1.desk.line k HK.out hkR).lt
                rw [HLk.out] at m7' lL'
                have hF1 := (HF.out.below hb2).keepT (ht1 3 (by decide) (by decide) (by decide) (by decide))
                have hs1 : W0.heap.size ≤ W3.heap.size := by have := hb1.size; have := HSZ.out; have := hb2.size; omega
                obtain ⟨v', W4, hr, hF2, o2, hat⟩ := app1 Tryd.underlying43 info_intF rfl (by decide) inC_len inC_one hF1 43 (k : Int) hs1 (by have := fgN_len cl tg (s1.conns.take k); rw [List.length_take] at this; have := HLL.out; omega) (by omega)
                have hr2 : (Builtin.append_ #[43, 43] 43 #[.slice av vl cav, .slice (some ⟨W3.heap.size, 0, none⟩) 1 1]).run Tryd.prog (W3.alloc (.cells #[.int .i64 (k : Int)] 3)) = .ok v' W4 := hr
                have hd2 := hd1.keepI hF1 o2
                have HN : Hid (FgtL w1.heap.size w1 W0 D M Ls cl tg s1 (.slice (some ⟨lb, 0, none⟩) Ls.length lcap) (.slice av' Q cv') (.slice none 0 0) n (k + 1) v' W4) := by
                  refine ⟨⟨fv2, by rw [fgD_hit cl tg s1 HKC.out HE.out]; exact hd2⟩, by rw [fgN_hit cl tg s1.conns HKC.out HE.out]; exact hF2, ?_, by have := o2.size; omega⟩
                  have c1 := (bj2 hb2 HB.out (Nat.le_refl _)).trans hb1
                  exact c1.trans (o2.below c1.size fun d hd => by have := (hF1.own d hd).1; have := HBW.out.size; omega)
                obtain ⟨a5, c5, hf5, _⟩ := hF2.form
                rw [List.length_append, List.length_singleton, HVL.out] at hf5
                subst hf5
                clear hd1 hb1 ht1 hF1 hr hF2 o2 hat hd2
                go_wp2_with (first | (at_builtin; refine wpList_app rfl _ _ 43 rfl hr2 (by first | rfl | simp [Act.eval, Act.put]) (by first | rfl | simp [Act.eval, Act.put]) ?_))
                go_roundg (Ls.length - (k + 1))
                case measure => omega
                case rel => exact ⟨k + 1, by have := HK.out; omega, rfl, by have := HK.out; have := HLL.out; go_num, HN.out⟩
          · have hkl : k = x.conns.length := by rw [← HLL.out]; omega
            subst hkl
            have HF := hide hF
            rw [show s1.conns.take x.conns.length = x.conns by rw [← HC0.out, List.take_length]] at HF
            have HB := hide hb
            have HSZ := hide hsz
            have hE := HS1.out
            have HCALL := hide (serveI_any sendOk hdk.desk (by have := hb.size; omega) (HI1.out.keep hb) (by rw [← hE]; simp only [fgD]; omega) (by rw [← hE]; simp only [fgD]; omega) (by rw [← hE]; simp only [fgD]; omega) (by rw [← hE]; simp only [fgD]; omega) (by rw [← hE]; simp only [fgD]; omega) (by rw [← hE]; simp only [fgD]; omega) (by rw [← hE]; simp [fgD]) (by omega) (by have := HLL.out; omega) (by rw [HEL.out]; omega))
            rw [HEL.out, HR.out] at HCALL
            obtain ⟨av, cav, hfv, _⟩ := HF.out.form
            subst hfv
            clear hdk hF hb hE
            go_wp2_with fail
            refine HCALL.out.mono ?_
            rintro en W6 ⟨rfl, fv6, qv6, sv6, n6, hd6, hb6, ht6, hq6⟩
            have HB6 := hide (HB.out.trans hb6)
            have HF6 := hide (HF.out.keepT (ht6 _ (by decide) (by decide) (by decide) (by decide)))
            have HQ6 := hide (hq6 _ HQB0.out)
            obtain ⟨a8, c8, hsf, _⟩ := hd6.sent.form
            subst hsf
            obtain ⟨D7, hwd7⟩ : ∃ D7, W6.drew = D7 := ⟨_, rfl⟩
            have hk0 : Below W6.heap.size W6 W6.drew := (Below.refl _ _).drew
            have hk1 : Below W6.heap.size W6 D7 := by rw [← hwd7]; exact hk0
            have hd7 := hd6.below hk1
            have HB7 := hide (bj2 hk1 HB6.out (Nat.le_refl _))
            have HF7 := hide (HF6.out.below hk1)
            have KS7 : Hid (∀ X, Below W6.heap.size W6 X → X.cell? ⟨D, 7, none⟩ = some (.slice a8 R.sent.length c8)) := fun X hX => (hd6.below hX).cells.1.2.2.2.2.2.2.2
            have HPI := hide (poolI_any hd7 (mem_all HZR.out.1.1) (mem_all HZR.out.1.2.1) (by have := HLL.out; omega) (by have := HZR.out.2.2.1; rw [HEL.out] at this; omega) HB7.out.size)
            unfold plV at HPI
            have HD7 := hide hd7
            have HNE := hide (show D ≠ w.heap.size + 1 + 1 + 1 from by have := hd7.lows.1; have := HB2lt.out; omega)
            clear hd6 hb6 hd7 ht6 hq6
            go_wp2_with fail
            go_region_held3 (fun X : World => X.cell? ⟨D, 7, none⟩ = some (.slice a8 R.sent.length c8))
              (first | with_reducible exact KS7.out _ hk0 | with_reducible exact KS7.out _ hk1 | with_reducible exact KS7.out _ hS9 | with_reducible exact hS10 _ _ _ _)
              (first | (go_at_call 22; refine HPI.out.mono ?_; rintro e W9 ⟨cv9, qv9, b1, b2, rfl, hpo, hb1, hb2, hb9⟩; obtain ⟨⟨a9, c9, e9⟩, a10, c10, e10⟩ := hpo.at.form; simp only at e9 e10; subst e9 e10; have hS9 : Below W6.heap.size W6 W9 := bjoin hb9 hk1; obtain ⟨_, _, ⟨⟨r0, r1, r2, r3⟩, f0, f1, f2, f3⟩, hz9⟩ := KS.out W9 (bj2 hb9 HB7.out (Nat.le_refl _)); have hS10 : ∀ x0 x1 x2 x3, ((((W9.setCell ⟨w.heap.size + 1 + 1 + 1, 0, none⟩ x0).setCell ⟨w.heap.size + 1 + 1 + 1, 1, none⟩ x1).setCell ⟨w.heap.size + 1 + 1 + 1, 2, none⟩ x2).setCell ⟨w.heap.size + 1 + 1 + 1, 3, none⟩ x3).cell? ⟨D, 7, none⟩ = some (.slice a8 R.sent.length c8) := fun x0 x1 x2 x3 => (cellSame ((four_blk W9 (w.heap.size + 1 + 1 + 1) x0 x1 x2 x3).1 D HNE.out)).trans (KS7.out _ hS9)))
            have HFIN : Hid (∀ x0 x1 x2 x3, FgtI x cl tg now w (.returned (.tuple #[.agg #[.int .i64 R.epoch, .int .i64 R.next, .slice a9 R.conns.length c9, .slice a10 R.queue.length c10], .slice a8 R.sent.length c8, .slice av (fgN cl tg x.conns).length cav])) ((((W9.setCell ⟨w.heap.size + 1 + 1 + 1, 0, none⟩ x0).setCell ⟨w.heap.size + 1 + 1 + 1, 1, none⟩ x1).setCell ⟨w.heap.size + 1 + 1 + 1, 2, none⟩ x2).setCell ⟨w.heap.size + 1 + 1 + 1, 3, none⟩ x3)) := fun x0 x1 x2 x3 => by
              have hO : Only [w.heap.size + 1 + 1 + 1] W9 ((((W9.setCell ⟨w.heap.size + 1 + 1 + 1, 0, none⟩ x0).setCell ⟨w.heap.size + 1 + 1 + 1, 1, none⟩ x1).setCell ⟨w.heap.size + 1 + 1 + 1, 2, none⟩ x2).setCell ⟨w.heap.size + 1 + 1 + 1, 3, none⟩ x3) := ((((Only.refl _ _).setCell (by simp) _).setCell (by simp) _).setCell (by simp) _).setCell (by simp) _
              generalize ((((W9.setCell ⟨w.heap.size + 1 + 1 + 1, 0, none⟩ x0).setCell ⟨w.heap.size + 1 + 1 + 1, 1, none⟩ x1).setCell ⟨w.heap.size + 1 + 1 + 1, 2, none⟩ x2).setCell ⟨w.heap.size + 1 + 1 + 1, 3, none⟩ x3) = X at hO
              obtain ⟨b3, h1, h2, h3, h4, h5, h6⟩ := PoolSent.of4 HD7.out HB1.out HB7.out (B := w.heap.size + 1 + 1 + 1) (by omega) HB2lt.out hpo hb1 hb2 hb9 HZR.out.1.2.2 (by have := HZR.out.2.2.2; rw [← HS1.out] at this; simp [fgD] at this; omega) hO
              obtain ⟨b4, k1, k2, _⟩ := FO.of_own inC_len HF7.out (by have := fgN_len cl tg x.conns; omega)
              have hw1 := HBW.out.size
              have hw0 := HB1.out.size
              have k3 : ∀ d ∈ b4, W0.heap.size ≤ d ∧ d < D7.heap.size ∧ ∃ cur, Box D7 d 3 cur := fun d hd => ⟨(k2 d hd).1, RowC.lt k1 d hd, HF7.out.box d (by rw [(k2 d hd).2]; simp)⟩
              unfold FgtI
              rw [HAP.out]
              refine ⟨_, _, _, _, b1, b2, b3, b4, rfl, h1, h2, h3, h4, RowC.kept (RowC.below k1 hb9) hO.size fun d hd => hO.block d (by have := (k3 d hd).2.1; have := hb9.size; omega) (by have := (k3 d hd).1; have := HB2lt.out; simp; omega), fun d hd => ⟨by have := (k3 d hd).1; omega, fun h => ?_, fun h => ?_, fun h => ?_⟩, h5⟩
              · have := hb1 d h; have := (k3 d hd).2.1; omega
              · have := (hb2 d h).2 _ HQ6.out; have := (k3 d hd).1; omega
              · obtain ⟨c1, e1⟩ := h6 d h
                obtain ⟨_, _, c2, e2⟩ := k3 d hd
                exact (e1.ne e2 (by decide)) rfl
            clear hpo hb1 hb2 hb9 hS9 hS10
            go_wp2_with fail
            exact bodyPost_ret (v := .tuple #[.agg #[.int .i64 R.epoch, .int .i64 R.next, .slice a9 R.conns.length c9, .slice a10 R.queue.length c10], .slice a8 R.sent.length c8, .slice av (fgN cl tg x.conns).length cav]) (by simp [results, Tryd.results15, go_sem, r0, r1, r2, r3, hz9]) rfl (HFIN.out _ _ _ _)
  · have HN := hide (HG.out (fun h => hok h.1))
    clear HG
    go_enter Tryd.func15, Tryd.ntmps15
    go_wp2_with fail
    refine (HOF.out _ HPL.out).mono ?_
    rintro en W ⟨⟨h1, h2, _⟩ | ⟨hno, rfl⟩, hbW⟩
    case inl => exact absurd ⟨h1, h2⟩ hok
    obtain ⟨⟨p0, p1, p2, p3⟩, ⟨q0, s0q⟩, ⟨⟨r0, r1, r2, r3⟩, f0, f1, f2, f3⟩, hz9⟩ := KS.out W hbW
    go_wp2_with fail
    exact bodyPost_ret (v := .tuple #[.agg #[.int .i64 0, .int .i64 0, .slice none 0 0, .slice none 0 0], .slice none 0 0, .slice none 0 0]) (by simp [results, Tryd.results15, go_sem, r0, r1, r2, r3, hz9]) rfl (HN.out _ hbW _ _ _ _)
end Go.Proofs.YtfdefjdogmhinaaDoor.Msg
