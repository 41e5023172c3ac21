import Derived.Test.YtfeccdhadgpnkaaDoorDeskwithDeskServe
import Derived.Test.YtfeccdhadgpnkaaDoorServeSwithAskS
import Derived.Test.YtfeccdhadgpnkaaDoorDeskOfwithDeskOf2
namespace Go.Proofs.YtfeccdhadgpnkaaDoor.Msg
open Go.ChangeShapes Go.WideShapes Go.ChangeAt Go.RowKit
set_option linter.unusedVariables false
set_option linter.unusedSimpArgs false

theorem FV.fo {α : Type} {C : α → List Value} {c : Nat} {e : TypeId} (hC : ∀ x, (C x).length = c) (hc : 0 < c) {lo : Nat} {w : World} {v : Value} {xs : List α} (h : FV C c e lo w v xs) (hl : xs.length ≤ 9223372036854775807) : ∃ bs, FO C c w v xs bs ∧ ∀ b ∈ bs, lo ≤ b ∧ (∃ cur, Box w b e cur) ∧ ∀ hi, QB v hi → b < hi := by
  rcases h with ⟨a, cap, rfl, rfl⟩ | ⟨b, off, cap, cur, rfl, hlo, hb, hcap, hx⟩
  · exact ⟨[], ⟨by simp, .inl ⟨_, _, rfl, rfl, rfl⟩⟩, by simp⟩
  · refine ⟨[b], ⟨hl, .inr ⟨b, off, cap, rfl, hb.lt, rfl, fun i hi => ⟨?_, hb.frozen _⟩⟩⟩, fun d hd => by simp at hd; subst hd; exact ⟨hlo, ⟨cur, hb⟩, fun hi h => h _ _ _ rfl⟩⟩
    have hq : i / c < xs.length := (Nat.div_lt_iff_lt_mul hc).2 hi
    have hm : i % c < c := Nat.mod_lt _ hc
    have e1 : i / c * c + i % c = i := Nat.div_add_mod' i c
    have h1 := hx (i / c) hq (i % c) (by rw [hC]; exact hm)
    rw [Nat.add_assoc, e1] at h1
    have h2 := flat_get hC xs (i / c) (i % c) hq hm
    rw [e1] at h2
    simp only [List.getD_eq_getElem?_getD, h2, Option.getD_some]
    unfold Box at hb
    simp only [World.cell?, hb]
    exact h1
/-- a cell of the row of lines -/
theorem Desk.lineAt {lo : Nat} {w : World} {D M : Nat} {Ls : List Nat} {s : Ds} {lv fv qv sv : Value} {n : Nat} (h : Desk lo w D M Ls s lv fv qv sv n) {k : Nat} (hk : k < Ls.length) : ∃ b cap, lv = .slice (some ⟨b, 0, none⟩) Ls.length cap ∧ b < w.heap.size ∧ w.cell? ⟨b, k, none⟩ = some (.pointer (some ⟨Ls[k], 0, none⟩)) := by
  have h' := h.lrow
  obtain ⟨_, ⟨rfl, h0⟩ | ⟨g, cap, cur, rfl, hg, hs, hc, hm, _⟩⟩ := h.lrow
  · omega
  · refine ⟨g, cap, rfl, by rw [Array.getElem?_eq_some_iff] at hs; exact hs.1, ?_⟩
    have := World.ownsRow.cellAt h' k (by omega)
    rw [this]
    have h2 := flat_get ptrC_len Ls k 0 hk (by omega)
    simp only [Nat.mul_one, Nat.add_zero] at h2
    rw [h2]
    rfl

set_option maxRecDepth 100000 in
set_option maxHeartbeats 6000000 in
theorem poolI_any {lo : Nat} {w : World} {D M : Nat} {Ls : List Nat} {s : Ds} {lv fv qv sv : Value} {n : Nat} (h : Desk lo w D M Ls s lv fv qv sv n) (hz1 : ∀ i (h : i < s.conns.length), cnZ s.conns[i]) (hz2 : ∀ i (h : i < s.queue.length), wnZ s.queue[i]) (hk4 : Ls.length ≤ 100) (hql : s.queue.length ≤ 100) (hlo : lo ≤ w.heap.size) :
    Calls Tryd.prog 44 #[.pointer (some ⟨D, 0, none⟩)] w fun en w' => ∃ cv qv2 b1 b2, en = .returned (plV ⟨s.epoch, s.next, s.conns, s.queue⟩ cv qv2) ∧ PlO lo w' ⟨s.epoch, s.next, s.conns, s.queue⟩ cv qv2 b1 b2 ∧ (∀ d ∈ b1, w.heap.size ≤ d) ∧ (∀ d ∈ b2, (∃ cur, Box w d 38 cur) ∧ ∀ hi, QB qv hi → d < hi) ∧ Below w.heap.size w w' := by
  have HD := hide h
  have HZ1 := hide hz1
  have HZ2 := hide hz2
  have HLEN := hide h.len
  obtain ⟨aq, cq, hqf⟩ := h.queue.form
  obtain ⟨al, cl, hlf, hlc, _⟩ := h.lrow.form
  subst hqf hlf
  obtain ⟨w1, hw1⟩ : ∃ w1, w.alloc (Obj.cells #[.int .i64 0, .int .i64 0, .slice none 0 0, .slice none 0 0] 33) = w1 := ⟨_, rfl⟩
  have hb1 : Below w.heap.size w w1 := by rw [← hw1]; exact (Below.refl _ _).alloc (Nat.le_refl _) _
  have hXR1 : Box w1 w.heap.size 33 #[.int .i64 0, .int .i64 0, .slice none 0 0, .slice none 0 0] := by rw [← hw1]; exact Box.new _ _ _
  have S1 : Hid (∀ X, Below w1.heap.size w1 X → X.cell? ⟨D, 0, none⟩ = some (.int .i64 s.epoch) ∧ X.cell? ⟨D, 1, none⟩ = some (.int .i64 s.next) ∧ X.cell? ⟨D, 6, none⟩ = some (.slice aq s.queue.length cq)) := fun X hX => by
    obtain ⟨⟨d0, d1, d2, d3, d4, d5, d6, d7⟩, _⟩ := (HD.out.below (bjoin hX hb1)).cells
    exact ⟨d0, d1, d6⟩
  have hk0 : Below w1.heap.size w1 w1.drew := (Below.refl _ _).drew
  obtain ⟨D1, hwd⟩ : ∃ D1, w1.drew = D1 := ⟨_, rfl⟩
  have hk1 : Below w1.heap.size w1 D1 := by rw [← hwd]; exact hk0
  have hk2 : ∀ o, Below w1.heap.size w1 (D1.alloc o) := fun o => hk1.alloc hk1.size o
  have hsD1 : D1.heap.size = w.heap.size + 1 := by rw [← hwd, ← hw1]; simp
  obtain ⟨w2, hw2⟩ : ∃ w2, D1.alloc (Obj.cells #[.int .i64 s.epoch, .int .i64 s.next, .slice none 0 0, .slice aq s.queue.length cq] 33) = w2 := ⟨_, rfl⟩
  have hb2 : Below w.heap.size w w2 := by rw [← hw2]; exact bjoin (hk2 _) hb1
  have HB2 := hide hb2
  have HXR2 : Hid (Box w2 w.heap.size 33 #[.int .i64 0, .int .i64 0, .slice none 0 0, .slice none 0 0]) := by rw [← hw2]; exact hXR1.below (hk2 _)
  have HXP2 : Hid (Box w2 (w.heap.size + 1) 33 #[.int .i64 s.epoch, .int .i64 s.next, .slice none 0 0, .slice aq s.queue.length cq]) := by
    have := Box.new D1 33 #[.int .i64 s.epoch, .int .i64 s.next, .slice none 0 0, .slice aq s.queue.length cq]
    rw [hw2, hsD1] at this
    exact this
  have hsz2 : w.heap.size + 2 ≤ w2.heap.size := by rw [← hw2, Deep.nblk_alloc]; omega
  have HSZ2 := hide hsz2
  clear hsz2
  have d3 : w2.cell? ⟨D, 3, none⟩ = some (.slice al Ls.length cl) := (h.below hb2).cells.1.2.2.2.1
  have HW2 := hide hw2
  clear h hb1 hXR1 hb2 hz1 hz2 hw2
  go_enter Tryd.func44, Tryd.ntmps44
  go_wp2_with fail
  go_region_held3 (fun X => X.cell? ⟨D, 0, none⟩ = some (.int .i64 s.epoch) ∧ X.cell? ⟨D, 1, none⟩ = some (.int .i64 s.next) ∧ X.cell? ⟨D, 6, none⟩ = some (.slice aq s.queue.length cq))
    (first | with_reducible exact S1.out _ hk0 | with_reducible exact S1.out _ hk1 | with_reducible exact S1.out _ (hk2 _))
    (first | fail)
  rw [HW2.out]
  go_wp2_with fail
  go_loopg [24] Ls.length (fun q i wx => ∃ (k : Nat) (v : Value), k ≤ Ls.length ∧ q = Ls.length - k ∧ i = .int .i64 k ∧ FB cnC 7 85 (w.heap.size + 2) wx v (s.conns.take k) ∧ Box wx w.heap.size 33 #[.int .i64 0, .int .i64 0, .slice none 0 0, .slice none 0 0] ∧ Box wx (w.heap.size + 1) 33 #[.int .i64 s.epoch, .int .i64 s.next, v, .slice aq s.queue.length cq] ∧ w.heap.size + 2 ≤ wx.heap.size ∧ Below w.heap.size w wx)
  case atStart => exact ⟨0, .slice none 0 0, Nat.zero_le _, rfl, rfl, FB.nil _ _ _ _ _, HXR2.out, HXP2.out, HSZ2.out, HB2.out⟩
  case round =>
    obtain ⟨k, v, hk, rfl, rfl, hF, hX0, hX1, hsz, hb⟩ := hrel
    by_cases hlt : k < Ls.length
    · have hkc : k < s.conns.length := by rw [← HLEN.out]; exact hlt
      have hlk : (s.conns.take k).length = k := by rw [List.length_take]; omega
      obtain ⟨av, cap, hfv, _⟩ := hF.form
      rw [hlk] at hfv
      subst hfv
      obtain ⟨lb, lcap, hle, hlbl, hlcell⟩ := HD.out.lineAt hlt
      injection hle with hle1 _ hle3
      subst hle1 hle3
      have hdr := HD.out.below hb
      have cL : wr.cell? ⟨lb, k, none⟩ = some (.pointer (some ⟨Ls[k], 0, none⟩)) := by rw [hb.cell (p := ⟨lb, k, none⟩) hlbl]; exact hlcell
      obtain ⟨D2, hwd2⟩ : ∃ D2, wr.drew = D2 := ⟨_, rfl⟩
      have oD : Only [] wr D2 := by rw [← hwd2]; exact Only.of_below (Below.refl _ _).drew
      have bD : Below wr.heap.size wr D2 := by rw [← hwd2]; exact (Below.refl _ _).drew
      have hX0D := hX0.only oD (by simp)
      have hX1D := hX1.only oD (by simp)
      have hFD : FB cnC 7 85 (w.heap.size + 2) D2 (.slice av k cap) (s.conns.take k) := hF.only oD (by simp)
      have hbl := (hdr.below bD).line k hlt hkc
      have hszD : w.heap.size + 2 ≤ D2.heap.size := by have := oD.size; omega
      obtain ⟨v', w', hr, hF', hO, hat⟩ := app1 Tryd.underlying30 info_Conn rfl (by decide) cnC_len cnC_one hFD 30 s.conns[k] hszD (by rw [hlk]; omega) (by omega)
      rw [take_snoc s.conns k hkc] at hF'
      obtain ⟨L, hL⟩ : ∃ L, Ls[k] = L := ⟨_, rfl⟩
      rw [hL] at cL hbl
      obtain ⟨x, hx⟩ : ∃ x, s.conns[k] = x := ⟨_, rfl⟩
      rw [hx] at hr hbl
      obtain ⟨⟨g0, g1, g2, g3, g4, g5, g6, _⟩, _⟩ := hbl.line7
      have hlo2 : ∀ d ∈ (Value.slice av k cap).ownBlock.toList, w.heap.size + 2 ≤ d := fun d hd => (hFD.own d hd).1
      have hX0' := hX0D.only hO (fun h => by have := hlo2 _ h; omega)
      have hX1' := hX1D.only hO (fun h => by have := hlo2 _ h; omega)
      have o2 : D2.cell? ⟨w.heap.size + 1, 2, none⟩ = some (.slice av k cap) := hX1D.cell 2 (by simp)
      have t2 : w'.cell? ⟨w.heap.size + 1, 2, none⟩ = some (.slice av k cap) := hX1'.cell 2 (by simp)
      have f2 := hX1'.frozen 2
      have l1 := hX1D.lt
      have lL := hbl.lt
      have HR : Hid (FB cnC 7 85 (w.heap.size + 2) (w'.setCell ⟨w.heap.size + 1, 2, none⟩ v') v' (s.conns.take (k + 1)) ∧ Box (w'.setCell ⟨w.heap.size + 1, 2, none⟩ v') w.heap.size 33 #[.int .i64 0, .int .i64 0, .slice none 0 0, .slice none 0 0] ∧ Box (w'.setCell ⟨w.heap.size + 1, 2, none⟩ v') (w.heap.size + 1) 33 #[.int .i64 s.epoch, .int .i64 s.next, v', .slice aq s.queue.length cq] ∧ w.heap.size + 2 ≤ (w'.setCell ⟨w.heap.size + 1, 2, none⟩ v').heap.size ∧ Below w.heap.size w (w'.setCell ⟨w.heap.size + 1, 2, none⟩ v')) := by
        refine ⟨hF'.set (by simp) _, hX0'.other (by simp) _, hX1'.set 2 _, by rw [Deep.nblk_setCell]; have := hO.size; omega, ?_⟩
        have c1 := bjoin bD hb
        exact (c1.trans (hO.below c1.size fun d hd => by have := hlo2 d hd; omega)).setCell (by simp) _
      obtain ⟨a', cap', hfv, _⟩ := hF'.form
      rw [show (s.conns.take (k + 1)).length = k + 1 by rw [List.length_take]; omega] at hfv
      subst hfv
      have hi : (k : Int) < (Ls.length : Int) := by omega
      have hr2 : (Builtin.append_ #[30, 30] 30 #[.slice av k cap, .slice (some ⟨D2.heap.size, 0, none⟩) 1 1]).run Tryd.prog (D2.alloc (.cells #[.bool x.busy, .string x.control, .int .i64 x.want.client, .string x.want.tag, .string x.want.query, .string x.want.pointer, .int .i64 x.due] 85)) = .ok (.slice a' (k + 1) cap') w' := hr
      clear hF hX0 hX1 hb hdr oD bD hX0D hX1D hFD hbl hO hat hF' hX0' hX1' hr hx hlo2 hlcell
      go_wp2_with fail
      go_region_law (refine step_app rfl _ _ 30 rfl hr2 (by first | rfl | simp [Act.eval, Act.put]) (by first | rfl | simp [Act.eval, Act.put]) ?_)
      all_goals
        go_wp2_with fail
        go_roundg (Ls.length - (k + 1))
        case measure => omega
        case rel => exact ⟨k + 1, _, by omega, rfl, by go_num, HR.out.1, HR.out.2.1, HR.out.2.2.1, HR.out.2.2.2.1, HR.out.2.2.2.2⟩
    · have hkl : k = s.conns.length := by rw [← HLEN.out]; omega
      subst hkl
      rw [List.take_length] at hF
      obtain ⟨av, cap, hfv, _⟩ := hF.form
      subst hfv
      obtain ⟨⟨c0, c1, c2, c3⟩, _⟩ := hX1.pool
      obtain ⟨⟨e0, e1, e2, e3⟩, f0, f1, f2, f3⟩ := hX0.pool
      have hz : w.heap.size < wr.heap.size := hX0.lt
      have HR : Hid (∀ x0 x1 x2 x3, ∃ b1 b2, PlO lo ((((wr.setCell ⟨w.heap.size, 0, none⟩ x0).setCell ⟨w.heap.size, 1, none⟩ x1).setCell ⟨w.heap.size, 2, none⟩ x2).setCell ⟨w.heap.size, 3, none⟩ x3) ⟨s.epoch, s.next, s.conns, s.queue⟩ (.slice av s.conns.length cap) (.slice aq s.queue.length cq) b1 b2 ∧ (∀ d ∈ b1, w.heap.size ≤ d) ∧ (∀ d ∈ b2, (∃ cur, Box w d 38 cur) ∧ ∀ hi, QB (.slice aq s.queue.length cq) hi → d < hi) ∧ Below w.heap.size w ((((wr.setCell ⟨w.heap.size, 0, none⟩ x0).setCell ⟨w.heap.size, 1, none⟩ x1).setCell ⟨w.heap.size, 2, none⟩ x2).setCell ⟨w.heap.size, 3, none⟩ x3)) := fun x0 x1 x2 x3 => by
        have h4 := four_blk wr w.heap.size x0 x1 x2 x3
        have hBl : Below w.heap.size w ((((wr.setCell ⟨w.heap.size, 0, none⟩ x0).setCell ⟨w.heap.size, 1, none⟩ x1).setCell ⟨w.heap.size, 2, none⟩ x2).setCell ⟨w.heap.size, 3, none⟩ x3) := (((hb.setCell (by simp) _).setCell (by simp) _).setCell (by simp) _).setCell (by simp) _
        obtain ⟨b1, r1, r2, _⟩ := FO.of_own cnC_len (hF.keep (w' := ((((wr.setCell ⟨w.heap.size, 0, none⟩ x0).setCell ⟨w.heap.size, 1, none⟩ x1).setCell ⟨w.heap.size, 2, none⟩ x2).setCell ⟨w.heap.size, 3, none⟩ x3)) fun d hd => h4.1 d (by have := (hF.own d hd).1; omega)) (by have := HLEN.out; omega)
        obtain ⟨b2, s1, s2⟩ := FV.fo wnC_len (by omega) HD.out.queue (by omega)
        refine ⟨b1, b2, ⟨r1, RowC.below s1 hBl, fun d hd hd2 => ?_, fun d hd => by have := (r2 d hd).1; omega, fun d hd => (s2 d hd).1, HZ1.out, HZ2.out⟩, fun d hd => by have := (r2 d hd).1; omega, fun d hd => (s2 d hd).2, hBl⟩
        have := (r2 d hd).1
        have := RowC.lt s1 d hd2
        omega
      clear hF hX0 hX1 hb
      go_wp2_with fail
      obtain ⟨b1, b2, hp1, hp2, hp3, hp4⟩ := HR.out (.int .i64 s.epoch) (.int .i64 s.next) (.slice av s.conns.length cap) (.slice aq s.queue.length cq)
      exact bodyPost_ret (v := .agg #[.int .i64 s.epoch, .int .i64 s.next, .slice av s.conns.length cap, .slice aq s.queue.length cq]) (by simp [results, Tryd.results44, go_sem, e0, e1, e2, e3, hz]) rfl ⟨_, _, b1, b2, rfl, hp1, hp2, hp3, hp4⟩
end Go.Proofs.YtfeccdhadgpnkaaDoor.Msg

namespace Go.Proofs.YtfeccdhadgpnkaaDoor.Msg
set_option linter.unusedVariables false
set_option linter.unusedSimpArgs false

theorem freeN_cons_busy {c : Cn} {cs : List Cn} (h : c.busy = true) : freeN (c :: cs) = freeN cs + 1 := by
  unfold freeN
  rw [List.findIdx_cons]
  simp [h]
theorem freeN_cons_free {c : Cn} {cs : List Cn} (h : c.busy = false) : freeN (c :: cs) = 0 := by
  unfold freeN
  rw [List.findIdx_cons]
  simp [h]
theorem freeGo_nil : ∀ (i : Nat) (cs : List Cn), freeGo i cs = [] → freeN cs = cs.length
  | _, [], _ => rfl
  | i, c :: cs, h => by
    simp only [freeGo] at h
    cases hb : c.busy with
    | true =>
      rw [hb] at h
      simp only [if_true] at h
      rw [freeN_cons_busy hb, freeGo_nil (i + 1) cs h, List.length_cons]
    | false => rw [hb] at h; simp at h
theorem freeGo_cons : ∀ (i : Nat) (cs : List Cn) (k : Nat) (fs : List Nat), freeGo i cs = k :: fs → k = i + freeN cs ∧ freeN cs < cs.length ∧ ∀ c' : Cn, c'.busy = true → freeGo i (cs.set (freeN cs) c') = fs
  | _, [], _, _, h => by simp [freeGo] at h
  | i, c :: cs, k, fs, h => by
    simp only [freeGo] at h
    cases hb : c.busy with
    | true =>
      rw [hb] at h
      simp only [if_true] at h
      obtain ⟨h1, h2, h3⟩ := freeGo_cons (i + 1) cs k fs h
      rw [freeN_cons_busy hb]
      refine ⟨by omega, by simp; omega, fun c' hc' => ?_⟩
      simp only [List.set_cons_succ, freeGo, hb, if_true]
      exact h3 c' hc'
    | false =>
      rw [hb] at h
      simp only [Bool.false_eq_true, if_false, List.cons.injEq] at h
      rw [freeN_cons_free hb]
      refine ⟨by omega, by simp, fun c' hc' => ?_⟩
      simp only [List.set_cons_zero, freeGo, hc', if_true]
      exact h.2
/-- the desk serves as the pool does -/
theorem serveD_serve : ∀ (f : Nat) (s : Ds), (s.free = freeIdx s.conns ∨ s.queue = []) →
    (serveD f s).epoch = s.epoch ∧ (serveD f s).now = s.now ∧ (serve f s.now ⟨s.epoch, s.next, s.conns, s.queue⟩).1 = ⟨(serveD f s).epoch, (serveD f s).next, (serveD f s).conns, (serveD f s).queue⟩ ∧ (serveD f s).sent = s.sent ++ (serve f s.now ⟨s.epoch, s.next, s.conns, s.queue⟩).2
  | 0, s, _ => by simp [serveD, serve]
  | f + 1, s, h => by
    cases hq : s.queue with
    | nil =>
      rw [serveD_noqueue _ _ hq, serve_nil _ _ _ rfl, hq]
      simp
    | cons z qs =>
      have hfr : s.free = freeIdx s.conns := by
        rcases h with h | h
        · exact h
        · rw [hq] at h; cases h
      cases hf : s.free with
      | nil =>
        have hn := freeGo_nil 0 s.conns (by rw [hf] at hfr; exact hfr.symm)
        rw [serveD_nofree _ _ hf, serve_full _ _ _ (by simp only; omega), hq]
        simp
      | cons k fs =>
        obtain ⟨h1, h2, h3⟩ := freeGo_cons 0 s.conns k fs (by rw [hf] at hfr; exact hfr.symm)
        rw [serveD_step f s hf hq, serve_step f s.now _ z qs rfl h2]
        have hk : k = freeN s.conns := by omega
        have ih := serveD_serve f (sendP { s with free := fs, queue := qs } k z) (.inl (by
          simp only [sendP]
          rw [hk]
          exact (h3 _ rfl).symm))
        obtain ⟨i1, i2, i3, i4⟩ := ih
        have e : (⟨(sendP { s with free := fs, queue := qs } k z).epoch, (sendP { s with free := fs, queue := qs } k z).next, (sendP { s with free := fs, queue := qs } k z).conns, (sendP { s with free := fs, queue := qs } k z).queue⟩ : Pl) = putP s.now ⟨s.epoch, s.next, s.conns, z :: qs⟩ z qs := by
          simp only [sendP, putP, hk]
        have e2 : (sendP { s with free := fs, queue := qs } k z).now = s.now := rfl
        rw [e, e2] at i3 i4
        refine ⟨i1, i2, i3, ?_⟩
        rw [i4]
        simp [sendP, putS, hk]
end Go.Proofs.YtfeccdhadgpnkaaDoor.Msg
