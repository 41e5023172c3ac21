import Derived.Test.YtfdefjdogmhinaaDoorDeskPoolwithPoolOut
import Derived.Test.YtfdefjdogmhinaaDoorAskIwithDeskOf3
import Derived.Test.YtfdefjdogmhinaaDoorExpPurewithFgtFn
import Derived.Test.YtfdefjdogmhinaaDoorServeSwithAskS
namespace Go.Proofs.YtfdefjdogmhinaaDoor.Msg
open Go.ChangeShapes Go.WideShapes Go.ChangeAt Go.RowKit
set_option linter.unusedVariables false
set_option linter.unusedSimpArgs false

theorem FB.qb {α : Type} {C : α → List Value} {c : Nat} {e : TypeId} {base : Nat} {w : World} {v : Value} {xs : List α} (h : FB C c e base w v xs) : QB v w.heap.size := fun a n cc ev => by
  have h' := h
  obtain ⟨_, ⟨rfl, h0⟩ | ⟨g, cap, cur, rfl, hg, hs, _⟩⟩ := h
  · cases ev
  · injection ev with e1 _ _
    injection e1 with e1
    rw [← e1]
    exact (h'.own g (by simp [Value.ownBlock])).2
/-- a desk stays where a row of wants of later blocks is written -/
theorem DeskN.keepO {lo B : Nat} {w w' : World} {D M : Nat} {Ls : List Nat} {s : Ds} {lv fv qv sv v : Value} {n : Nat} {xs : List Wn} (h : DeskN lo w D M Ls s lv fv qv sv n) (hv : FB wnC 4 33 B w v xs) (ho : Only v.ownBlock.toList w w') (hq : QB qv B) : DeskN lo w' D M Ls s lv fv qv sv n := by
  have hqk : FB wnC 4 33 lo w' qv s.queue := h.fqueue.keep fun d hd => ho.block d (h.fqueue.own d hd).2 fun hd2 => by
    have h1 := (hv.own d hd2).1
    have h2 : d < B := by
      obtain ⟨_, ⟨e0, h0⟩ | ⟨g, cap, cur, e0, hg, hs, _⟩⟩ := h.fqueue
      · rw [e0] at hd; simp [Value.ownBlock] at hd
      · rw [e0] at hd; simp [Value.ownBlock] at hd; subst hd; exact hq _ _ _ e0
    omega
  exact ⟨h.desk.keepQ (TSame.own hv ho (by decide)) (TSame.own hv ho (by decide)) (TSame.own hv ho (by decide)) (FV.of_own wnC_len hqk (Nat.le_refl _)) (TSame.own hv ho (by decide)) (ho.block M h.desk.map.lt fun hx => by obtain ⟨cur, hb⟩ := hv.box M hx; exact (h.desk.map.ne hb) rfl), h.ffree.keepT (TSame.own hv ho (by decide)), h.sep, hqk⟩
def ExpI (x : Pl) (now : Int) (w : World) (en : Ending) (w' : World) : Prop :=
  ∃ cv qv sv lv b1 b2 b3 b4, en = .returned (.tuple #[plV (expP x now).1 cv qv, sv, lv]) ∧ PlO w.heap.size w' (expP x now).1 cv qv b1 b2 ∧ FO stC 6 w' sv (expP x now).2.1 b3 ∧ (∀ t ∈ (expP x now).2.1, stZ t) ∧ (∀ d ∈ b3, w.heap.size ≤ d ∧ d ∉ b1 ∧ d ∉ b2) ∧ FO wnC 4 w' lv (expP x now).2.2 b4 ∧ (∀ t ∈ (expP x now).2.2, wnZ t) ∧ (∀ d ∈ b4, w.heap.size ≤ d ∧ d ∉ b1 ∧ d ∉ b2 ∧ d ∉ b3) ∧ Below w.heap.size w w'

/-- the loop's state -/
def ExpL (lo : Nat) (w1 W0 : World) (D M : Nat) (Ls : List Nat) (now : Int) (s : Ds) (lv qv sv : Value) (n k : Nat) (v : Value) (wx : World) : Prop :=
  (∃ fv, DeskN lo wx D M Ls (expD now s k) lv fv qv sv n) ∧ FB wnC 4 33 W0.heap.size wx v (expW now (s.conns.take k)) ∧ Below lo w1 wx ∧ W0.heap.size ≤ wx.heap.size

set_option maxRecDepth 100000 in
set_option maxHeartbeats 8000000 in
theorem expI_any (x : Pl) (cv qv : Value) (now : Int) (w : World) {lo : Nat} (hp : PlAt lo w x cv qv) (hI : Ito w.heap.size w) :
    Calls Tryd.prog 12 #[plV x cv qv, .int .i64 now] w (ExpI x now w) := by
  obtain ⟨a1, c1, hf1, _⟩ := hp.1.form
  obtain ⟨a2, c2, hf2, _⟩ := hp.2.form
  subst hf1 hf2
  have HZC : Hid (∀ i (h : i < x.conns.length), cnZ x.conns[i]) := fun i h => by obtain ⟨_, _, _, _, _, hz⟩ := at_place hp.1 h; exact hz
  have HZQ : Hid (∀ i (h : i < x.queue.length), wnZ x.queue[i]) := fun i h => by obtain ⟨_, _, _, _, _, hz⟩ := at_place hp.2 h; exact hz
  have HOF := hide (fun W (h : PlAt lo W x (.slice a1 x.conns.length c1) (.slice a2 x.queue.length c2)) => deskOf_any x _ _ now W h)
  unfold plV at HOF
  show Calls Tryd.prog 12 #[.agg #[.int .i64 x.epoch, .int .i64 x.next, .slice a1 x.conns.length c1, .slice a2 x.queue.length c2], .int .i64 now] w _
  obtain ⟨w1, hw1⟩ : ∃ w1, (w.alloc (Obj.cells #[.int .i64 x.epoch, .int .i64 x.next, .slice a1 x.conns.length c1, .slice a2 x.queue.length c2] 27)).alloc (Obj.cells #[.int .i64 0, .int .i64 0, .slice none 0 0, .slice none 0 0] 27) = w1 := ⟨_, rfl⟩
  have HB1 : Hid (Below w.heap.size w w1) := by rw [← hw1]; exact ((Below.refl w.heap.size w).alloc (Nat.le_refl _) _).alloc (by simp) _
  have HXP : Hid (Box w1 w.heap.size 27 #[.int .i64 x.epoch, .int .i64 x.next, .slice a1 x.conns.length c1, .slice a2 x.queue.length c2]) := by rw [← hw1]; exact (Box.new w _ _).alloc _
  have HXR : Hid (Box w1 (w.heap.size + 1) 27 #[.int .i64 0, .int .i64 0, .slice none 0 0, .slice none 0 0]) := by
    have := Box.new (w.alloc (Obj.cells #[.int .i64 x.epoch, .int .i64 x.next, .slice a1 x.conns.length c1, .slice a2 x.queue.length c2] 27)) 27 #[.int .i64 0, .int .i64 0, .slice none 0 0, .slice none 0 0]
    rw [hw1, Deep.nblk_alloc] at this
    exact this
  have HPL := hide (hp.below HB1.out)
  have HI1 := hide (hI.up HB1.out)
  have KS : Hid (∀ W, Below w1.heap.size w1 W → (W.cell? ⟨w.heap.size, 0, none⟩ = some (.int .i64 x.epoch) ∧ W.cell? ⟨w.heap.size, 1, none⟩ = some (.int .i64 x.next) ∧ W.cell? ⟨w.heap.size, 2, none⟩ = some (.slice a1 x.conns.length c1) ∧ W.cell? ⟨w.heap.size, 3, none⟩ = some (.slice a2 x.queue.length c2)) ∧ ((W.cell? ⟨w.heap.size + 1, 0, none⟩ = some (.int .i64 0) ∧ W.cell? ⟨w.heap.size + 1, 1, none⟩ = some (.int .i64 0) ∧ W.cell? ⟨w.heap.size + 1, 2, none⟩ = some (.slice none 0 0) ∧ W.cell? ⟨w.heap.size + 1, 3, none⟩ = some (.slice none 0 0)) ∧ W.frozen? ⟨w.heap.size + 1, 0, none⟩ = false ∧ W.frozen? ⟨w.heap.size + 1, 1, none⟩ = false ∧ W.frozen? ⟨w.heap.size + 1, 2, none⟩ = false ∧ W.frozen? ⟨w.heap.size + 1, 3, none⟩ = false) ∧ w.heap.size + 1 < W.heap.size) := fun W hW =>
    ⟨(HXP.out.below hW).pool.1, (HXR.out.below hW).pool, (HXR.out.below hW).lt⟩
  have HB2lt := hide HXR.out.lt
  clear hp hI
  obtain ⟨⟨p0, p1, p2, p3⟩, ⟨⟨r0, r1, r2, r3⟩, f0, f1, f2, f3⟩, hz9⟩ := KS.out w1 (Below.refl _ _)
  by_cases hok : okPl x = true ∧ nowB now = true
  · obtain ⟨g1, g2, g3, g4, g5, g6, g7⟩ := okPl_head_of hok.1
    obtain ⟨g8, g9⟩ := nowB_of hok.2
    obtain ⟨s0, hs0⟩ : ∃ s0 : Ds, (⟨x.epoch, x.next, now, x.conns, freeIdx x.conns, x.queue, []⟩ : Ds) = s0 := ⟨_, rfl⟩
    have hEl : (expD now s0 x.conns.length).queue.length = x.queue.length := by rw [← hs0]; rfl
    obtain ⟨R, hR⟩ : ∃ R, serveD x.queue.length (expD now s0 x.conns.length) = R := ⟨_, rfl⟩
    have HAP : Hid (expP x now = (⟨R.epoch, R.next, R.conns, R.queue⟩, R.sent, expW now x.conns)) := by
      have hs := served (expD now s0 x.conns.length) (by have := expD_serves now hok.1; rw [hs0] at this; exact this) (by rw [← hs0]; rfl)
      rw [hEl, hR] at hs
      have e2 : serveA now ⟨x.epoch, x.next, x.conns.map (expC now), x.queue⟩ = serveA (expD now s0 x.conns.length).now ⟨(expD now s0 x.conns.length).epoch, (expD now s0 x.conns.length).next, (expD now s0 x.conns.length).conns, (expD now s0 x.conns.length).queue⟩ := by
        rw [← hs0, (expD_all now ⟨x.epoch, x.next, now, x.conns, freeIdx x.conns, x.queue, []⟩).1]
        rfl
      unfold expP
      rw [if_pos hok, e2, hs]
      exact rfl
    have hDZ0 : DsZ s0 := by rw [← hs0]; exact ⟨all_mem HZC.out, all_mem HZQ.out, by simp⟩
    have HZR := hide (serveD_Z x.queue.length (expD now s0 x.conns.length) (by rw [← hs0]; simp only [expD]; omega) (by rw [← hs0]; simp only [expD]; omega) (expD_Z now _ hDZ0))
    rw [hR] at HZR
    have HZL : Hid (∀ t ∈ expW now x.conns, wnZ t) := expW_Z now (all_mem HZC.out)
    have HOK := hide hok
    have HS0 := hide hs0
    have HR := hide hR
    have HEL := hide hEl
    have HDZ0 := hide hDZ0
    clear hok hs0 hR hEl hDZ0
    go_enter Tryd.func12, Tryd.ntmps12
    go_wp2_with fail
    refine (HOF.out _ HPL.out).mono ?_
    rintro en W0 ⟨⟨_, _, D, M, Ls, lv, fv0, qv2, n, rfl, hdn, hn⟩ | ⟨hno, _⟩, hbW⟩
    case inr => exact absurd HOK.out hno
    rw [HS0.out] at hdn
    have hc0 : s0.conns = x.conns := by rw [← HS0.out]
    have HC0 := hide hc0
    have hLl : Ls.length = x.conns.length := by rw [← hc0]; exact hdn.desk.len
    have HQB0 := hide hdn.fqueue.qb
    have HST : Hid (ExpL w1.heap.size w1 W0 D M Ls now s0 lv qv2 (.slice none 0 0) n 0 (.slice none 0 0) W0) := ⟨⟨fv0, by rw [expD_zero]; exact hdn⟩, by simp [expW]; exact FB.nil _ _ _ _ _, hbW, Nat.le_refl _⟩
    have HLINE : Hid (∀ k (hk : k < Ls.length), ∃ b cap, lv = .slice (some ⟨b, 0, none⟩) Ls.length cap) := fun k hk => by
      obtain ⟨b, cap, e, _⟩ := hdn.desk.lineAt hk
      exact ⟨b, cap, e⟩
    obtain ⟨lb, lcap, hlv⟩ := HLINE.out 0 (by omega)
    subst hlv
    have d3 : W0.cell? ⟨D, 3, none⟩ = some (.slice (some ⟨lb, 0, none⟩) Ls.length lcap) := hdn.desk.cells.1.2.2.2.1
    have HBW := hide hbW
    have HLL := hide hLl
    clear hbW hdn hc0 HLINE hLl
    go_wp2_with fail
    go_loopg [22, 8] Ls.length (fun q i v wx => ∃ k : Nat, k ≤ Ls.length ∧ q = Ls.length - k ∧ i = .int .i64 k ∧ ExpL w1.heap.size w1 W0 D M Ls now s0 (.slice (some ⟨lb, 0, none⟩) Ls.length lcap) qv2 (.slice none 0 0) n k v wx)
    case atStart => exact ⟨0, Nat.zero_le _, rfl, rfl, HST.out⟩
    case round =>
      obtain ⟨k, hk, rfl, rfl, ⟨fvk, hdk⟩, hF, hb, hsz⟩ := hrel
      by_cases hlt : k < Ls.length
      · have hkc : k < s0.conns.length := by rw [HC0.out, ← HLL.out]; exact hlt
        obtain ⟨hkE, hEk⟩ := expD_at now s0 hkc
        obtain ⟨c, hc⟩ : ∃ c, s0.conns[k] = c := ⟨_, rfl⟩
        obtain ⟨lb2, lcap2, hle, hlbl, hlcell⟩ := hdk.desk.lineAt hlt
        injection hle with hle1 _ hle3
        injection hle1 with hle1
        injection hle1 with hle1 _ _
        subst hle1 hle3
        obtain ⟨L, hL⟩ : ∃ L, Ls[k] = L := ⟨_, rfl⟩
        rw [hL] at hlcell
        have hln := hdk.desk.line k hlt hkE
        rw [hEk, hc, hL] at hln
        obtain ⟨⟨m0, m1, m2, m3, m4, m5, m6, m7⟩, _⟩ := hln.line7
        have hi : (k : Int) < (Ls.length : Int) := by omega
        have lL := hln.lt
        have HK := hide hlt
        have hkb : (k : Int) ≤ 100 := by have := HLL.out; omega
        cases hbz : c.busy with
        | false =>
          rw [hbz] at m0
          have HN : Hid (ExpL w1.heap.size w1 W0 D M Ls now s0 (.slice (some ⟨lb, 0, none⟩) Ls.length lcap) qv2 (.slice none 0 0) n (k + 1) u8 wr) := by
            have he : expB now s0.conns[k] = false := by rw [hc]; unfold expB; rw [hbz]; rfl
            exact ⟨⟨fvk, by rw [expD_skip now s0 hkc he]; exact hdk⟩, by rw [expW_skip now s0.conns hkc he]; exact hF, hb, hsz⟩
          clear hdk hF hb hbz hln hc hL
          go_wp2_with fail
          go_roundg (Ls.length - (k + 1))
          case measure => omega
          case rel => exact ⟨k + 1, by have := HK.out; omega, rfl, by have := HK.out; have := HLL.out; go_num, HN.out⟩
        | true =>
          rw [hbz] at m0
          by_cases hdue : c.due ≤ now
          · have he : expB now s0.conns[k] = true := by rw [hc]; unfold expB; rw [hbz]; simpa using hdue
            have hfl : (expD now s0 k).free.length ≤ 1000 := by
              have h1 := expD_free_len now s0 k
              have h2 : s0.free.length ≤ s0.conns.length := by rw [← HS0.out]; exact freeGo_len 0 _
              have h3 := HC0.out
              rw [h3] at h1 h2
              omega
            have hrel := release_any hdk k hlt hkE (by have := hb.size; omega) (by rw [hEk]; exact HDZ0.out.1 _ (List.getElem_mem hkc)) hfl (by have := HLL.out; omega)
            simp only [hEk, hc, hL] at hrel
            unfold wnV at hrel
            have HREL := hide hrel
            have HF := hide hF
            have HB := hide hb
            have HSZ := hide hsz
            have HE := hide he
            have HCC := hide hc
            have HKC := hide hkc
            obtain ⟨av, cav, hfv, _⟩ := hF.form
            subst hfv
            obtain ⟨vl, hvl⟩ : ∃ vl, (expW now (List.take k s0.conns)).length = vl := ⟨_, rfl⟩
            rw [hvl] at HF
            have HVL := hide hvl
            rw [hvl]
            clear hdk hF hb hbz hln hc hL hrel he hvl
            go_wp2_with fail
            refine HREL.out.mono ?_
            rintro en W1 ⟨rfl, fv2, hd1, hb1, ht1⟩
            have hF1 := HF.out.keepT (ht1 _ (by decide) (by decide) (by decide) (by decide))
            have hs1 : W0.heap.size ≤ W1.heap.size := by have := hb1.size; have := HSZ.out; omega
            obtain ⟨v', W2, hr, hF2, o2, hat⟩ := app1 Tryd.underlying25 info_Want rfl (by decide) wnC_len wnC_one hF1 25 c.want hs1 (by have := expW_len now (s0.conns.take k); rw [List.length_take] at this; have := HLL.out; omega) (by omega)
            have hr2 : (Builtin.append_ #[25, 25] 25 #[.slice av vl cav, .slice (some ⟨W1.heap.size, 0, none⟩) 1 1]).run Tryd.prog (W1.alloc (.cells #[.int .i64 c.want.client, .string c.want.tag, .string c.want.query, .string c.want.pointer] 33)) = .ok v' W2 := hr
            have hd2 := hd1.keepO hF1 o2 HQB0.out
            have HN : Hid (ExpL w1.heap.size w1 W0 D M Ls now s0 (.slice (some ⟨lb, 0, none⟩) Ls.length lcap) qv2 (.slice none 0 0) n (k + 1) v' W2) := by
              refine ⟨⟨fv2, by rw [expD_hit now s0 HKC.out HE.out]; exact hd2⟩, by rw [expW_hit now s0.conns HKC.out HE.out, HCC.out]; exact hF2, ?_, by have := o2.size; omega⟩
              have c1 := HB.out.trans hb1
              exact c1.trans (o2.below c1.size fun d hd => by have := (hF1.own d hd).1; have := HBW.out.size; omega)
            obtain ⟨a5, c5, hf5, _⟩ := hF2.form
            rw [List.length_append, List.length_singleton, HVL.out] at hf5
            subst hf5
            clear hd1 hb1 ht1 hF1 hr hF2 o2 hat hd2
            go_wp2_with (first | (at_builtin; refine wpList_app rfl _ _ 25 rfl hr2 (by first | rfl | simp [Act.eval, Act.put]) (by first | rfl | simp [Act.eval, Act.put]) ?_))
            go_roundg (Ls.length - (k + 1))
            case measure => omega
            case rel => exact ⟨k + 1, by have := HK.out; omega, rfl, by have := HK.out; have := HLL.out; go_num, HN.out⟩
          · have HN : Hid (ExpL w1.heap.size w1 W0 D M Ls now s0 (.slice (some ⟨lb, 0, none⟩) Ls.length lcap) qv2 (.slice none 0 0) n (k + 1) u8 wr) := by
              have he : expB now s0.conns[k] = false := by rw [hc]; unfold expB; rw [hbz]; simpa using hdue
              exact ⟨⟨fvk, by rw [expD_skip now s0 hkc he]; exact hdk⟩, by rw [expW_skip now s0.conns hkc he]; exact hF, hb, hsz⟩
            clear hdk hF hb hbz hln hc hL
            go_wp2_with fail
            go_roundg (Ls.length - (k + 1))
            case measure => omega
            case rel => exact ⟨k + 1, by have := HK.out; omega, rfl, by have := HK.out; have := HLL.out; go_num, HN.out⟩
      · have hkl : k = x.conns.length := by rw [← HLL.out]; omega
        subst hkl
        have HF := hide hF
        rw [show s0.conns.take x.conns.length = x.conns by rw [← HC0.out, List.take_length]] at HF
        have HB := hide hb
        have HSZ := hide hsz
        have HQBk := hide (fun hi (h : QB qv2 hi) => h)
        have hE := HS0.out
        have HCALL := hide (serveI_any sendOk hdk.desk (by have := hb.size; omega) (HI1.out.keep hb) (by rw [← hE]; simp only [expD]; omega) (by rw [← hE]; simp only [expD]; omega) (by rw [← hE]; simp only [expD]; omega) (by rw [← hE]; simp only [expD]; omega) (by rw [← hE]; simp only [expD]; omega) (by rw [← hE]; simp only [expD]; omega) (by rw [← hE]; simp [expD]) (by omega) (by have := HLL.out; omega) (by rw [HEL.out]; omega))
        rw [HEL.out, HR.out] at HCALL
        obtain ⟨av, cav, hfv, _⟩ := HF.out.form
        subst hfv
        clear hdk hF hb hE
        go_wp2_with fail
        refine HCALL.out.mono ?_
        rintro en W6 ⟨rfl, fv6, qv6, sv6, n6, hd6, hb6, ht6, hq6⟩
        have HB6 := hide (HB.out.trans hb6)
        have HF6 := hide (HF.out.keepT (ht6 _ (by decide) (by decide) (by decide) (by decide)))
        have HQ6 := hide (hq6 _ HQB0.out)
        obtain ⟨a8, c8, hsf, _⟩ := hd6.sent.form
        subst hsf
        obtain ⟨D7, hwd7⟩ : ∃ D7, W6.drew = D7 := ⟨_, rfl⟩
        have hk0 : Below W6.heap.size W6 W6.drew := (Below.refl _ _).drew
        have hk1 : Below W6.heap.size W6 D7 := by rw [← hwd7]; exact hk0
        have hd7 := hd6.below hk1
        have HB7 := hide (bj2 hk1 HB6.out (Nat.le_refl _))
        have HF7 := hide (HF6.out.below hk1)
        have KS7 : Hid (∀ X, Below W6.heap.size W6 X → X.cell? ⟨D, 7, none⟩ = some (.slice a8 R.sent.length c8)) := fun X hX => (hd6.below hX).cells.1.2.2.2.2.2.2.2
        have HPI := hide (poolI_any hd7 (mem_all HZR.out.1.1) (mem_all HZR.out.1.2.1) (by have := HLL.out; omega) (by have := HZR.out.2.2.1; rw [HEL.out] at this; omega) HB7.out.size)
        unfold plV at HPI
        have HD7 := hide hd7
        have HNE := hide (show D ≠ w.heap.size + 1 from by have := hd7.lows.1; have := HB2lt.out; omega)
        clear hd6 hb6 hd7 ht6 hq6
        go_wp2_with fail
        go_region_held3 (fun X : World => X.cell? ⟨D, 7, none⟩ = some (.slice a8 R.sent.length c8))
          (first | with_reducible exact KS7.out _ hk0 | with_reducible exact KS7.out _ hk1 | with_reducible exact KS7.out _ hS9 | with_reducible exact hS10 _ _ _ _)
          (first | (go_at_call 22; refine HPI.out.mono ?_; rintro e W9 ⟨cv9, qv9, b1, b2, rfl, hpo, hb1, hb2, hb9⟩; obtain ⟨⟨a9, c9, e9⟩, a10, c10, e10⟩ := hpo.at.form; simp only at e9 e10; subst e9 e10; have hS9 : Below W6.heap.size W6 W9 := bjoin hb9 hk1; obtain ⟨_, ⟨⟨r0, r1, r2, r3⟩, f0, f1, f2, f3⟩, hz9⟩ := KS.out W9 (bj2 hb9 HB7.out (Nat.le_refl _)); have hS10 : ∀ x0 x1 x2 x3, ((((W9.setCell ⟨w.heap.size + 1, 0, none⟩ x0).setCell ⟨w.heap.size + 1, 1, none⟩ x1).setCell ⟨w.heap.size + 1, 2, none⟩ x2).setCell ⟨w.heap.size + 1, 3, none⟩ x3).cell? ⟨D, 7, none⟩ = some (.slice a8 R.sent.length c8) := fun x0 x1 x2 x3 => (cellSame ((four_blk W9 (w.heap.size + 1) x0 x1 x2 x3).1 D HNE.out)).trans (KS7.out _ hS9)))
        have HFIN : Hid (∀ x0 x1 x2 x3, ExpI x now w (.returned (.tuple #[.agg #[.int .i64 R.epoch, .int .i64 R.next, .slice a9 R.conns.length c9, .slice a10 R.queue.length c10], .slice a8 R.sent.length c8, .slice av (expW now x.conns).length cav])) ((((W9.setCell ⟨w.heap.size + 1, 0, none⟩ x0).setCell ⟨w.heap.size + 1, 1, none⟩ x1).setCell ⟨w.heap.size + 1, 2, none⟩ x2).setCell ⟨w.heap.size + 1, 3, none⟩ x3)) := fun x0 x1 x2 x3 => by
          have hO : Only [w.heap.size + 1] W9 ((((W9.setCell ⟨w.heap.size + 1, 0, none⟩ x0).setCell ⟨w.heap.size + 1, 1, none⟩ x1).setCell ⟨w.heap.size + 1, 2, none⟩ x2).setCell ⟨w.heap.size + 1, 3, none⟩ x3) := ((((Only.refl _ _).setCell (by simp) _).setCell (by simp) _).setCell (by simp) _).setCell (by simp) _
          generalize ((((W9.setCell ⟨w.heap.size + 1, 0, none⟩ x0).setCell ⟨w.heap.size + 1, 1, none⟩ x1).setCell ⟨w.heap.size + 1, 2, none⟩ x2).setCell ⟨w.heap.size + 1, 3, none⟩ x3) = X at hO
          obtain ⟨b3, h1, h2, h3, h4, h5, h6⟩ := PoolSent.of4 HD7.out HB1.out HB7.out (B := w.heap.size + 1) (by omega) HB2lt.out hpo hb1 hb2 hb9 HZR.out.1.2.2 (by have := HZR.out.2.2.2; rw [← HS0.out] at this; simp [expD] at this; omega) hO
          obtain ⟨b4, k1, k2, _⟩ := FO.of_own wnC_len HF7.out (by have := expW_len now x.conns; omega)
          have hw1 := HBW.out.size
          have hw0 := HB1.out.size
          have k3 : ∀ d ∈ b4, W0.heap.size ≤ d ∧ d < D7.heap.size ∧ ∃ cur, Box D7 d 33 cur := fun d hd => ⟨(k2 d hd).1, RowC.lt k1 d hd, HF7.out.box d (by rw [(k2 d hd).2]; simp)⟩
          unfold ExpI
          rw [HAP.out]
          refine ⟨_, _, _, _, b1, b2, b3, b4, rfl, h1, h2, h3, h4, RowC.kept (RowC.below k1 hb9) hO.size fun d hd => hO.block d (by have := (k3 d hd).2.1; have := hb9.size; omega) (by have := (k3 d hd).1; have := HB2lt.out; simp; omega), HZL.out, fun d hd => ⟨by have := (k3 d hd).1; omega, fun h => ?_, fun h => ?_, fun h => ?_⟩, h5⟩
          · have := hb1 d h; have := (k3 d hd).2.1; omega
          · have := (hb2 d h).2 _ HQ6.out; have := (k3 d hd).1; omega
          · obtain ⟨c1, e1⟩ := h6 d h
            obtain ⟨_, _, c2, e2⟩ := k3 d hd
            exact (e1.ne e2 (by decide)) rfl
        clear hpo hb1 hb2 hb9 hS9 hS10
        go_wp2_with fail
        exact bodyPost_ret (v := .tuple #[.agg #[.int .i64 R.epoch, .int .i64 R.next, .slice a9 R.conns.length c9, .slice a10 R.queue.length c10], .slice a8 R.sent.length c8, .slice av (expW now x.conns).length cav]) (by simp [results, Tryd.results12, go_sem, r0, r1, r2, r3, hz9]) rfl (HFIN.out _ _ _ _)
  · have HG : Hid (∀ W, Below w1.heap.size w1 W → ∀ x0 x1 x2 x3, ExpI x now w (.returned (.tuple #[.agg #[.int .i64 0, .int .i64 0, .slice none 0 0, .slice none 0 0], .slice none 0 0, .slice none 0 0])) ((((W.setCell ⟨w.heap.size + 1, 0, none⟩ x0).setCell ⟨w.heap.size + 1, 1, none⟩ x1).setCell ⟨w.heap.size + 1, 2, none⟩ x2).setCell ⟨w.heap.size + 1, 3, none⟩ x3)) := fun W hW x0 x1 x2 x3 => by
      have e : expP x now = (pl0, [], []) := if_neg hok
      unfold ExpI
      rw [e]
      exact ⟨_, _, _, _, [], [], [], [], rfl, PlO.none _ _ _ _ _ _ _ _, ⟨by simp, .inl ⟨_, _, rfl, rfl, rfl⟩⟩, by simp, by simp, ⟨by simp, .inl ⟨_, _, rfl, rfl, rfl⟩⟩, by simp, by simp, ((((bjoin hW HB1.out).setCell (by simp) _).setCell (by simp) _).setCell (by simp) _).setCell (by simp) _⟩
    go_enter Tryd.func12, Tryd.ntmps12
    go_wp2_with fail
    refine (HOF.out _ HPL.out).mono ?_
    rintro en W ⟨⟨h1, h2, _⟩ | ⟨hno, rfl⟩, hbW⟩
    case inl => exact absurd ⟨h1, h2⟩ hok
    obtain ⟨⟨p0, p1, p2, p3⟩, ⟨⟨r0, r1, r2, r3⟩, f0, f1, f2, f3⟩, hz9⟩ := KS.out W hbW
    have HBW := hide hbW
    clear hbW
    go_wp2_with fail
    exact bodyPost_ret (v := .tuple #[.agg #[.int .i64 0, .int .i64 0, .slice none 0 0, .slice none 0 0], .slice none 0 0, .slice none 0 0]) (by simp [results, Tryd.results12, go_sem, r0, r1, r2, r3, hz9]) rfl (HG.out _ HBW.out _ _ _ _)
end Go.Proofs.YtfdefjdogmhinaaDoor.Msg

namespace Go.Proofs.YtfdefjdogmhinaaDoor.Msg
open Go.ChangeShapes Go.WideShapes Go.ChangeAt Go.RowKit
set_option linter.unusedVariables false
set_option linter.unusedSimpArgs false

def expCs (now : Int) (cs : List Cn) (k : Nat) : List Cn := (cs.take k).map (expC now) ++ cs.drop k
theorem expCs_of (now : Int) (cs : List Cn) (k : Nat) : expCs now cs k = (expD now ⟨0, 0, 0, cs, [], [], []⟩ k).conns := rfl
theorem expCs_len (now : Int) (cs : List Cn) (k : Nat) : (expCs now cs k).length = cs.length := by rw [expCs_of, expD_len]
theorem expCs_at (now : Int) (cs : List Cn) {k : Nat} (hk : k < cs.length) : ∃ h : k < (expCs now cs k).length, (expCs now cs k)[k] = cs[k] := expD_at now ⟨0, 0, 0, cs, [], [], []⟩ hk
theorem expCs_skip (now : Int) (cs : List Cn) {k : Nat} (hk : k < cs.length) (hb : expB now cs[k] = false) : expCs now cs (k + 1) = expCs now cs k := by rw [expCs_of, expCs_of, expD_skip now _ hk hb]
theorem expCs_hit (now : Int) (cs : List Cn) {k : Nat} (hk : k < cs.length) (hb : expB now cs[k] = true) : expCs now cs (k + 1) = (expCs now cs k).set k cn0 := by rw [expCs_of, expCs_of, expD_hit now _ hk hb]; rfl
theorem expCs_all (now : Int) (cs : List Cn) : expCs now cs cs.length = cs.map (expC now) := (expD_all now ⟨0, 0, 0, cs, [], [], []⟩).1
theorem expCs_zero (now : Int) (cs : List Cn) : expCs now cs 0 = cs := by simp [expCs]
theorem expCs_Z (now : Int) {cs : List Cn} (k : Nat) (h : ∀ c ∈ cs, cnZ c) : ∀ c ∈ expCs now cs k, cnZ c := (expD_Z now (s := ⟨0, 0, 0, cs, [], [], []⟩) k ⟨h, by simp, by simp⟩).1
def ExpSP (x : Pl) (now : Int) (w : World) (en : Ending) (w' : World) : Prop :=
  ∃ cv qv sv lv, en = .returned (.tuple #[plV (expP x now).1 cv qv, sv, lv]) ∧ PlAt 0 w' (expP x now).1 cv qv ∧ StsAt 0 w' sv (expP x now).2.1 ∧ WnsAt 0 w' lv (expP x now).2.2 ∧ Below w.heap.size w w'
theorem WnsAt.zero (lo : Nat) (w : World) (a : Option Addr) (c : Nat) : WnsAt lo w (.slice a 0 c) [] := ⟨by simp, .inl ⟨_, _, rfl, rfl⟩⟩
/-- the loop's state -/
def ExpSL (w : World) (x : Pl) (now : Int) (B8 : Nat) (cv qv : Value) (b1 b2 : List Nat) (X : World) (k : Nat) (v : Value) (wx : World) : Prop :=
  FO cnC 7 wx cv (expCs now x.conns k) b1 ∧ FO wnC 4 wx qv x.queue b2 ∧ FB wnC 4 33 (w.heap.size + 2) wx v (expW now (x.conns.take k)) ∧ (∀ d ∈ v.ownBlock.toList, d ∉ b1 ∧ d ∉ b2) ∧ Box wx B8 27 #[.int .i64 x.epoch, .int .i64 x.next, cv, qv] ∧ Box wx (w.heap.size + 1) 27 #[.int .i64 0, .int .i64 0, .slice none 0 0, .slice none 0 0] ∧ Below w.heap.size w wx ∧ X.heap.size ≤ wx.heap.size

set_option maxRecDepth 100000 in
set_option maxHeartbeats 2000000 in
theorem expS_any (x : Pl) (cv qv : Value) (now : Int) (w : World) {lo : Nat} (hp : PlAt lo w x cv qv) :
    Calls Tryd.prog 13 #[plV x cv qv, .int .i64 now] w (ExpSP x now w) := by
  have hp0 : PlAt 0 w x cv qv := ⟨At.mono mono_flat hp.1 (Nat.zero_le _), At.mono mono_flat hp.2 (Nat.zero_le _)⟩
  obtain ⟨a1, c1, hf1, _⟩ := hp.1.form
  obtain ⟨a2, c2, hf2, _⟩ := hp.2.form
  subst hf1 hf2
  have HZC : Hid (∀ i (h : i < x.conns.length), cnZ x.conns[i]) := fun i h => by obtain ⟨_, _, _, _, _, hz⟩ := at_place hp.1 h; exact hz
  have HZQ : Hid (∀ i (h : i < x.queue.length), wnZ x.queue[i]) := fun i h => by obtain ⟨_, _, _, _, _, hz⟩ := at_place hp.2 h; exact hz
  clear hp
  have HPO := hide (fun W (h : PlAt 0 W x (.slice a1 x.conns.length c1) (.slice a2 x.queue.length c2)) => poolOkS_any x _ _ W h)
  have HNO := hide (fun W => nowS_any now W)
  unfold plV at HPO
  show Calls Tryd.prog 13 #[.agg #[.int .i64 x.epoch, .int .i64 x.next, .slice a1 x.conns.length c1, .slice a2 x.queue.length c2], .int .i64 now] w _
  obtain ⟨w1, hw1⟩ : ∃ w1, ((w.alloc (Obj.cells #[.int .i64 x.epoch, .int .i64 x.next, .slice a1 x.conns.length c1, .slice a2 x.queue.length c2] 27)).alloc (Obj.cells #[.int .i64 0, .int .i64 0, .slice none 0 0, .slice none 0 0] 27)).alloc (Obj.cells #[] 33) = w1 := ⟨_, rfl⟩
  have HB1 : Hid (Below w.heap.size w w1) := by rw [← hw1]; exact (((Below.refl w.heap.size w).alloc (Nat.le_refl _) _).alloc (by simp) _).alloc (by simp; omega) _
  have HXP : Hid (Box w1 w.heap.size 27 #[.int .i64 x.epoch, .int .i64 x.next, .slice a1 x.conns.length c1, .slice a2 x.queue.length c2]) := by rw [← hw1]; exact ((Box.new w _ _).alloc _).alloc _
  have HXR : Hid (Box w1 (w.heap.size + 1) 27 #[.int .i64 0, .int .i64 0, .slice none 0 0, .slice none 0 0]) := by
    have := (Box.new (w.alloc (Obj.cells #[.int .i64 x.epoch, .int .i64 x.next, .slice a1 x.conns.length c1, .slice a2 x.queue.length c2] 27)) 27 #[.int .i64 0, .int .i64 0, .slice none 0 0, .slice none 0 0]).alloc (Obj.cells #[] 33)
    rw [hw1, Deep.nblk_alloc] at this
    exact this
  have HL1 : Hid (FB wnC 4 33 (w.heap.size + 2) w1 (.slice (some ⟨w.heap.size + 1 + 1, 0, none⟩) 0 0) []) := by
    have := FB.lit wnC 4 33 ((w.alloc (Obj.cells #[.int .i64 x.epoch, .int .i64 x.next, .slice a1 x.conns.length c1, .slice a2 x.queue.length c2] 27)).alloc (Obj.cells #[.int .i64 0, .int .i64 0, .slice none 0 0, .slice none 0 0] 27))
    rw [hw1, Deep.nblk_alloc, Deep.nblk_alloc] at this
    exact this
  have HW1s : Hid (w.heap.size + 3 ≤ w1.heap.size) := by show _ ≤ _; rw [← hw1]; simp
  have HPL := hide (hp0.below HB1.out)
  have KS : Hid (∀ W, Below w1.heap.size w1 W → (W.cell? ⟨w.heap.size, 0, none⟩ = some (.int .i64 x.epoch) ∧ W.cell? ⟨w.heap.size, 1, none⟩ = some (.int .i64 x.next) ∧ W.cell? ⟨w.heap.size, 2, none⟩ = some (.slice a1 x.conns.length c1) ∧ W.cell? ⟨w.heap.size, 3, none⟩ = some (.slice a2 x.queue.length c2)) ∧ ((W.cell? ⟨w.heap.size + 1, 0, none⟩ = some (.int .i64 0) ∧ W.cell? ⟨w.heap.size + 1, 1, none⟩ = some (.int .i64 0) ∧ W.cell? ⟨w.heap.size + 1, 2, none⟩ = some (.slice none 0 0) ∧ W.cell? ⟨w.heap.size + 1, 3, none⟩ = some (.slice none 0 0)) ∧ W.frozen? ⟨w.heap.size + 1, 0, none⟩ = false ∧ W.frozen? ⟨w.heap.size + 1, 1, none⟩ = false ∧ W.frozen? ⟨w.heap.size + 1, 2, none⟩ = false ∧ W.frozen? ⟨w.heap.size + 1, 3, none⟩ = false) ∧ w.heap.size + 1 < W.heap.size) := fun W hW =>
    ⟨(HXP.out.below hW).pool.1, (HXR.out.below hW).pool, (HXR.out.below hW).lt⟩
  clear hp0
  obtain ⟨⟨p0, p1, p2, p3⟩, ⟨⟨r0, r1, r2, r3⟩, f0, f1, f2, f3⟩, hz9⟩ := KS.out w1 (Below.refl _ _)
  have HBAD : Hid (¬ (okPl x = true ∧ nowB now = true) → ∀ W, Below w1.heap.size w1 W → ∀ x0 x1 x2 x3, ExpSP x now w (.returned (.tuple #[.agg #[.int .i64 0, .int .i64 0, .slice none 0 0, .slice none 0 0], .slice (some ⟨W.heap.size, 0, none⟩) 0 0, .slice (some ⟨w.heap.size + 1 + 1, 0, none⟩) 0 0])) (((((W.setCell ⟨w.heap.size + 1, 0, none⟩ x0).setCell ⟨w.heap.size + 1, 1, none⟩ x1).setCell ⟨w.heap.size + 1, 2, none⟩ x2).setCell ⟨w.heap.size + 1, 3, none⟩ x3).alloc (Obj.cells #[] 48))) := fun h W hW x0 x1 x2 x3 => by
    have e : expP x now = (pl0, [], []) := if_neg h
    unfold ExpSP
    rw [e]
    have c1 := bjoin hW HB1.out
    exact ⟨_, _, _, _, rfl, PlAt.zero _ _ _ _ _ _ _ _, StsAt.zero _ _ _ _, WnsAt.zero _ _ _ _, ((((c1.setCell (by simp) _).setCell (by simp) _).setCell (by simp) _).setCell (by simp) _).alloc (by simp only [Deep.nblk_setCell]; exact c1.size) _⟩
  cases h1 : okPl x with
  | false =>
    rw [h1] at HPO
    have HG := hide (HBAD.out (by rw [h1]; simp))
    clear h1
    go_enter Tryd.func13, Tryd.ntmps13
    go_wp2_with fail
    refine (HPO.out _ HPL.out).mono ?_
    rintro en W ⟨rfl, hbW⟩
    obtain ⟨⟨p0, p1, p2, p3⟩, ⟨⟨r0, r1, r2, r3⟩, f0, f1, f2, f3⟩, hz9⟩ := KS.out W hbW
    have HBW := hide hbW
    clear hbW
    go_wp2_with fail
    exact bodyPost_ret (v := .tuple #[.agg #[.int .i64 0, .int .i64 0, .slice none 0 0, .slice none 0 0], .slice (some ⟨W.heap.size, 0, none⟩) 0 0, .slice (some ⟨w.heap.size + 1 + 1, 0, none⟩) 0 0]) (by simp [results, Tryd.results13, go_sem, r0, r1, r2, r3, hz9]) rfl (HG.out _ HBW.out _ _ _ _)
  | true =>
    rw [h1] at HPO
    cases h3 : nowB now with
    | false =>
      rw [h3] at HNO
      have HG := hide (HBAD.out (by rw [h3]; simp))
      clear h1 h3
      go_enter Tryd.func13, Tryd.ntmps13
      go_wp2_with fail
      refine (HPO.out _ HPL.out).mono ?_
      rintro en W ⟨rfl, hbW⟩
      obtain ⟨⟨p0, p1, p2, p3⟩, ⟨⟨r0, r1, r2, r3⟩, f0, f1, f2, f3⟩, hz9⟩ := KS.out W hbW
      have HBW := hide hbW
      clear hbW
      go_wp2_with fail
      refine (HNO.out _).mono ?_
      rintro en W3 ⟨rfl, hW3⟩
      rw [hW3]
      clear hW3 W3
      go_wp2_with fail
      exact bodyPost_ret (v := .tuple #[.agg #[.int .i64 0, .int .i64 0, .slice none 0 0, .slice none 0 0], .slice (some ⟨W.heap.size, 0, none⟩) 0 0, .slice (some ⟨w.heap.size + 1 + 1, 0, none⟩) 0 0]) (by simp [results, Tryd.results13, go_sem, r0, r1, r2, r3, hz9]) rfl (HG.out _ HBW.out _ _ _ _)
    | true =>
      rw [h3] at HNO
      obtain ⟨g1, g2, g3, g4, g5, g6, g7⟩ := okPl_head_of h1
      obtain ⟨g8, g9⟩ := nowB_of h3
      have HCP := hide (fun W (h : PlAt 0 W x (.slice a1 x.conns.length c1) (.slice a2 x.queue.length c2)) => copy_any x _ _ W h (by omega) (by omega))
      unfold plV at HCP
      have HAP : Hid (expP x now = ((serveA now ⟨x.epoch, x.next, x.conns.map (expC now), x.queue⟩).1, (serveA now ⟨x.epoch, x.next, x.conns.map (expC now), x.queue⟩).2, expW now x.conns)) := if_pos ⟨h1, h3⟩
      have HSV := hide (fun W cv qv (h : PlAt 0 W ⟨x.epoch, x.next, x.conns.map (expC now), x.queue⟩ cv qv) => serveS_any ⟨x.epoch, x.next, x.conns.map (expC now), x.queue⟩ cv qv now W h g1 g2 g3 g4 (by simp only [List.length_map]; omega) (by simp only; omega) g8 g9)
      unfold plV at HSV
      have e9 : serve x.queue.length now ⟨x.epoch, x.next, x.conns.map (expC now), x.queue⟩ = serveA now ⟨x.epoch, x.next, x.conns.map (expC now), x.queue⟩ := rfl
      simp only [e9] at HSV
      generalize serveA now ⟨x.epoch, x.next, x.conns.map (expC now), x.queue⟩ = R at HSV HAP
      clear h1 h3 HBAD e9
      go_enter Tryd.func13, Tryd.ntmps13
      go_wp2_with fail
      refine (HPO.out _ HPL.out).mono ?_
      rintro en W ⟨rfl, hbW⟩
      obtain ⟨⟨p0, p1, p2, p3⟩, _⟩ := KS.out W hbW
      have HBW := hide hbW
      clear hbW
      go_wp2_with fail
      refine (HNO.out _).mono ?_
      rintro en W3 ⟨rfl, hW3⟩
      rw [hW3]
      clear hW3 W3
      go_wp2_with fail
      refine (HCP.out _ (HPL.out.below HBW.out)).mono ?_
      rintro en W3 ⟨cv3, qv3, b1, b2, rfl, hpo, _, hb3⟩
      obtain ⟨⟨a3, c3, e3⟩, a4, c4, e4⟩ := hpo.at.form
      subst e3 e4
      obtain ⟨X3, hX3⟩ : ∃ X, W3.alloc (Obj.cells #[.int .i64 x.epoch, .int .i64 x.next, .slice a3 x.conns.length c3, .slice a4 x.queue.length c4] 27) = X := ⟨_, rfl⟩
      have hb3a : Below W3.heap.size W3 X3 := by rw [← hX3]; exact (Below.refl _ _).alloc (Nat.le_refl _) _
      have hXO : Box X3 W3.heap.size 27 #[.int .i64 x.epoch, .int .i64 x.next, .slice a3 x.conns.length c3, .slice a4 x.queue.length c4] := by rw [← hX3]; exact Box.new _ _ _
      have hB3 : Below w1.heap.size w1 X3 := bjoin (bjoin hb3a hb3) HBW.out
      have HBL : Hid (∀ d ∈ b1 ++ b2, w1.heap.size ≤ d ∧ d < W3.heap.size) := fun d hd => by
        have hs := HBW.out.size
        rcases List.mem_append.1 hd with h | h
        · exact ⟨by have := hpo.2.2.2.1 d h; omega, RowC.lt hpo.1 d h⟩
        · exact ⟨by have := hpo.2.2.2.2.1 d h; omega, RowC.lt hpo.2.1 d h⟩
      have HDJ := hide hpo.2.2.1
      have HST : Hid (ExpSL w x now W3.heap.size (.slice a3 x.conns.length c3) (.slice a4 x.queue.length c4) b1 b2 X3 0 (.slice (some ⟨w.heap.size + 1 + 1, 0, none⟩) 0 0) X3) := by
        refine ⟨by rw [expCs_zero]; exact RowC.below hpo.1 hb3a, RowC.below hpo.2.1 hb3a, by simp only [expW, List.take_zero, List.filter_nil, List.map_nil]; exact HL1.out.below hB3, fun d hd => ?_, hXO, HXR.out.below hB3, bjoin hB3 HB1.out, Nat.le_refl _⟩
        simp [Value.ownBlock] at hd
        subst hd
        have := HW1s.out
        exact ⟨fun h => by have := (HBL.out _ (List.mem_append.2 (.inl h))).1; omega, fun h => by have := (HBL.out _ (List.mem_append.2 (.inr h))).1; omega⟩
      have HX3s : Hid (W3.heap.size < X3.heap.size) := hXO.lt
      have HB3 := hide hB3
      clear hpo hb3 hb3a hXO hB3 p0 p1 p2 p3
      go_wp2_with fail
      go_loopg [9, 7] x.conns.length (fun q i v wx => ∃ k : Nat, k ≤ x.conns.length ∧ q = x.conns.length - k ∧ i = .int .i64 k ∧ ExpSL w x now W3.heap.size (.slice a3 x.conns.length c3) (.slice a4 x.queue.length c4) b1 b2 X3 k v wx)
      case atStart => exact ⟨0, Nat.zero_le _, rfl, rfl, HST.out⟩
      case round =>
        obtain ⟨k, hk, rfl, rfl, hFC, hFQ, hFL, hdj, hX8, hXR, hb, hsz⟩ := hrel
        obtain ⟨⟨o0, o1, o2, o3⟩, _⟩ := hX8.pool
        by_cases hlt : k < x.conns.length
        · obtain ⟨hkE, hEk⟩ := expCs_at now x.conns hlt
          obtain ⟨c, hc⟩ : ∃ c, x.conns[k] = c := ⟨_, rfl⟩
          have hEB : ∀ b : Bool, (c.busy && decide (c.due ≤ now)) = b → expB now x.conns[k] = b := fun b hb => by rw [hc]; exact hb
          have HEB := hide hEB
          clear hEB
          have hA : At 7 (FR cnC cnZ) 0 wr (.slice a3 x.conns.length c3) (expCs now x.conns k) := FO.at cnC_len hFC (mem_all (expCs_Z now k (all_mem HZC.out))) (fun _ _ => Nat.zero_le _)
          obtain ⟨b, off, rfl, hbl, hel, hz⟩ := at_place hA hkE
          rw [hEk, hc] at hel hz
          have hi : (k : Int) < (x.conns.length : Int) := by omega
          obtain ⟨P, hP⟩ : ∃ P, off + k * 7 = P := ⟨_, rfl⟩
          rw [hP] at hel
          have e0 : wr.cell? ⟨b, P, none⟩ = some (.bool c.busy) := hel 0 (by simp [cnC])
          have e2 : wr.cell? ⟨b, P + 2, none⟩ = some (.int .i64 c.want.client) := hel 2 (by simp [cnC])
          have e3 : wr.cell? ⟨b, P + 3, none⟩ = some (.string c.want.tag) := hel 3 (by simp [cnC])
          have e4 : wr.cell? ⟨b, P + 4, none⟩ = some (.string c.want.query) := hel 4 (by simp [cnC])
          have e5 : wr.cell? ⟨b, P + 5, none⟩ = some (.string c.want.pointer) := hel 5 (by simp [cnC])
          have e6 : wr.cell? ⟨b, P + 6, none⟩ = some (.int .i64 c.due) := hel 6 (by simp [cnC])
          have HK := hide hlt
          cases hbz : c.busy with
          | false =>
            rw [hbz] at e0
            have HN : Hid (ExpSL w x now W3.heap.size (.slice (some ⟨b, off, none⟩) x.conns.length c3) (.slice a4 x.queue.length c4) b1 b2 X3 (k + 1) u7 wr) := by
              have he := HEB.out false (by rw [hbz]; rfl)
              exact ⟨by rw [expCs_skip now x.conns hlt he]; exact hFC, hFQ, by rw [expW_skip now x.conns hlt he]; exact hFL, hdj, hX8, hXR, hb, hsz⟩
            clear hFC hFQ hFL hdj hX8 hXR hb hA hel hz hbz hc
            go_wp2_with fail
            go_roundg (x.conns.length - (k + 1))
            case measure => omega
            case rel => exact ⟨k + 1, by have := HK.out; omega, rfl, by have := HK.out; go_num, HN.out⟩
          | true =>
            rw [hbz] at e0
            by_cases hdue : c.due ≤ now
            · have HE := hide (HEB.out true (by rw [hbz]; simpa using hdue))
              have hvl := expW_len now (x.conns.take k)
              rw [List.length_take] at hvl
              obtain ⟨v', W5, hr, hF5, o5, hat⟩ := app1 Tryd.underlying25 info_Want rfl (by decide) wnC_len wnC_one hFL 25 c.want (by have := HW1s.out; have := HB3.out.size; omega) (by omega) (by omega)
              obtain ⟨av, cav, hfv, _⟩ := hFL.form
              obtain ⟨vl, hvl2⟩ : ∃ vl, (expW now (x.conns.take k)).length = vl := ⟨_, rfl⟩
              rw [hvl2] at hfv
              subst hfv
              have hr2 : (Builtin.append_ #[25, 25] 25 #[.slice av vl cav, .slice (some ⟨wr.heap.size, 0, none⟩) 1 1]).run Tryd.prog (wr.alloc (.cells #[.int .i64 c.want.client, .string c.want.tag, .string c.want.query, .string c.want.pointer] 33)) = .ok v' W5 := hr
              have hb1 : b1 = [b] := by
                obtain ⟨_, ⟨a, cap, e, hn, _⟩ | ⟨b', off', cap', e, hlt', rfl, hcc⟩⟩ := hFC
                · rw [expCs_len] at hn; omega
                · injection e with e1 _ _
                  injection e1 with e1
                  injection e1 with e1 _ _
                  rw [e1]
              have nbo : ∀ d ∈ b1 ++ b2, d ∉ (Value.slice av vl cav).ownBlock.toList := fun d hd h => by
                rcases List.mem_append.1 hd with h1 | h1
                · exact (hdj d h).1 h1
                · exact (hdj d h).2 h1
              have hFC5 : FO cnC 7 W5 (.slice (some ⟨b, off, none⟩) x.conns.length c3) (expCs now x.conns k) b1 := RowC.kept hFC o5.size fun d hd => o5.block d (RowC.lt hFC d hd) (nbo d (List.mem_append.2 (.inl hd)))
              have hFQ5 : FO wnC 4 W5 (.slice a4 x.queue.length c4) x.queue b2 := RowC.kept hFQ o5.size fun d hd => o5.block d (RowC.lt hFQ d hd) (nbo d (List.mem_append.2 (.inr hd)))
              have hX85 := hX8.keepT (TSame.own hFL o5 (by decide))
              have hXR5 := hXR.keepT (TSame.own hFL o5 (by decide))
              have hd5 : ∀ d ∈ v'.ownBlock.toList, d ∉ b1 ∧ d ∉ b2 := fun d hd => by
                rcases hat with h5 | ⟨g, h5, hg⟩
                · rw [h5] at hd; exact hdj d hd
                · rw [h5] at hd
                  simp at hd
                  subst hd
                  exact ⟨fun h => by have := (HBL.out _ (List.mem_append.2 (.inl h))).2; have := HX3s.out; omega, fun h => by have := (HBL.out _ (List.mem_append.2 (.inr h))).2; have := HX3s.out; omega⟩
              have hb5 : Below w.heap.size w W5 := hb.trans (o5.below hb.size fun d hd => by have := (hFL.own d hd).1; omega)
              have hA5 : ∀ j, j < 7 → ∃ u, W5.cell? ⟨b, P + j, none⟩ = some u ∧ W5.frozen? ⟨b, P + j, none⟩ = false := fun j hj => by
                obtain ⟨_, ⟨a, cap, e, hn, _⟩ | ⟨b', off', cap', e, hlt', _, hcc⟩⟩ := hFC5
                · rw [expCs_len] at hn; omega
                · injection e with e1 _ _
                  injection e1 with e1
                  injection e1 with e1 e2 _
                  subst e1 e2
                  rw [expCs_len] at hcc
                  have := hcc (k * 7 + j) (by omega)
                  rw [← Nat.add_assoc, hP] at this
                  exact ⟨_, this⟩
              obtain ⟨u0, n0, z0⟩ := hA5 0 (by omega)
              obtain ⟨u1, n1, z1⟩ := hA5 1 (by omega)
              obtain ⟨u2, n2, z2⟩ := hA5 2 (by omega)
              obtain ⟨u3, n3, z3⟩ := hA5 3 (by omega)
              obtain ⟨u4, n4, z4⟩ := hA5 4 (by omega)
              obtain ⟨u5, n5, z5⟩ := hA5 5 (by omega)
              obtain ⟨u6, n6, z6⟩ := hA5 6 (by omega)
              obtain ⟨Y, hY⟩ : ∃ Y, (((((((W5.setCell ⟨b, P, none⟩ (.bool false)).setCell ⟨b, P + 1, none⟩ (.string ⟨#[]⟩)).setCell ⟨b, P + 2, none⟩ (.int .i64 0)).setCell ⟨b, P + 3, none⟩ (.string ⟨#[]⟩)).setCell ⟨b, P + 4, none⟩ (.string ⟨#[]⟩)).setCell ⟨b, P + 5, none⟩ (.string ⟨#[]⟩)).setCell ⟨b, P + 6, none⟩ (.int .i64 0)) = Y := ⟨_, rfl⟩
              have oY : Only [b] W5 Y := by rw [← hY]; exact (((((((Only.refl _ _).setCell (by simp) _).setCell (by simp) _).setCell (by simp) _).setCell (by simp) _).setCell (by simp) _).setCell (by simp) _).setCell (by simp) _
              have hbB : w1.heap.size ≤ b ∧ b < W3.heap.size := HBL.out b (by rw [hb1]; simp)
              have HN : Hid (ExpSL w x now W3.heap.size (.slice (some ⟨b, off, none⟩) x.conns.length c3) (.slice a4 x.queue.length c4) b1 b2 X3 (k + 1) v' Y) := by
                refine ⟨?_, RowC.kept hFQ5 oY.size fun d hd => oY.block d (RowC.lt hFQ5 d hd) (by simp; exact fun e => HDJ.out b (by rw [hb1]; simp) (e ▸ hd)), ?_, hd5, hX85.only oY (by simp; omega), hXR5.only oY (by simp; have := HW1s.out; omega), hb5.trans (oY.below hb5.size fun d hd => by simp at hd; have := HB1.out.size; omega), by have := oY.size; have := o5.size; omega⟩
                · rw [expCs_hit now x.conns HK.out HE.out]
                  have h7 := FO.set7 (by rw [expCs_len]; exact hFC5) hkE cn0 hP
                  rw [List.length_set, expCs_len] at h7
                  rw [← hY]
                  exact h7
                · rw [expW_hit now x.conns HK.out HE.out, hc]
                  exact hF5.only oY fun d hd h => by simp at h; subst h; exact (hd5 d hd).1 (by rw [hb1]; simp)
              obtain ⟨a5, c5, hf5, _⟩ := hF5.form
              rw [List.length_append, List.length_singleton, hvl2] at hf5
              subst hf5
              obtain ⟨⟨y0, y1, y2, y3⟩, _⟩ := hX85.pool
              have n0' : W5.cell? ⟨b, P, none⟩ = some u0 := n0
              have z0' : W5.frozen? ⟨b, P, none⟩ = false := z0
              clear n0 z0 hA5 hFC hFQ hFL hdj hX8 hXR hb hA hel hz hbz hc hr hF5 o5 hat hFC5 hFQ5 hX85 hXR5 hd5 hb5 oY hvl hvl2 nbo hb1 hEk hkE
              go_wp2_with (first | (at_builtin; refine wpList_app rfl _ _ 25 rfl hr2 (by first | rfl | simp [Act.eval, Act.put]) (by first | rfl | simp [Act.eval, Act.put]) ?_))
              try rw [hY]
              go_roundg (x.conns.length - (k + 1))
              case measure => omega
              case rel => exact ⟨k + 1, by have := HK.out; omega, rfl, by have := HK.out; go_num, HN.out⟩
            · have HN : Hid (ExpSL w x now W3.heap.size (.slice (some ⟨b, off, none⟩) x.conns.length c3) (.slice a4 x.queue.length c4) b1 b2 X3 (k + 1) u7 wr) := by
                have he := HEB.out false (by rw [hbz]; simpa using hdue)
                exact ⟨by rw [expCs_skip now x.conns hlt he]; exact hFC, hFQ, by rw [expW_skip now x.conns hlt he]; exact hFL, hdj, hX8, hXR, hb, hsz⟩
              clear hFC hFQ hFL hdj hX8 hXR hb hA hel hz hbz hc
              go_wp2_with fail
              go_roundg (x.conns.length - (k + 1))
              case measure => omega
              case rel => exact ⟨k + 1, by have := HK.out; omega, rfl, by have := HK.out; go_num, HN.out⟩
        · obtain rfl : k = x.conns.length := by omega
          rw [expCs_all] at hFC
          rw [List.take_length] at hFL
          have hpl : PlAt 0 wr ⟨x.epoch, x.next, x.conns.map (expC now), x.queue⟩ (.slice a3 x.conns.length c3) (.slice a4 x.queue.length c4) := ⟨FO.at cnC_len hFC (mem_all (by rw [← expCs_all]; exact expCs_Z now _ (all_mem HZC.out))) (fun _ _ => Nat.zero_le _), FO.at wnC_len hFQ HZQ.out (fun _ _ => Nat.zero_le _)⟩
          have HLW : Hid (WnsAt 0 wr u7 (expW now x.conns)) := At.mono mono_flat (hFL.at wnC_len (by have := expW_len now x.conns; omega) (mem_all (expW_Z now (all_mem HZC.out)))) (Nat.zero_le _)
          obtain ⟨av, cav, hfv, _⟩ := hFL.form
          subst hfv
          have HPL9 := hide hpl
          have HB9 := hide hb
          have HXR9 := hide hXR
          clear hFC hFQ hFL hdj hX8 hXR hb hpl
          go_wp2_with fail
          refine (HSV.out _ _ _ HPL9.out).mono ?_
          rintro en W6 ⟨cv6, qv6, sv6, rfl, hp6, hs6, hb6⟩
          obtain ⟨⟨a6, c6, e6⟩, a7, c7, e7⟩ := hp6.form
          subst e6 e7
          obtain ⟨a8, c8, e8, _⟩ := hs6.form
          subst e8
          obtain ⟨W6a, hW6a⟩ : ∃ X, W6.alloc (Obj.cells #[.int .i64 R.1.epoch, .int .i64 R.1.next, .slice a6 R.1.conns.length c6, .slice a7 R.1.queue.length c7] 27) = X := ⟨_, rfl⟩
          have hb6a : Below W6.heap.size W6 W6a := by rw [← hW6a]; exact (Below.refl _ _).alloc (Nat.le_refl _) _
          have hXO6 : Box W6a W6.heap.size 27 #[.int .i64 R.1.epoch, .int .i64 R.1.next, .slice a6 R.1.conns.length c6, .slice a7 R.1.queue.length c7] := by rw [← hW6a]; exact Box.new _ _ _
          obtain ⟨⟨t0, t1, t2, t3⟩, _⟩ := hXO6.pool
          have hXR6 := (HXR9.out.below hb6).below hb6a
          obtain ⟨⟨r0, r1, r2, r3⟩, f0, f1, f2, f3⟩ := hXR6.pool
          have hz9 := hXR6.lt
          have HXR6 := hide hXR6
          have HP6 := hide (hp6.below hb6a)
          have HS6 := hide (At.kept kept_flat hs6 hb6a)
          have HL6 := hide (At.kept kept_flat HLW.out (bjoin hb6a hb6))
          have HB6 := hide (bjoin (bjoin hb6a hb6) HB9.out)
          clear hp6 hs6 hb6 hb6a hXO6 hXR6
          go_wp2_with fail
          refine bodyPost_ret (v := .tuple #[.agg #[.int .i64 R.1.epoch, .int .i64 R.1.next, .slice a6 R.1.conns.length c6, .slice a7 R.1.queue.length c7], .slice a8 R.2.length c8, .slice av (expW now x.conns).length cav]) (by simp [results, Tryd.results13, go_sem, r0, r1, r2, r3, hz9]) rfl ?_
          have h4 := four_blk W6a (w.heap.size + 1) (.int .i64 R.1.epoch) (.int .i64 R.1.next) (.slice a6 R.1.conns.length c6) (.slice a7 R.1.queue.length c7)
          unfold ExpSP
          rw [HAP.out]
          refine ⟨.slice a6 R.1.conns.length c6, .slice a7 R.1.queue.length c7, _, _, rfl, ?_, ?_, ?_, ?_⟩
          · exact PlAt.off (X := _) HP6.out HXR6.out (Nat.le_of_eq h4.2.symm) fun d hd _ => h4.1 d hd
          · exact at_off HS6.out HXR6.out (st_off 0) (Nat.le_of_eq h4.2.symm) fun d hd _ => h4.1 d hd
          · exact at_off HL6.out HXR6.out (wn_off 0) (Nat.le_of_eq h4.2.symm) fun d hd _ => h4.1 d hd
          · exact (((HB6.out.setCell (by simp) _).setCell (by simp) _).setCell (by simp) _).setCell (by simp) _
end Go.Proofs.YtfdefjdogmhinaaDoor.Msg
