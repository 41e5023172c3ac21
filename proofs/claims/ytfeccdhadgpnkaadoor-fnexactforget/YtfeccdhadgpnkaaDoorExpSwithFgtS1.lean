import Derived.Test.YtfeccdhadgpnkaaDoorExpPurewithExpI
import Derived.Test.YtfeccdhadgpnkaaDoorServeSwithAskS
import Derived.Test.YtfeccdhadgpnkaaDoorFgtFnwithFgtPure
namespace Go.Proofs.YtfeccdhadgpnkaaDoor.Msg
open Go.ChangeShapes Go.WideShapes Go.ChangeAt Go.RowKit
set_option linter.unusedVariables false
set_option linter.unusedSimpArgs false

def expCs (now : Int) (cs : List Cn) (k : Nat) : List Cn := (cs.take k).map (expC now) ++ cs.drop k
theorem expCs_of (now : Int) (cs : List Cn) (k : Nat) : expCs now cs k = (expD now ⟨0, 0, 0, cs, [], [], []⟩ k).conns := rfl
theorem expCs_len (now : Int) (cs : List Cn) (k : Nat) : (expCs now cs k).length = cs.length := by rw [expCs_of, expD_len]
theorem expCs_at (now : Int) (cs : List Cn) {k : Nat} (hk : k < cs.length) : ∃ h : k < (expCs now cs k).length, (expCs now cs k)[k] = cs[k] := expD_at now ⟨0, 0, 0, cs, [], [], []⟩ hk
theorem expCs_skip (now : Int) (cs : List Cn) {k : Nat} (hk : k < cs.length) (hb : expB now cs[k] = false) : expCs now cs (k + 1) = expCs now cs k := by rw [expCs_of, expCs_of, expD_skip now _ hk hb]
theorem expCs_hit (now : Int) (cs : List Cn) {k : Nat} (hk : k < cs.length) (hb : expB now cs[k] = true) : expCs now cs (k + 1) = (expCs now cs k).set k cn0 := by rw [expCs_of, expCs_of, expD_hit now _ hk hb]; rfl
theorem expCs_all (now : Int) (cs : List Cn) : expCs now cs cs.length = cs.map (expC now) := (expD_all now ⟨0, 0, 0, cs, [], [], []⟩).1
theorem expCs_zero (now : Int) (cs : List Cn) : expCs now cs 0 = cs := by simp [expCs]
theorem expCs_Z (now : Int) {cs : List Cn} (k : Nat) (h : ∀ c ∈ cs, cnZ c) : ∀ c ∈ expCs now cs k, cnZ c := (expD_Z now (s := ⟨0, 0, 0, cs, [], [], []⟩) k ⟨h, by simp, by simp⟩).1
def ExpSP (x : Pl) (now : Int) (w : World) (en : Ending) (w' : World) : Prop :=
  ∃ cv qv sv lv, en = .returned (.tuple #[plV (expP x now).1 cv qv, sv, lv]) ∧ PlAt 0 w' (expP x now).1 cv qv ∧ StsAt 0 w' sv (expP x now).2.1 ∧ WnsAt 0 w' lv (expP x now).2.2 ∧ Below w.heap.size w w'
theorem WnsAt.zero (lo : Nat) (w : World) (a : Option Addr) (c : Nat) : WnsAt lo w (.slice a 0 c) [] := ⟨by simp, .inl ⟨_, _, rfl, rfl⟩⟩
/-- the loop's state -/
def ExpSL (w : World) (x : Pl) (now : Int) (B8 : Nat) (cv qv : Value) (b1 b2 : List Nat) (X : World) (k : Nat) (v : Value) (wx : World) : Prop :=
  FO cnC 7 wx cv (expCs now x.conns k) b1 ∧ FO wnC 4 wx qv x.queue b2 ∧ FB wnC 4 38 (w.heap.size + 2) wx v (expW now (x.conns.take k)) ∧ (∀ d ∈ v.ownBlock.toList, d ∉ b1 ∧ d ∉ b2) ∧ Box wx B8 33 #[.int .i64 x.epoch, .int .i64 x.next, cv, qv] ∧ Box wx (w.heap.size + 1) 33 #[.int .i64 0, .int .i64 0, .slice none 0 0, .slice none 0 0] ∧ Below w.heap.size w wx ∧ X.heap.size ≤ wx.heap.size

set_option maxRecDepth 100000 in
set_option maxHeartbeats 2000000 in
theorem expS_any (x : Pl) (cv qv : Value) (now : Int) (w : World) {lo : Nat} (hp : PlAt lo w x cv qv) :
    Calls Tryd.prog 22 #[plV x cv qv, .int .i64 now] w (ExpSP x now w) := by
  have hp0 : PlAt 0 w x cv qv := ⟨At.mono mono_flat hp.1 (Nat.zero_le _), At.mono mono_flat hp.2 (Nat.zero_le _)⟩
  obtain ⟨a1, c1, hf1, _⟩ := hp.1.form
  obtain ⟨a2, c2, hf2, _⟩ := hp.2.form
  subst hf1 hf2
  have HZC : Hid (∀ i (h : i < x.conns.length), cnZ x.conns[i]) := fun i h => by obtain ⟨_, _, _, _, _, hz⟩ := at_place hp.1 h; exact hz
  have HZQ : Hid (∀ i (h : i < x.queue.length), wnZ x.queue[i]) := fun i h => by obtain ⟨_, _, _, _, _, hz⟩ := at_place hp.2 h; exact hz
  clear hp
  have HPO := hide (fun W (h : PlAt 0 W x (.slice a1 x.conns.length c1) (.slice a2 x.queue.length c2)) => poolOkS_any x _ _ W h)
  have HNO := hide (fun W => nowS_any now W)
  unfold plV at HPO
  show Calls Tryd.prog 22 #[.agg #[.int .i64 x.epoch, .int .i64 x.next, .slice a1 x.conns.length c1, .slice a2 x.queue.length c2], .int .i64 now] w _
  obtain ⟨w1, hw1⟩ : ∃ w1, ((w.alloc (Obj.cells #[.int .i64 x.epoch, .int .i64 x.next, .slice a1 x.conns.length c1, .slice a2 x.queue.length c2] 33)).alloc (Obj.cells #[.int .i64 0, .int .i64 0, .slice none 0 0, .slice none 0 0] 33)).alloc (Obj.cells #[] 38) = w1 := ⟨_, rfl⟩
  have HB1 : Hid (Below w.heap.size w w1) := by rw [← hw1]; exact (((Below.refl w.heap.size w).alloc (Nat.le_refl _) _).alloc (by simp) _).alloc (by simp; omega) _
  have HXP : Hid (Box w1 w.heap.size 33 #[.int .i64 x.epoch, .int .i64 x.next, .slice a1 x.conns.length c1, .slice a2 x.queue.length c2]) := by rw [← hw1]; exact ((Box.new w _ _).alloc _).alloc _
  have HXR : Hid (Box w1 (w.heap.size + 1) 33 #[.int .i64 0, .int .i64 0, .slice none 0 0, .slice none 0 0]) := by
    have := (Box.new (w.alloc (Obj.cells #[.int .i64 x.epoch, .int .i64 x.next, .slice a1 x.conns.length c1, .slice a2 x.queue.length c2] 33)) 33 #[.int .i64 0, .int .i64 0, .slice none 0 0, .slice none 0 0]).alloc (Obj.cells #[] 38)
    rw [hw1, Deep.nblk_alloc] at this
    exact this
  have HL1 : Hid (FB wnC 4 38 (w.heap.size + 2) w1 (.slice (some ⟨w.heap.size + 1 + 1, 0, none⟩) 0 0) []) := by
    have := FB.lit wnC 4 38 ((w.alloc (Obj.cells #[.int .i64 x.epoch, .int .i64 x.next, .slice a1 x.conns.length c1, .slice a2 x.queue.length c2] 33)).alloc (Obj.cells #[.int .i64 0, .int .i64 0, .slice none 0 0, .slice none 0 0] 33))
    rw [hw1, Deep.nblk_alloc, Deep.nblk_alloc] at this
    exact this
  have HW1s : Hid (w.heap.size + 3 ≤ w1.heap.size) := by show _ ≤ _; rw [← hw1]; simp
  have HPL := hide (hp0.below HB1.out)
  have KS : Hid (∀ W, Below w1.heap.size w1 W → (W.cell? ⟨w.heap.size, 0, none⟩ = some (.int .i64 x.epoch) ∧ W.cell? ⟨w.heap.size, 1, none⟩ = some (.int .i64 x.next) ∧ W.cell? ⟨w.heap.size, 2, none⟩ = some (.slice a1 x.conns.length c1) ∧ W.cell? ⟨w.heap.size, 3, none⟩ = some (.slice a2 x.queue.length c2)) ∧ ((W.cell? ⟨w.heap.size + 1, 0, none⟩ = some (.int .i64 0) ∧ W.cell? ⟨w.heap.size + 1, 1, none⟩ = some (.int .i64 0) ∧ W.cell? ⟨w.heap.size + 1, 2, none⟩ = some (.slice none 0 0) ∧ W.cell? ⟨w.heap.size + 1, 3, none⟩ = some (.slice none 0 0)) ∧ W.frozen? ⟨w.heap.size + 1, 0, none⟩ = false ∧ W.frozen? ⟨w.heap.size + 1, 1, none⟩ = false ∧ W.frozen? ⟨w.heap.size + 1, 2, none⟩ = false ∧ W.frozen? ⟨w.heap.size + 1, 3, none⟩ = false) ∧ w.heap.size + 1 < W.heap.size) := fun W hW =>
    ⟨(HXP.out.below hW).pool.1, (HXR.out.below hW).pool, (HXR.out.below hW).lt⟩
  clear hp0
  obtain ⟨⟨p0, p1, p2, p3⟩, ⟨⟨r0, r1, r2, r3⟩, f0, f1, f2, f3⟩, hz9⟩ := KS.out w1 (Below.refl _ _)
  have HBAD : Hid (¬ (okPl x = true ∧ nowB now = true) → ∀ W, Below w1.heap.size w1 W → ∀ x0 x1 x2 x3, ExpSP x now w (.returned (.tuple #[.agg #[.int .i64 0, .int .i64 0, .slice none 0 0, .slice none 0 0], .slice (some ⟨W.heap.size, 0, none⟩) 0 0, .slice (some ⟨w.heap.size + 1 + 1, 0, none⟩) 0 0])) (((((W.setCell ⟨w.heap.size + 1, 0, none⟩ x0).setCell ⟨w.heap.size + 1, 1, none⟩ x1).setCell ⟨w.heap.size + 1, 2, none⟩ x2).setCell ⟨w.heap.size + 1, 3, none⟩ x3).alloc (Obj.cells #[] 81))) := fun h W hW x0 x1 x2 x3 => by
    have e : expP x now = (pl0, [], []) := if_neg h
    unfold ExpSP
    rw [e]
    have c1 := bjoin hW HB1.out
    exact ⟨_, _, _, _, rfl, PlAt.zero _ _ _ _ _ _ _ _, StsAt.zero _ _ _ _, WnsAt.zero _ _ _ _, ((((c1.setCell (by simp) _).setCell (by simp) _).setCell (by simp) _).setCell (by simp) _).alloc (by simp only [Deep.nblk_setCell]; exact c1.size) _⟩
  cases h1 : okPl x with
  | false =>
    rw [h1] at HPO
    have HG := hide (HBAD.out (by rw [h1]; simp))
    clear h1
    go_enter Tryd.func22, Tryd.ntmps22
    go_wp2_with fail
    refine (HPO.out _ HPL.out).mono ?_
    rintro en W ⟨rfl, hbW⟩
    obtain ⟨⟨p0, p1, p2, p3⟩, ⟨⟨r0, r1, r2, r3⟩, f0, f1, f2, f3⟩, hz9⟩ := KS.out W hbW
    have HBW := hide hbW
    clear hbW
    go_wp2_with fail
    exact bodyPost_ret (v := .tuple #[.agg #[.int .i64 0, .int .i64 0, .slice none 0 0, .slice none 0 0], .slice (some ⟨W.heap.size, 0, none⟩) 0 0, .slice (some ⟨w.heap.size + 1 + 1, 0, none⟩) 0 0]) (by simp [results, Tryd.results22, go_sem, r0, r1, r2, r3, hz9]) rfl (HG.out _ HBW.out _ _ _ _)
  | true =>
    rw [h1] at HPO
    cases h3 : nowB now with
    | false =>
      rw [h3] at HNO
      have HG := hide (HBAD.out (by rw [h3]; simp))
      clear h1 h3
      go_enter Tryd.func22, Tryd.ntmps22
      go_wp2_with fail
      refine (HPO.out _ HPL.out).mono ?_
      rintro en W ⟨rfl, hbW⟩
      obtain ⟨⟨p0, p1, p2, p3⟩, ⟨⟨r0, r1, r2, r3⟩, f0, f1, f2, f3⟩, hz9⟩ := KS.out W hbW
      have HBW := hide hbW
      clear hbW
      go_wp2_with fail
      refine (HNO.out _).mono ?_
      rintro en W3 ⟨rfl, hW3⟩
      rw [hW3]
      clear hW3 W3
      go_wp2_with fail
      exact bodyPost_ret (v := .tuple #[.agg #[.int .i64 0, .int .i64 0, .slice none 0 0, .slice none 0 0], .slice (some ⟨W.heap.size, 0, none⟩) 0 0, .slice (some ⟨w.heap.size + 1 + 1, 0, none⟩) 0 0]) (by simp [results, Tryd.results22, go_sem, r0, r1, r2, r3, hz9]) rfl (HG.out _ HBW.out _ _ _ _)
    | true =>
      rw [h3] at HNO
      obtain ⟨g1, g2, g3, g4, g5, g6, g7⟩ := okPl_head_of h1
      obtain ⟨g8, g9⟩ := nowB_of h3
      have HCP := hide (fun W (h : PlAt 0 W x (.slice a1 x.conns.length c1) (.slice a2 x.queue.length c2)) => copy_any x _ _ W h (by omega) (by omega))
      unfold plV at HCP
      have HAP : Hid (expP x now = ((serveA now ⟨x.epoch, x.next, x.conns.map (expC now), x.queue⟩).1, (serveA now ⟨x.epoch, x.next, x.conns.map (expC now), x.queue⟩).2, expW now x.conns)) := if_pos ⟨h1, h3⟩
      have HSV := hide (fun W cv qv (h : PlAt 0 W ⟨x.epoch, x.next, x.conns.map (expC now), x.queue⟩ cv qv) => serveS_any ⟨x.epoch, x.next, x.conns.map (expC now), x.queue⟩ cv qv now W h g1 g2 g3 g4 (by simp only [List.length_map]; omega) (by simp only; omega) g8 g9)
      unfold plV at HSV
      have e9 : serve x.queue.length now ⟨x.epoch, x.next, x.conns.map (expC now), x.queue⟩ = serveA now ⟨x.epoch, x.next, x.conns.map (expC now), x.queue⟩ := rfl
      simp only [e9] at HSV
      generalize serveA now ⟨x.epoch, x.next, x.conns.map (expC now), x.queue⟩ = R at HSV HAP
      clear h1 h3 HBAD e9
      go_enter Tryd.func22, Tryd.ntmps22
      go_wp2_with fail
      refine (HPO.out _ HPL.out).mono ?_
      rintro en W ⟨rfl, hbW⟩
      obtain ⟨⟨p0, p1, p2, p3⟩, _⟩ := KS.out W hbW
      have HBW := hide hbW
      clear hbW
      go_wp2_with fail
      refine (HNO.out _).mono ?_
      rintro en W3 ⟨rfl, hW3⟩
      rw [hW3]
      clear hW3 W3
      go_wp2_with fail
      refine (HCP.out _ (HPL.out.below HBW.out)).mono ?_
      rintro en W3 ⟨cv3, qv3, b1, b2, rfl, hpo, _, hb3⟩
      obtain ⟨⟨a3, c3, e3⟩, a4, c4, e4⟩ := hpo.at.form
      subst e3 e4
      obtain ⟨X3, hX3⟩ : ∃ X, W3.alloc (Obj.cells #[.int .i64 x.epoch, .int .i64 x.next, .slice a3 x.conns.length c3, .slice a4 x.queue.length c4] 33) = X := ⟨_, rfl⟩
      have hb3a : Below W3.heap.size W3 X3 := by rw [← hX3]; exact (Below.refl _ _).alloc (Nat.le_refl _) _
      have hXO : Box X3 W3.heap.size 33 #[.int .i64 x.epoch, .int .i64 x.next, .slice a3 x.conns.length c3, .slice a4 x.queue.length c4] := by rw [← hX3]; exact Box.new _ _ _
      have hB3 : Below w1.heap.size w1 X3 := bjoin (bjoin hb3a hb3) HBW.out
      have HBL : Hid (∀ d ∈ b1 ++ b2, w1.heap.size ≤ d ∧ d < W3.heap.size) := fun d hd => by
        have hs := HBW.out.size
        rcases List.mem_append.1 hd with h | h
        · exact ⟨by have := hpo.2.2.2.1 d h; omega, RowC.lt hpo.1 d h⟩
        · exact ⟨by have := hpo.2.2.2.2.1 d h; omega, RowC.lt hpo.2.1 d h⟩
      have HDJ := hide hpo.2.2.1
      have HST : Hid (ExpSL w x now W3.heap.size (.slice a3 x.conns.length c3) (.slice a4 x.queue.length c4) b1 b2 X3 0 (.slice (some ⟨w.heap.size + 1 + 1, 0, none⟩) 0 0) X3) := by
        refine ⟨by rw [expCs_zero]; exact RowC.below hpo.1 hb3a, RowC.below hpo.2.1 hb3a, by simp only [expW, List.take_zero, List.filter_nil, List.map_nil]; exact HL1.out.below hB3, fun d hd => ?_, hXO, HXR.out.below hB3, bjoin hB3 HB1.out, Nat.le_refl _⟩
        simp [Value.ownBlock] at hd
        subst hd
        have := HW1s.out
        exact ⟨fun h => by have := (HBL.out _ (List.mem_append.2 (.inl h))).1; omega, fun h => by have := (HBL.out _ (List.mem_append.2 (.inr h))).1; omega⟩
      have HX3s : Hid (W3.heap.size < X3.heap.size) := hXO.lt
      have HB3 := hide hB3
      clear hpo hb3 hb3a hXO hB3 p0 p1 p2 p3
      go_wp2_with fail
      go_loopg [9, 7] x.conns.length (fun q i v wx => ∃ k : Nat, k ≤ x.conns.length ∧ q = x.conns.length - k ∧ i = .int .i64 k ∧ ExpSL w x now W3.heap.size (.slice a3 x.conns.length c3) (.slice a4 x.queue.length c4) b1 b2 X3 k v wx)
      case atStart => exact ⟨0, Nat.zero_le _, rfl, rfl, HST.out⟩
      case round =>
        obtain ⟨k, hk, rfl, rfl, hFC, hFQ, hFL, hdj, hX8, hXR, hb, hsz⟩ := hrel
        obtain ⟨⟨o0, o1, o2, o3⟩, _⟩ := hX8.pool
        by_cases hlt : k < x.conns.length
        · obtain ⟨hkE, hEk⟩ := expCs_at now x.conns hlt
          obtain ⟨c, hc⟩ : ∃ c, x.conns[k] = c := ⟨_, rfl⟩
          have hEB : ∀ b : Bool, (c.busy && decide (c.due ≤ now)) = b → expB now x.conns[k] = b := fun b hb => by rw [hc]; exact hb
          have HEB := hide hEB
          clear hEB
          have hA : At 7 (FR cnC cnZ) 0 wr (.slice a3 x.conns.length c3) (expCs now x.conns k) := FO.at cnC_len hFC (mem_all (expCs_Z now k (all_mem HZC.out))) (fun _ _ => Nat.zero_le _)
          obtain ⟨b, off, rfl, hbl, hel, hz⟩ := at_place hA hkE
          rw [hEk, hc] at hel hz
          have hi : (k : Int) < (x.conns.length : Int) := by omega
          obtain ⟨P, hP⟩ : ∃ P, off + k * 7 = P := ⟨_, rfl⟩
          rw [hP] at hel
          have e0 : wr.cell? ⟨b, P, none⟩ = some (.bool c.busy) := hel 0 (by simp [cnC])
          have e2 : wr.cell? ⟨b, P + 2, none⟩ = some (.int .i64 c.want.client) := hel 2 (by simp [cnC])
          have e3 : wr.cell? ⟨b, P + 3, none⟩ = some (.string c.want.tag) := hel 3 (by simp [cnC])
          have e4 : wr.cell? ⟨b, P + 4, none⟩ = some (.string c.want.query) := hel 4 (by simp [cnC])
          have e5 : wr.cell? ⟨b, P + 5, none⟩ = some (.string c.want.pointer) := hel 5 (by simp [cnC])
          have e6 : wr.cell? ⟨b, P + 6, none⟩ = some (.int .i64 c.due) := hel 6 (by simp [cnC])
          have HK := hide hlt
          cases hbz : c.busy with
          | false =>
            rw [hbz] at e0
            have HN : Hid (ExpSL w x now W3.heap.size (.slice (some ⟨b, off, none⟩) x.conns.length c3) (.slice a4 x.queue.length c4) b1 b2 X3 (k + 1) u7 wr) := by
              have he := HEB.out false (by rw [hbz]; rfl)
              exact ⟨by rw [expCs_skip now x.conns hlt he]; exact hFC, hFQ, by rw [expW_skip now x.conns hlt he]; exact hFL, hdj, hX8, hXR, hb, hsz⟩
            clear hFC hFQ hFL hdj hX8 hXR hb hA hel hz hbz hc
            go_wp2_with fail
            go_roundg (x.conns.length - (k + 1))
            case measure => omega
            case rel => exact ⟨k + 1, by have := HK.out; omega, rfl, by have := HK.out; go_num, HN.out⟩
          | true =>
            rw [hbz] at e0
            by_cases hdue : c.due ≤ now
            · have HE := hide (HEB.out true (by rw [hbz]; simpa using hdue))
              have hvl := expW_len now (x.conns.take k)
              rw [List.length_take] at hvl
              obtain ⟨v', W5, hr, hF5, o5, hat⟩ := app1 Tryd.underlying31 info_Want rfl (by decide) wnC_len wnC_one hFL 31 c.want (by have := HW1s.out; have := HB3.out.size; omega) (by omega) (by omega)
              obtain ⟨av, cav, hfv, _⟩ := hFL.form
              obtain ⟨vl, hvl2⟩ : ∃ vl, (expW now (x.conns.take k)).length = vl := ⟨_, rfl⟩
              rw [hvl2] at hfv
              subst hfv
              have hr2 : (Builtin.append_ #[31, 31] 31 #[.slice av vl cav, .slice (some ⟨wr.heap.size, 0, none⟩) 1 1]).run Tryd.prog (wr.alloc (.cells #[.int .i64 c.want.client, .string c.want.tag, .string c.want.query, .string c.want.pointer] 38)) = .ok v' W5 := hr
              have hb1 : b1 = [b] := by
                obtain ⟨_, ⟨a, cap, e, hn, _⟩ | ⟨b', off', cap', e, hlt', rfl, hcc⟩⟩ := hFC
                · rw [expCs_len] at hn; omega
                · injection e with e1 _ _
                  injection e1 with e1
                  injection e1 with e1 _ _
                  rw [e1]
              have nbo : ∀ d ∈ b1 ++ b2, d ∉ (Value.slice av vl cav).ownBlock.toList := fun d hd h => by
                rcases List.mem_append.1 hd with h1 | h1
                · exact (hdj d h).1 h1
                · exact (hdj d h).2 h1
              have hFC5 : FO cnC 7 W5 (.slice (some ⟨b, off, none⟩) x.conns.length c3) (expCs now x.conns k) b1 := RowC.kept hFC o5.size fun d hd => o5.block d (RowC.lt hFC d hd) (nbo d (List.mem_append.2 (.inl hd)))
              have hFQ5 : FO wnC 4 W5 (.slice a4 x.queue.length c4) x.queue b2 := RowC.kept hFQ o5.size fun d hd => o5.block d (RowC.lt hFQ d hd) (nbo d (List.mem_append.2 (.inr hd)))
              have hX85 := hX8.keepT (TSame.own hFL o5 (by decide))
              have hXR5 := hXR.keepT (TSame.own hFL o5 (by decide))
              have hd5 : ∀ d ∈ v'.ownBlock.toList, d ∉ b1 ∧ d ∉ b2 := fun d hd => by
                rcases hat with h5 | ⟨g, h5, hg⟩
                · rw [h5] at hd; exact hdj d hd
                · rw [h5] at hd
                  simp at hd
                  subst hd
                  exact ⟨fun h => by have := (HBL.out _ (List.mem_append.2 (.inl h))).2; have := HX3s.out; omega, fun h => by have := (HBL.out _ (List.mem_append.2 (.inr h))).2; have := HX3s.out; omega⟩
              have hb5 : Below w.heap.size w W5 := hb.trans (o5.below hb.size fun d hd => by have := (hFL.own d hd).1; omega)
              have hA5 : ∀ j, j < 7 → ∃ u, W5.cell? ⟨b, P + j, none⟩ = some u ∧ W5.frozen? ⟨b, P + j, none⟩ = false := fun j hj => by
                obtain ⟨_, ⟨a, cap, e, hn, _⟩ | ⟨b', off', cap', e, hlt', _, hcc⟩⟩ := hFC5
                · rw [expCs_len] at hn; omega
                · injection e with e1 _ _
                  injection e1 with e1
                  injection e1 with e1 e2 _
                  subst e1 e2
                  rw [expCs_len] at hcc
                  have := hcc (k * 7 + j) (by omega)
                  rw [← Nat.add_assoc, hP] at this
                  exact ⟨_, this⟩
              obtain ⟨u0, n0, z0⟩ := hA5 0 (by omega)
              obtain ⟨u1, n1, z1⟩ := hA5 1 (by omega)
              obtain ⟨u2, n2, z2⟩ := hA5 2 (by omega)
              obtain ⟨u3, n3, z3⟩ := hA5 3 (by omega)
              obtain ⟨u4, n4, z4⟩ := hA5 4 (by omega)
              obtain ⟨u5, n5, z5⟩ := hA5 5 (by omega)
              obtain ⟨u6, n6, z6⟩ := hA5 6 (by omega)
              obtain ⟨Y, hY⟩ : ∃ Y, (((((((W5.setCell ⟨b, P, none⟩ (.bool false)).setCell ⟨b, P + 1, none⟩ (.string ⟨#[]⟩)).setCell ⟨b, P + 2, none⟩ (.int .i64 0)).setCell ⟨b, P + 3, none⟩ (.string ⟨#[]⟩)).setCell ⟨b, P + 4, none⟩ (.string ⟨#[]⟩)).setCell ⟨b, P + 5, none⟩ (.string ⟨#[]⟩)).setCell ⟨b, P + 6, none⟩ (.int .i64 0)) = Y := ⟨_, rfl⟩
              have oY : Only [b] W5 Y := by rw [← hY]; exact (((((((Only.refl _ _).setCell (by simp) _).setCell (by simp) _).setCell (by simp) _).setCell (by simp) _).setCell (by simp) _).setCell (by simp) _).setCell (by simp) _
              have hbB : w1.heap.size ≤ b ∧ b < W3.heap.size := HBL.out b (by rw [hb1]; simp)
              have HN : Hid (ExpSL w x now W3.heap.size (.slice (some ⟨b, off, none⟩) x.conns.length c3) (.slice a4 x.queue.length c4) b1 b2 X3 (k + 1) v' Y) := by
                refine ⟨?_, RowC.kept hFQ5 oY.size fun d hd => oY.block d (RowC.lt hFQ5 d hd) (by simp; exact fun e => HDJ.out b (by rw [hb1]; simp) (e ▸ hd)), ?_, hd5, hX85.only oY (by simp; omega), hXR5.only oY (by simp; have := HW1s.out; omega), hb5.trans (oY.below hb5.size fun d hd => by simp at hd; have := HB1.out.size; omega), by have := oY.size; have := o5.size; omega⟩
                · rw [expCs_hit now x.conns HK.out HE.out]
                  have h7 := FO.set7 (by rw [expCs_len]; exact hFC5) hkE cn0 hP
                  rw [List.length_set, expCs_len] at h7
                  rw [← hY]
                  exact h7
                · rw [expW_hit now x.conns HK.out HE.out, hc]
                  exact hF5.only oY fun d hd h => by simp at h; subst h; exact (hd5 d hd).1 (by rw [hb1]; simp)
              obtain ⟨a5, c5, hf5, _⟩ := hF5.form
              rw [List.length_append, List.length_singleton, hvl2] at hf5
              subst hf5
              obtain ⟨⟨y0, y1, y2, y3⟩, _⟩ := hX85.pool
              have n0' : W5.cell? ⟨b, P, none⟩ = some u0 := n0
              have z0' : W5.frozen? ⟨b, P, none⟩ = false := z0
              clear n0 z0 hA5 hFC hFQ hFL hdj hX8 hXR hb hA hel hz hbz hc hr hF5 o5 hat hFC5 hFQ5 hX85 hXR5 hd5 hb5 oY hvl hvl2 nbo hb1 hEk hkE
              go_wp2_with (first | (at_builtin; refine wpList_app rfl _ _ 31 rfl hr2 (by first | rfl | simp [Act.eval, Act.put]) (by first | rfl | simp [Act.eval, Act.put]) ?_))
              try rw [hY]
              go_roundg (x.conns.length - (k + 1))
              case measure => omega
              case rel => exact ⟨k + 1, by have := HK.out; omega, rfl, by have := HK.out; go_num, HN.out⟩
            · have HN : Hid (ExpSL w x now W3.heap.size (.slice (some ⟨b, off, none⟩) x.conns.length c3) (.slice a4 x.queue.length c4) b1 b2 X3 (k + 1) u7 wr) := by
                have he := HEB.out false (by rw [hbz]; simpa using hdue)
                exact ⟨by rw [expCs_skip now x.conns hlt he]; exact hFC, hFQ, by rw [expW_skip now x.conns hlt he]; exact hFL, hdj, hX8, hXR, hb, hsz⟩
              clear hFC hFQ hFL hdj hX8 hXR hb hA hel hz hbz hc
              go_wp2_with fail
              go_roundg (x.conns.length - (k + 1))
              case measure => omega
              case rel => exact ⟨k + 1, by have := HK.out; omega, rfl, by have := HK.out; go_num, HN.out⟩
        · obtain rfl : k = x.conns.length := by omega
          rw [expCs_all] at hFC
          rw [List.take_length] at hFL
          have hpl : PlAt 0 wr ⟨x.epoch, x.next, x.conns.map (expC now), x.queue⟩ (.slice a3 x.conns.length c3) (.slice a4 x.queue.length c4) := ⟨FO.at cnC_len hFC (mem_all (by rw [← expCs_all]; exact expCs_Z now _ (all_mem HZC.out))) (fun _ _ => Nat.zero_le _), FO.at wnC_len hFQ HZQ.out (fun _ _ => Nat.zero_le _)⟩
          have HLW : Hid (WnsAt 0 wr u7 (expW now x.conns)) := At.mono mono_flat (hFL.at wnC_len (by have := expW_len now x.conns; omega) (mem_all (expW_Z now (all_mem HZC.out)))) (Nat.zero_le _)
          obtain ⟨av, cav, hfv, _⟩ := hFL.form
          subst hfv
          have HPL9 := hide hpl
          have HB9 := hide hb
          have HXR9 := hide hXR
          clear hFC hFQ hFL hdj hX8 hXR hb hpl
          go_wp2_with fail
          refine (HSV.out _ _ _ HPL9.out).mono ?_
          rintro en W6 ⟨cv6, qv6, sv6, rfl, hp6, hs6, hb6⟩
          obtain ⟨⟨a6, c6, e6⟩, a7, c7, e7⟩ := hp6.form
          subst e6 e7
          obtain ⟨a8, c8, e8, _⟩ := hs6.form
          subst e8
          obtain ⟨W6a, hW6a⟩ : ∃ X, W6.alloc (Obj.cells #[.int .i64 R.1.epoch, .int .i64 R.1.next, .slice a6 R.1.conns.length c6, .slice a7 R.1.queue.length c7] 33) = X := ⟨_, rfl⟩
          have hb6a : Below W6.heap.size W6 W6a := by rw [← hW6a]; exact (Below.refl _ _).alloc (Nat.le_refl _) _
          have hXO6 : Box W6a W6.heap.size 33 #[.int .i64 R.1.epoch, .int .i64 R.1.next, .slice a6 R.1.conns.length c6, .slice a7 R.1.queue.length c7] := by rw [← hW6a]; exact Box.new _ _ _
          obtain ⟨⟨t0, t1, t2, t3⟩, _⟩ := hXO6.pool
          have hXR6 := (HXR9.out.below hb6).below hb6a
          obtain ⟨⟨r0, r1, r2, r3⟩, f0, f1, f2, f3⟩ := hXR6.pool
          have hz9 := hXR6.lt
          have HXR6 := hide hXR6
          have HP6 := hide (hp6.below hb6a)
          have HS6 := hide (At.kept kept_flat hs6 hb6a)
          have HL6 := hide (At.kept kept_flat HLW.out (bjoin hb6a hb6))
          have HB6 := hide (bjoin (bjoin hb6a hb6) HB9.out)
          clear hp6 hs6 hb6 hb6a hXO6 hXR6
          go_wp2_with fail
          refine bodyPost_ret (v := .tuple #[.agg #[.int .i64 R.1.epoch, .int .i64 R.1.next, .slice a6 R.1.conns.length c6, .slice a7 R.1.queue.length c7], .slice a8 R.2.length c8, .slice av (expW now x.conns).length cav]) (by simp [results, Tryd.results22, go_sem, r0, r1, r2, r3, hz9]) rfl ?_
          have h4 := four_blk W6a (w.heap.size + 1) (.int .i64 R.1.epoch) (.int .i64 R.1.next) (.slice a6 R.1.conns.length c6) (.slice a7 R.1.queue.length c7)
          unfold ExpSP
          rw [HAP.out]
          refine ⟨.slice a6 R.1.conns.length c6, .slice a7 R.1.queue.length c7, _, _, rfl, ?_, ?_, ?_, ?_⟩
          · exact PlAt.off (X := _) HP6.out HXR6.out (Nat.le_of_eq h4.2.symm) fun d hd _ => h4.1 d hd
          · exact at_off HS6.out HXR6.out (st_off 0) (Nat.le_of_eq h4.2.symm) fun d hd _ => h4.1 d hd
          · exact at_off HL6.out HXR6.out (wn_off 0) (Nat.le_of_eq h4.2.symm) fun d hd _ => h4.1 d hd
          · exact (((HB6.out.setCell (by simp) _).setCell (by simp) _).setCell (by simp) _).setCell (by simp) _
end Go.Proofs.YtfeccdhadgpnkaaDoor.Msg

namespace Go.Proofs.YtfeccdhadgpnkaaDoor.Msg
open Go.ChangeShapes Go.WideShapes Go.ChangeAt Go.RowKit
set_option linter.unusedVariables false
set_option linter.unusedSimpArgs false

set_option maxRecDepth 100000 in
set_option maxHeartbeats 1000000 in
theorem l6Of_any (q : Wn) (client : Int) (tag : ByteArray) (w : World) :
    Calls Tryd.prog 54 #[wnV q, .int .i64 client, .string tag] w fun en w' => en = .returned (.bool (thB client tag q)) ∧ Below w.heap.size w w' := by
  show Calls Tryd.prog 54 #[.agg #[.int .i64 q.client, .string q.tag, .string q.query, .string q.pointer], .int .i64 client, .string tag] w _
  obtain ⟨w1, hw1⟩ : ∃ w1, w.alloc (Obj.cells #[.int .i64 q.client, .string q.tag, .string q.query, .string q.pointer] 38) = w1 := ⟨_, rfl⟩
  have HB1 : Hid (Below w.heap.size w w1) := by rw [← hw1]; exact (Below.refl _ _).alloc (Nat.le_refl _) _
  have hX : Box w1 w.heap.size 38 #[.int .i64 q.client, .string q.tag, .string q.query, .string q.pointer] := by rw [← hw1]; exact Box.new _ _ _
  have x0 : w1.cell? ⟨w.heap.size, 0, none⟩ = some (.int .i64 q.client) := hX.cell 0 (by simp)
  have x1 : w1.cell? ⟨w.heap.size, 1, none⟩ = some (.string q.tag) := hX.cell 1 (by simp)
  clear hX
  by_cases h1 : q.client = client
  · by_cases h2 : q.tag = tag
    · have HR : Hid (thB client tag q = true) := decide_eq_true ⟨h1, h2⟩
      subst h1 h2
      go_enter Tryd.func54, Tryd.ntmps54
      go_wp2_with fail
      go_ret
      rw [HR.out]
      exact ⟨by simp, HB1.out⟩
    · have HR : Hid (thB client tag q = false) := decide_eq_false (fun h => h2 h.2)
      obtain ⟨s1, s2⟩ := str_ne2 h2
      subst h1
      go_enter Tryd.func54, Tryd.ntmps54
      go_wp2_with fail
      go_ret
      rw [HR.out]
      exact ⟨by simp [s2], HB1.out⟩
  · have HR : Hid (thB client tag q = false) := decide_eq_false (fun h => h1 h.1)
    have h1b : (q.client == client) = false := by simpa using h1
    go_enter Tryd.func54, Tryd.ntmps54
    go_wp2_with fail
    go_ret
    rw [HR.out]
    exact ⟨by simp [h1b], HB1.out⟩
end Go.Proofs.YtfeccdhadgpnkaaDoor.Msg
