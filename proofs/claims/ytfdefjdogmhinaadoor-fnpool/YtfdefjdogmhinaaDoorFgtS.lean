import Derived.Test.YtfdefjdogmhinaaDoorFgtS2
import Derived.Test.YtfdefjdogmhinaaDoorPlCbwithPhase
namespace Go.Proofs.YtfdefjdogmhinaaDoor.Msg
open Go.ChangeShapes Go.WideShapes Go.ChangeAt Go.RowKit
set_option linter.unusedVariables false
set_option linter.unusedSimpArgs false

def InsAt (lo : Nat) (w : World) (v : Value) (xs : List Int) : Prop := At 1 (FR inC (fun _ => True)) lo w v xs
theorem InsAt.zero (lo : Nat) (w : World) (a : Option Addr) (c : Nat) : InsAt lo w (.slice a 0 c) [] := ⟨by simp, .inl ⟨_, _, rfl, rfl⟩⟩
def FgtSP (x : Pl) (cl : Int) (tg : ByteArray) (now : Int) (w : World) (en : Ending) (w' : World) : Prop :=
  ∃ cv qv sv lv, en = .returned (.tuple #[plV (fgP x cl tg now).1 cv qv, sv, lv]) ∧ PlAt 0 w' (fgP x cl tg now).1 cv qv ∧ StsAt 0 w' sv (fgP x cl tg now).2.1 ∧ InsAt w.heap.size w' lv (fgP x cl tg now).2.2 ∧ Below w.heap.size w w'

theorem four_bad {a b c d : Bool} (h : ¬ ((a = true ∧ b = true) ∧ c = true ∧ d = true)) : a = false ∨ a = true ∧ (b = false ∨ b = true ∧ (c = false ∨ c = true ∧ d = false)) := by
  revert h
  cases a <;> cases b <;> cases c <;> cases d <;> simp
theorem fgC_take {cl : Int} {tg : ByteArray} {cs : List Cn} {k : Nat} (hk : k < cs.length) : (cs.take (k + 1)).map (fgC cl tg) = (cs.take k).map (fgC cl tg) ++ [fgC cl tg cs[k]] := by rw [take_snoc' _ _ hk, List.map_append]; rfl

set_option maxRecDepth 100000 in
set_option maxHeartbeats 4000000 in
theorem fgtS_any (x : Pl) (cv qv : Value) (cl : Int) (tg : ByteArray) (now : Int) (w : World) {lo : Nat} (hp : PlAt lo w x cv qv) (htl : tg.size ≤ 9223372036854775807) :
    Calls Tryd.prog 16 #[plV x cv qv, .int .i64 cl, .string tg, .int .i64 now] w (FgtSP x cl tg now w) := by
  have hp0 : PlAt 0 w x cv qv := ⟨At.mono mono_flat hp.1 (Nat.zero_le _), At.mono mono_flat hp.2 (Nat.zero_le _)⟩
  obtain ⟨a1, c1, hf1, _⟩ := hp.1.form
  obtain ⟨a2, c2, hf2, _⟩ := hp.2.form
  subst hf1 hf2
  have HZC : Hid (∀ i (h : i < x.conns.length), cnZ x.conns[i]) := fun i h => by obtain ⟨_, _, _, _, _, hz⟩ := at_place hp.1 h; exact hz
  have HZQ : Hid (∀ i (h : i < x.queue.length), wnZ x.queue[i]) := fun i h => by obtain ⟨_, _, _, _, _, hz⟩ := at_place hp.2 h; exact hz
  clear hp
  have HPO := hide (fun W (h : PlAt 0 W x (.slice a1 x.conns.length c1) (.slice a2 x.queue.length c2)) => poolOkS_any x _ _ W h)
  have HNO := hide (fun W => nowS_any now W)
  have HCL := hide (fun W => l5Client_any cl W)
  have HTG := hide (fun W => tagSpec_any tg W htl)
  unfold plV at HPO
  show Calls Tryd.prog 16 #[.agg #[.int .i64 x.epoch, .int .i64 x.next, .slice a1 x.conns.length c1, .slice a2 x.queue.length c2], .int .i64 cl, .string tg, .int .i64 now] w _
  obtain ⟨w1, hw1⟩ : ∃ w1, ((w.alloc (Obj.cells #[.int .i64 x.epoch, .int .i64 x.next, .slice a1 x.conns.length c1, .slice a2 x.queue.length c2] 27)).alloc (Obj.cells #[.int .i64 0, .int .i64 0, .slice none 0 0, .slice none 0 0] 27)).alloc (Obj.cells #[] 3) = w1 := ⟨_, rfl⟩
  have HB1 : Hid (Below w.heap.size w w1) := by rw [← hw1]; exact (((Below.refl w.heap.size w).alloc (Nat.le_refl _) _).alloc (by simp) _).alloc (by simp; omega) _
  have HXP : Hid (Box w1 w.heap.size 27 #[.int .i64 x.epoch, .int .i64 x.next, .slice a1 x.conns.length c1, .slice a2 x.queue.length c2]) := by rw [← hw1]; exact ((Box.new w _ _).alloc _).alloc _
  have HXR : Hid (Box w1 (w.heap.size + 1) 27 #[.int .i64 0, .int .i64 0, .slice none 0 0, .slice none 0 0]) := by
    have := (Box.new (w.alloc (Obj.cells #[.int .i64 x.epoch, .int .i64 x.next, .slice a1 x.conns.length c1, .slice a2 x.queue.length c2] 27)) 27 #[.int .i64 0, .int .i64 0, .slice none 0 0, .slice none 0 0]).alloc (Obj.cells #[] 3)
    rw [hw1, Deep.nblk_alloc] at this
    exact this
  have HL1 : Hid (FB inC 1 3 (w.heap.size + 2) w1 (.slice (some ⟨w.heap.size + 1 + 1, 0, none⟩) 0 0) []) := by
    have := FB.lit inC 1 3 ((w.alloc (Obj.cells #[.int .i64 x.epoch, .int .i64 x.next, .slice a1 x.conns.length c1, .slice a2 x.queue.length c2] 27)).alloc (Obj.cells #[.int .i64 0, .int .i64 0, .slice none 0 0, .slice none 0 0] 27))
    rw [hw1, Deep.nblk_alloc, Deep.nblk_alloc] at this
    exact this
  have HW1s : Hid (w.heap.size + 3 ≤ w1.heap.size) := by show _ ≤ _; rw [← hw1]; simp
  have HPL := hide (hp0.below HB1.out)
  have HP0 := hide hp0
  have KS : Hid (∀ W, Below (w.heap.size + 2) w1 W → (W.cell? ⟨w.heap.size, 0, none⟩ = some (.int .i64 x.epoch) ∧ W.cell? ⟨w.heap.size, 1, none⟩ = some (.int .i64 x.next) ∧ W.cell? ⟨w.heap.size, 2, none⟩ = some (.slice a1 x.conns.length c1) ∧ W.cell? ⟨w.heap.size, 3, none⟩ = some (.slice a2 x.queue.length c2)) ∧ ((W.cell? ⟨w.heap.size + 1, 0, none⟩ = some (.int .i64 0) ∧ W.cell? ⟨w.heap.size + 1, 1, none⟩ = some (.int .i64 0) ∧ W.cell? ⟨w.heap.size + 1, 2, none⟩ = some (.slice none 0 0) ∧ W.cell? ⟨w.heap.size + 1, 3, none⟩ = some (.slice none 0 0)) ∧ W.frozen? ⟨w.heap.size + 1, 0, none⟩ = false ∧ W.frozen? ⟨w.heap.size + 1, 1, none⟩ = false ∧ W.frozen? ⟨w.heap.size + 1, 2, none⟩ = false ∧ W.frozen? ⟨w.heap.size + 1, 3, none⟩ = false) ∧ w.heap.size + 1 < W.heap.size) := fun W hW => by
    have hP : Box W w.heap.size 27 _ := HXP.out.keep (hW.block _ (by omega))
    have hR : Box W (w.heap.size + 1) 27 _ := HXR.out.keep (hW.block _ (by omega))
    exact ⟨hP.pool.1, hR.pool, hR.lt⟩
  have KQ : Hid (∀ W, Below (w.heap.size + 2) w1 W → ∀ k (hk : k < x.queue.length), ∃ b off, a2 = some ⟨b, off, none⟩ ∧ W.cell? ⟨b, off + k * 4, none⟩ = some (.int .i64 x.queue[k].client) ∧ W.cell? ⟨b, off + k * 4 + 1, none⟩ = some (.string x.queue[k].tag) ∧ W.cell? ⟨b, off + k * 4 + 2, none⟩ = some (.string x.queue[k].query) ∧ W.cell? ⟨b, off + k * 4 + 3, none⟩ = some (.string x.queue[k].pointer)) := fun W hW k hk => by
    have hq : WnsAt 0 W (.slice a2 x.queue.length c2) x.queue := At.kept kept_flat hp0.2 (HB1.out.trans (hW.mono (by omega)))
    obtain ⟨b, off, e, _, hel, _⟩ := at_place hq hk
    exact ⟨b, off, e, hel 0 (by simp [wnC]), hel 1 (by simp [wnC]), hel 2 (by simp [wnC]), hel 3 (by simp [wnC])⟩
  have KC : Hid (∀ W, Below (w.heap.size + 2) w1 W → ∀ k (hk : k < x.conns.length), ∃ b off, a1 = some ⟨b, off, none⟩ ∧ W.cell? ⟨b, off + k * 7, none⟩ = some (.bool x.conns[k].busy) ∧ W.cell? ⟨b, off + k * 7 + 1, none⟩ = some (.string x.conns[k].control) ∧ W.cell? ⟨b, off + k * 7 + 2, none⟩ = some (.int .i64 x.conns[k].want.client) ∧ W.cell? ⟨b, off + k * 7 + 3, none⟩ = some (.string x.conns[k].want.tag) ∧ W.cell? ⟨b, off + k * 7 + 4, none⟩ = some (.string x.conns[k].want.query) ∧ W.cell? ⟨b, off + k * 7 + 5, none⟩ = some (.string x.conns[k].want.pointer) ∧ W.cell? ⟨b, off + k * 7 + 6, none⟩ = some (.int .i64 x.conns[k].due)) := fun W hW k hk => by
    have hq : CnsAt 0 W (.slice a1 x.conns.length c1) x.conns := At.kept kept_flat hp0.1 (HB1.out.trans (hW.mono (by omega)))
    obtain ⟨b, off, e, _, hel, _⟩ := at_place hq hk
    exact ⟨b, off, e, hel 0 (by simp [cnC]), hel 1 (by simp [cnC]), hel 2 (by simp [cnC]), hel 3 (by simp [cnC]), hel 4 (by simp [cnC]), hel 5 (by simp [cnC]), hel 6 (by simp [cnC])⟩
  clear hp0
  obtain ⟨⟨p0, p1, p2, p3⟩, ⟨⟨r0, r1, r2, r3⟩, f0, f1, f2, f3⟩, hz9⟩ := KS.out w1 (Below.refl _ _)
  have HBAD : Hid (¬ ((okPl x = true ∧ nowB now = true) ∧ clientB cl = true ∧ tagB tg = true) → ∀ W, Below w1.heap.size w1 W → ∀ x0 x1 x2 x3, FgtSP x cl tg now w (.returned (.tuple #[.agg #[.int .i64 0, .int .i64 0, .slice none 0 0, .slice none 0 0], .slice (some ⟨W.heap.size, 0, none⟩) 0 0, .slice (some ⟨w.heap.size + 1 + 1, 0, none⟩) 0 0])) (((((W.setCell ⟨w.heap.size + 1, 0, none⟩ x0).setCell ⟨w.heap.size + 1, 1, none⟩ x1).setCell ⟨w.heap.size + 1, 2, none⟩ x2).setCell ⟨w.heap.size + 1, 3, none⟩ x3).alloc (Obj.cells #[] 48))) := fun h W hW x0 x1 x2 x3 => by
    have e : fgP x cl tg now = (pl0, [], []) := if_neg h
    unfold FgtSP
    rw [e]
    have c1 := bjoin hW HB1.out
    exact ⟨_, _, _, _, rfl, PlAt.zero _ _ _ _ _ _ _ _, StsAt.zero _ _ _ _, InsAt.zero _ _ _ _, ((((c1.setCell (by simp) _).setCell (by simp) _).setCell (by simp) _).setCell (by simp) _).alloc (by simp only [Deep.nblk_setCell]; exact c1.size) _⟩
  by_cases hall : (okPl x = true ∧ nowB now = true) ∧ clientB cl = true ∧ tagB tg = true
  · have HALL := hide hall
    obtain ⟨⟨h1, h2⟩, h3, h4⟩ := hall
    obtain ⟨g1, g2, g3, g4, g5, g6, g7⟩ := okPl_head_of h1
    obtain ⟨g8, g9⟩ := nowB_of h2
    rw [h1] at HPO
    rw [h2] at HNO
    rw [h3] at HCL
    rw [h4] at HTG
    have hQl := fgQ_len cl tg x.queue
    have HAP : Hid (fgP x cl tg now = ((serveA now ⟨x.epoch, x.next, x.conns.map (fgC cl tg), fgQ cl tg x.queue⟩).1, (serveA now ⟨x.epoch, x.next, x.conns.map (fgC cl tg), fgQ cl tg x.queue⟩).2, fgN cl tg x.conns)) := if_pos HALL.out
    have HSV := hide (fun W cv qv (h : PlAt 0 W ⟨x.epoch, x.next, x.conns.map (fgC cl tg), fgQ cl tg x.queue⟩ cv qv) => serveS_any ⟨x.epoch, x.next, x.conns.map (fgC cl tg), fgQ cl tg x.queue⟩ cv qv now W h g1 g2 g3 g4 (by simp only [List.length_map]; omega) (by simp only; omega) g8 g9)
    unfold plV at HSV
    have e9 : serve (fgQ cl tg x.queue).length now ⟨x.epoch, x.next, x.conns.map (fgC cl tg), fgQ cl tg x.queue⟩ = serveA now ⟨x.epoch, x.next, x.conns.map (fgC cl tg), fgQ cl tg x.queue⟩ := rfl
    simp only [e9] at HSV
    generalize serveA now ⟨x.epoch, x.next, x.conns.map (fgC cl tg), fgQ cl tg x.queue⟩ = R at HSV HAP
    clear h1 h2 h3 h4 HBAD e9
    go_enter Tryd.func16, Tryd.ntmps16
    go_wp2_with fail
    refine (HPO.out _ HPL.out).mono ?_
    rintro en W ⟨rfl, hbW⟩
    have hbW2 : Below (w.heap.size + 2) w1 W := hbW.mono (by have := HW1s.out; omega)
    obtain ⟨⟨p0, p1, p2, p3⟩, _⟩ := KS.out W hbW2
    obtain ⟨X, hX⟩ : ∃ X, W.alloc (Obj.cells #[.int .i64 x.epoch, .int .i64 x.next, .slice none 0 0, .slice none 0 0] 27) = X := ⟨_, rfl⟩
    have HST : Hid (FS w1 (w.heap.size + 2) W.heap.size x.epoch x.next [] (fgQ cl tg (x.queue.take (0))) [] (.slice none 0 0) (.slice none 0 0) (.slice (some ⟨w.heap.size + 1 + 1, 0, none⟩) 0 0) X) := by
      have hsz : w.heap.size + 2 ≤ W.heap.size := by have := HW1s.out; have := hbW.size; omega
      have h0 : Below W.heap.size W X := by rw [← hX]; exact (Below.refl _ _).alloc (Nat.le_refl _) _
      exact ⟨by rw [← hX]; exact Box.new _ _ _, FB.nil _ _ _ _ _, by simp only [List.take_zero]; exact FB.nil _ _ _ _ _, (HL1.out.below hbW).below h0, hbW2.trans (h0.mono hsz), by have := h0.size; omega, hsz⟩
    clear hbW hbW2
    rw [← hX] at HST
    clear hX X
    go_wp2_with (first | (go_at_call 26; refine (HNO.out _).mono ?_; rintro e W2 ⟨rfl, hW2⟩; have hW3 := hW2.symm; clear hW2; subst hW3) | (go_at_call 36; refine (HCL.out _).mono ?_; rintro e W2 ⟨rfl, hW2⟩; have hW3 := hW2.symm; clear hW2; subst hW3) | (go_at_call 37; refine (HTG.out _).mono ?_; rintro e W2 ⟨rfl, hW2⟩; have hW3 := hW2.symm; clear hW2; subst hW3))
    go_loopg [13] x.queue.length (fun q i wx => ∃ (k : Nat) (qv' : Value), k ≤ x.queue.length ∧ q = x.queue.length - k ∧ i = .int .i64 k ∧ FS w1 (w.heap.size + 2) W.heap.size x.epoch x.next [] (fgQ cl tg (x.queue.take (k))) [] (.slice none 0 0) qv' (.slice (some ⟨w.heap.size + 1 + 1, 0, none⟩) 0 0) wx)
    case atStart => exact ⟨0, _, Nat.zero_le _, rfl, rfl, HST.out⟩
    case round =>
      obtain ⟨k, qv', hk, rfl, rfl, hS⟩ := hrel
      obtain ⟨⟨p0, p1, p2, p3⟩, _⟩ := KS.out wr hS.bel
      by_cases hlt : k < x.queue.length
      · obtain ⟨b, off, hae, e0, e1, e2, e3⟩ := KQ.out wr hS.bel k hlt
        subst hae
        obtain ⟨y, hy⟩ : ∃ y, x.queue[k] = y := ⟨_, rfl⟩
        rw [hy] at e0 e1 e2 e3
        have hi : (k : Int) < (x.queue.length : Int) := by omega
        have HK := hide hlt
        have HTH := hide (l6Of_any y cl tg wr)
        unfold wnV at HTH
        cases hth : thB cl tg y with
        | true =>
          rw [hth] at HTH
          have HN : Hid (∀ W2, Below wr.heap.size wr W2 → FS w1 (w.heap.size + 2) W.heap.size x.epoch x.next [] (fgQ cl tg (x.queue.take (k + 1))) [] (.slice none 0 0) qv' (.slice (some ⟨w.heap.size + 1 + 1, 0, none⟩) 0 0) W2) := fun W2 hb2 => by rw [fgQ_take_skip HK.out (by rw [hy]; exact hth)]; exact hS.below hb2
          clear hS hth hy
          go_wp2_with (go_at_call 38; refine HTH.out.mono ?_; rintro en W2 ⟨rfl, hb2⟩)
          go_roundg (x.queue.length - (k + 1))
          case measure => omega
          case rel => exact ⟨k + 1, _, by have := HK.out; omega, rfl, by have := HK.out; go_num, HN.out _ hb2⟩
        | false =>
          rw [hth] at HTH
          obtain ⟨aq, cq, hqf, _⟩ := hS.wns.form
          subst hqf
          obtain ⟨Qn, hQn⟩ : ∃ Qn, (fgQ cl tg (x.queue.take k)).length = Qn := ⟨_, rfl⟩
          rw [hQn] at hS
          have hQ1 : Qn ≤ 1000 := by have := fgQ_len cl tg (x.queue.take k); rw [List.length_take] at this; omega
          have HSS : Hid (∀ X, Below (w.heap.size + 2) w1 X → X.cell? ⟨W.heap.size, 3, none⟩ = some (.slice aq Qn cq) → (fun X : World => X.cell? ⟨W.heap.size, 3, none⟩ = some (.slice aq Qn cq) ∧ X.cell? ⟨w.heap.size, 3, none⟩ = some (.slice (some ⟨b, off, none⟩) x.queue.length c2) ∧ X.cell? ⟨b, off + k * 4, none⟩ = some (.int .i64 y.client) ∧ X.cell? ⟨b, off + k * 4 + 1, none⟩ = some (.string y.tag) ∧ X.cell? ⟨b, off + k * 4 + 2, none⟩ = some (.string y.query) ∧ X.cell? ⟨b, off + k * 4 + 3, none⟩ = some (.string y.pointer)) X) := fun X hX h3 => by
            obtain ⟨b', off', hae, i0, i1, i2, i3⟩ := KQ.out X hX k HK.out
            injection hae with hae
            injection hae with e4 e5 _
            subst e4 e5
            rw [hy] at i0 i1 i2 i3
            exact ⟨h3, (KS.out X hX).1.2.2.2, i0, i1, i2, i3⟩
          have HN : Hid (∀ D3, Below wr.heap.size wr D3 → (fun X : World => X.cell? ⟨W.heap.size, 3, none⟩ = some (.slice aq Qn cq) ∧ X.cell? ⟨w.heap.size, 3, none⟩ = some (.slice (some ⟨b, off, none⟩) x.queue.length c2) ∧ X.cell? ⟨b, off + k * 4, none⟩ = some (.int .i64 y.client) ∧ X.cell? ⟨b, off + k * 4 + 1, none⟩ = some (.string y.tag) ∧ X.cell? ⟨b, off + k * 4 + 2, none⟩ = some (.string y.query) ∧ X.cell? ⟨b, off + k * 4 + 3, none⟩ = some (.string y.pointer)) D3 ∧ (fun X : World => X.cell? ⟨W.heap.size, 3, none⟩ = some (.slice aq Qn cq) ∧ X.cell? ⟨w.heap.size, 3, none⟩ = some (.slice (some ⟨b, off, none⟩) x.queue.length c2) ∧ X.cell? ⟨b, off + k * 4, none⟩ = some (.int .i64 y.client) ∧ X.cell? ⟨b, off + k * 4 + 1, none⟩ = some (.string y.tag) ∧ X.cell? ⟨b, off + k * 4 + 2, none⟩ = some (.string y.query) ∧ X.cell? ⟨b, off + k * 4 + 3, none⟩ = some (.string y.pointer)) (D3.alloc (.cells #[.int .i64 y.client, .string y.tag, .string y.query, .string y.pointer] 33)) ∧ ∃ a' c' W3, (Builtin.append_ #[25, 25] 25 #[.slice aq Qn cq, .slice (some ⟨D3.heap.size, 0, none⟩) 1 1]).run Tryd.prog (D3.alloc (.cells #[.int .i64 y.client, .string y.tag, .string y.query, .string y.pointer] 33)) = .ok (.slice a' (Qn + 1) c') W3 ∧ (fun X : World => X.cell? ⟨W.heap.size, 3, none⟩ = some (.slice aq Qn cq) ∧ X.cell? ⟨w.heap.size, 3, none⟩ = some (.slice (some ⟨b, off, none⟩) x.queue.length c2) ∧ X.cell? ⟨b, off + k * 4, none⟩ = some (.int .i64 y.client) ∧ X.cell? ⟨b, off + k * 4 + 1, none⟩ = some (.string y.tag) ∧ X.cell? ⟨b, off + k * 4 + 2, none⟩ = some (.string y.query) ∧ X.cell? ⟨b, off + k * 4 + 3, none⟩ = some (.string y.pointer)) W3 ∧ W3.cell? ⟨W.heap.size, 3, none⟩ = some (.slice aq Qn cq) ∧ W3.frozen? ⟨W.heap.size, 3, none⟩ = false ∧ FS w1 (w.heap.size + 2) W.heap.size x.epoch x.next [] (fgQ cl tg (x.queue.take (k + 1))) [] (.slice none 0 0) (.slice a' (Qn + 1) c') (.slice (some ⟨w.heap.size + 1 + 1, 0, none⟩) 0 0) (W3.setCell ⟨W.heap.size, 3, none⟩ (.slice a' (Qn + 1) c'))) := fun D3 hb2 => by
            have h2 := hS.below hb2
            have h2a := h2.below ((Below.refl D3.heap.size D3).alloc (Nat.le_refl _) (.cells #[.int .i64 y.client, .string y.tag, .string y.query, .string y.pointer] 33))
            obtain ⟨v', W3, hr, hB3, t3, tf, hS3⟩ := h2.addQ y (by rw [hQn]; exact hQ1)
            obtain ⟨a', c', hvf, _⟩ := hS3.wns.form
            rw [List.length_append, List.length_singleton, hQn] at hvf
            subst hvf
            exact ⟨HSS.out D3 h2.bel (h2.box.cell 3 (by simp)), HSS.out _ h2a.bel (h2a.box.cell 3 (by simp)), a', c', W3, hr, HSS.out W3 hB3 t3, t3, tf, by rw [fgQ_take_hit HK.out (by rw [hy]; exact hth), hy]; exact hS3⟩
          clear hS hth hy
          go_wp2_with (first | (go_at_call 38; refine HTH.out.mono ?_; rintro en W2 ⟨rfl, hb2⟩))
          obtain ⟨D3, hwd3⟩ : ∃ D3, W2.drew = D3 := ⟨_, rfl⟩
          have hb3 : Below wr.heap.size wr D3 := by rw [← hwd3]; exact hb2.drew
          obtain ⟨hSd, hSa, a', c', W3, hr, hS6, t3, tf, hS3⟩ := HN.out D3 hb3
          have HS3 := hide hS3
          obtain ⟨Y, hY⟩ : ∃ Y, W3.setCell ⟨W.heap.size, 3, none⟩ (.slice a' (Qn + 1) c') = Y := ⟨_, rfl⟩
          rw [hY] at HS3
          clear hS3 hb3 p0 p1 p2 p3 e0 e1 e2 e3
          refine wp_region_two (fun X : World => X.cell? ⟨W.heap.size, 3, none⟩ = some (.slice aq Qn cq) ∧ X.cell? ⟨w.heap.size, 3, none⟩ = some (.slice (some ⟨b, off, none⟩) x.queue.length c2) ∧ X.cell? ⟨b, off + k * 4, none⟩ = some (.int .i64 y.client) ∧ X.cell? ⟨b, off + k * 4 + 1, none⟩ = some (.string y.tag) ∧ X.cell? ⟨b, off + k * 4 + 2, none⟩ = some (.string y.query) ∧ X.cell? ⟨b, off + k * 4 + 3, none⟩ = some (.string y.pointer)) 9 (by kernel_rfl) ?_
          rw [hwd3]
          refine wpTwo_take (i := 0) (some 61) (v := ?v0) rfl rfl (by kernel_rfl) (by kernel_rfl) (by kernel_rfl) (by kernel_rfl) (fun _ _ _ h => h) hSd (Or.inl ⟨by rfl, ?hy0⟩) ?rest0
          case hy0 => (intro w hSw; (try dsimp only at hSw); go_simp; try with_reducible rfl)
          try simp only [Act.put, List.setIfInBounds_toArray, List.set_cons_zero, List.set_cons_succ]
          refine wpTwo_take (i := 1) (some 62) (v := ?v1) rfl rfl (by kernel_rfl) (by kernel_rfl) (by kernel_rfl) (by kernel_rfl) (fun _ _ _ h => h) hSd (Or.inl ⟨by rfl, ?hy1⟩) ?rest1
          case hy1 => (intro w hSw; (try dsimp only at hSw); go_simp; try with_reducible rfl)
          try simp only [Act.put, List.setIfInBounds_toArray, List.set_cons_zero, List.set_cons_succ]
          refine wpTwo_take (i := 2) (some 63) (v := ?v2) rfl rfl (by kernel_rfl) (by kernel_rfl) (by kernel_rfl) (by kernel_rfl) (fun _ _ _ h => h) hSd (Or.inl ⟨by rfl, ?hy2⟩) ?rest2
          case hy2 => (intro w hSw; (try dsimp only at hSw); go_simp; try with_reducible rfl)
          try simp only [Act.put, List.setIfInBounds_toArray, List.set_cons_zero, List.set_cons_succ]
          refine wpTwo_take (i := 3) (some 64) (v := ?v3) rfl rfl (by kernel_rfl) (by kernel_rfl) (by kernel_rfl) (by kernel_rfl) (fun _ _ _ h => h) hSd (Or.inl ⟨by rfl, ?hy3⟩) ?rest3
          case hy3 => (intro w hSw; (try dsimp only at hSw); go_simp; try with_reducible rfl)
          try simp only [Act.put, List.setIfInBounds_toArray, List.set_cons_zero, List.set_cons_succ]
          refine wpTwo_take (i := 4) (some 65) (v := ?v4) rfl rfl (by kernel_rfl) (by kernel_rfl) (by kernel_rfl) (by kernel_rfl) (fun _ _ _ h => h) hSd (Or.inl ⟨by rfl, ?hy4⟩) ?rest4
          case hy4 => (intro w hSw; (try dsimp only at hSw); go_simp; try with_reducible rfl)
          try simp only [Act.put, List.setIfInBounds_toArray, List.set_cons_zero, List.set_cons_succ]
          refine wpTwo_take (i := 5) (some 66) (v := ?v5) rfl rfl (by kernel_rfl) (by kernel_rfl) (by kernel_rfl) (by kernel_rfl) (fun _ _ _ h => h) hSd (Or.inl ⟨by rfl, ?hy5⟩) ?rest5
          case hy5 => (intro w hSw; (try dsimp only at hSw); go_simp; try with_reducible rfl)
          try simp only [Act.put, List.setIfInBounds_toArray, List.set_cons_zero, List.set_cons_succ]
          refine wpTwo_take (i := 6) (some 67) (v := ?v6) rfl rfl (by kernel_rfl) (by kernel_rfl) (by kernel_rfl) (by kernel_rfl) (fun _ _ _ h => h) hSd (Or.inl ⟨by rfl, ?hy6⟩) ?rest6
          case hy6 => (intro w hSw; (try dsimp only at hSw); go_simp; try with_reducible rfl)
          try simp only [Act.put, List.setIfInBounds_toArray, List.set_cons_zero, List.set_cons_succ]
          refine wpTwo_one (j := 7) (by kernel_rfl) rfl (fun K hK => ?_)
          go_simp
          refine hK.out _ _ (fun _ => hSa) ?_
          clear hK K
          try simp only [Act.put, List.setIfInBounds_toArray, List.set_cons_zero, List.set_cons_succ]
          refine wpTwo_one (j := 8) (by kernel_rfl) rfl (fun K hK => ?_)
          refine step_app rfl _ _ 25 rfl hr (by first | rfl | simp [Act.eval, Act.put]) (by first | rfl | simp [Act.eval, Act.put]) ?_
          show K (Act.put _ (some 69) _) _
          refine hK.out _ _ (fun _ => hS6) ?_
          clear hK K
          try simp only [Act.put, List.setIfInBounds_toArray, List.set_cons_zero, List.set_cons_succ]
          refine wpTwo_one (j := 9) (by kernel_rfl) rfl (fun K hK => ?_)
          go_simp
          refine hK.out _ _ (fun h => absurd h (by decide)) ?_
          clear hK K
          refine wpTwo_one (j := 10) (by kernel_rfl) rfl (fun K hK => ?_)
          go_simp
          refine hK.out _ _ (fun h => absurd h (by decide)) ?_
          clear hK K
          refine wpTwo_done (by kernel_rfl) ?_ _
          try rw [hY]
          clear hSd hSa hS6 t3 tf hr hY
          go_wp2_with fail
          go_roundg (x.queue.length - (k + 1))
          case measure => omega
          case rel => exact ⟨k + 1, _, by have := HK.out; omega, rfl, by have := HK.out; go_num, HS3.out⟩
      · obtain rfl : k = x.queue.length := by omega
        rw [List.take_length] at hS
        obtain ⟨aq, cq, hqf, _⟩ := hS.wns.form
        subst hqf
        obtain ⟨Qn, hQn⟩ : ∃ Qn, (fgQ cl tg x.queue).length = Qn := ⟨_, rfl⟩
        rw [hQn] at hS
        have HS0 := hide hS
        clear hS
        go_wp2_with fail
        go_loopg [14, 11] x.conns.length (fun q i v wx => ∃ (k : Nat) (cv' : Value), k ≤ x.conns.length ∧ q = x.conns.length - k ∧ i = .int .i64 k ∧ FS w1 (w.heap.size + 2) W.heap.size x.epoch x.next ((x.conns.take (k)).map (fgC cl tg)) (fgQ cl tg x.queue) (fgN cl tg (x.conns.take (k))) cv' (.slice aq Qn cq) v wx)
        case atStart => exact ⟨0, _, Nat.zero_le _, rfl, rfl, by simp only [List.take_zero, List.map_nil, fgN, fgGo]; exact HS0.out⟩
        case round =>
          obtain ⟨k, cv', hk, rfl, rfl, hS⟩ := hrel
          obtain ⟨⟨p0, p1, p2, p3⟩, _⟩ := KS.out wr hS.bel
          by_cases hlt : k < x.conns.length
          · obtain ⟨b, off, hae, e0, e1, e2, e3, e4, e5, e6⟩ := KC.out wr hS.bel k hlt
            subst hae
            obtain ⟨c, hc⟩ : ∃ c, x.conns[k] = c := ⟨_, rfl⟩
            rw [hc] at e0 e1 e2 e3 e4 e5 e6
            have hi : (k : Int) < (x.conns.length : Int) := by omega
            have HK := hide hlt
            obtain ⟨ac, cc, hcf, _⟩ := hS.cns.form
            rw [List.length_map, List.length_take, Nat.min_eq_left (by omega)] at hcf
            subst hcf
            -- the element is put behind the others, in any world where the pool is as far
            have HADD : Hid (∀ V u d, FS w1 (w.heap.size + 2) W.heap.size x.epoch x.next ((x.conns.take k).map (fgC cl tg)) (fgQ cl tg x.queue) (fgN cl tg (x.conns.take (k + 1))) (.slice ac k cc) (.slice aq Qn cq) u V → fgC cl tg c = d → V.cell? ⟨W.heap.size, 2, none⟩ = some (.slice ac k cc) ∧ ∃ a' c' V3, (Builtin.append_ #[24, 24] 24 #[.slice ac k cc, .slice (some ⟨V.heap.size, 0, none⟩) 1 1]).run Tryd.prog (V.alloc (.cells #[.bool d.busy, .string d.control, .int .i64 d.want.client, .string d.want.tag, .string d.want.query, .string d.want.pointer, .int .i64 d.due] 37)) = .ok (.slice a' (k + 1) c') V3 ∧ V3.cell? ⟨W.heap.size, 2, none⟩ = some (.slice ac k cc) ∧ V3.frozen? ⟨W.heap.size, 2, none⟩ = false ∧ FS w1 (w.heap.size + 2) W.heap.size x.epoch x.next ((x.conns.take (k + 1)).map (fgC cl tg)) (fgQ cl tg x.queue) (fgN cl tg (x.conns.take (k + 1))) (.slice a' (k + 1) c') (.slice aq Qn cq) u (V3.setCell ⟨W.heap.size, 2, none⟩ (.slice a' (k + 1) c'))) := fun V u d hV hd => by
              obtain ⟨v', V3, hr, t2, tf, h3⟩ := hV.addC d (by rw [List.length_map, List.length_take]; omega)
              obtain ⟨a', c', hvf, _⟩ := h3.cns.form
              rw [List.length_append, List.length_singleton, List.length_map, List.length_take, Nat.min_eq_left (by have := HK.out; omega)] at hvf
              subst hvf
              exact ⟨hV.box.cell 2 (by simp), a', c', V3, hr, t2, tf, by rw [fgC_take HK.out, hc, hd]; exact h3⟩
            obtain ⟨wa, hwa⟩ : ∃ wa, wr.alloc (Obj.cells #[.bool c.busy, .string c.control, .int .i64 c.want.client, .string c.want.tag, .string c.want.query, .string c.want.pointer, .int .i64 c.due] 37) = wa := ⟨_, rfl⟩
            have hba : Below wr.heap.size wr wa := by rw [← hwa]; exact (Below.refl _ _).alloc (Nat.le_refl _) _
            have hXB : Box wa wr.heap.size 37 #[.bool c.busy, .string c.control, .int .i64 c.want.client, .string c.want.tag, .string c.want.query, .string c.want.pointer, .int .i64 c.due] := by rw [← hwa]; exact Box.new _ _ _
            have KX : Hid (∀ V, Below wa.heap.size wa V → (V.cell? ⟨wr.heap.size, 0, none⟩ = some (.bool c.busy) ∧ V.cell? ⟨wr.heap.size, 1, none⟩ = some (.string c.control) ∧ V.cell? ⟨wr.heap.size, 2, none⟩ = some (.int .i64 c.want.client) ∧ V.cell? ⟨wr.heap.size, 3, none⟩ = some (.string c.want.tag) ∧ V.cell? ⟨wr.heap.size, 4, none⟩ = some (.string c.want.query) ∧ V.cell? ⟨wr.heap.size, 5, none⟩ = some (.string c.want.pointer) ∧ V.cell? ⟨wr.heap.size, 6, none⟩ = some (.int .i64 c.due))) := fun V hV => by
              have hq := hXB.below hV
              exact ⟨hq.cell 0 (by simp), hq.cell 1 (by simp), hq.cell 2 (by simp), hq.cell 3 (by simp), hq.cell 4 (by simp), hq.cell 5 (by simp), hq.cell 6 (by simp)⟩
            have hSa := hS.below hba
            obtain ⟨z0, z1, z2, z3, z4, z5, z6⟩ := KX.out wa (Below.refl _ _)
            cases hbz : c.busy with
            | false =>
              have he : fgB cl tg (x.conns[k]'hlt) = false := by rw [hc]; unfold fgB; rw [hbz]; rfl
              have hd : fgC cl tg c = c := by unfold fgC; rw [← hc, he]; rfl
              obtain ⟨o2, a', c', V3, hr, t2, tf, h3⟩ := HADD.out wa u11 c (by rw [fgN_skip cl tg x.conns hlt he]; exact hSa) hd
              have H3 := hide h3
              rw [hbz] at e0 z0 hr hwa
              clear h3 hS hSa hXB hba hbz he hd hc
              go_wp2_with (first | (at_builtin; refine wpList_app rfl _ _ 24 rfl hr (by first | rfl | simp [Act.eval, Act.put]) (by first | rfl | simp [Act.eval, Act.put]) ?_))
              go_roundg (x.conns.length - (k + 1))
              case measure => omega
              case rel => exact ⟨k + 1, _, by have := HK.out; omega, rfl, by have := HK.out; go_num, H3.out⟩
            | true =>
              have HTH := hide (l6Of_any c.want cl tg wa)
              unfold wnV at HTH
              cases hth : thB cl tg c.want with
              | false =>
                rw [hth] at HTH
                have he : fgB cl tg (x.conns[k]'hlt) = false := by rw [hc]; unfold fgB; rw [hbz, hth]; rfl
                have hd : fgC cl tg c = c := by unfold fgC; rw [← hc, he]; rfl
                have HN := hide (fun V (hV : Below wa.heap.size wa V) => HADD.out V u11 c (by rw [fgN_skip cl tg x.conns hlt he]; exact hSa.below hV) hd)
                rw [hbz] at e0 z0 hwa KX HN
                clear hS hSa hXB hba hbz he hd hc hth
                go_wp2_with (first | (go_at_call 38; refine HTH.out.mono ?_; rintro en W2 ⟨rfl, hb2⟩; obtain ⟨y0, y1, y2, y3, y4, y5, y6⟩ := KX.out W2 hb2; obtain ⟨o2, a', c', V3, hr, t2, tf, h3⟩ := HN.out W2 hb2; have H3 := hide h3; clear h3) | (at_builtin; refine wpList_app rfl _ _ 24 rfl hr (by first | rfl | simp [Act.eval, Act.put]) (by first | rfl | simp [Act.eval, Act.put]) ?_))
                go_roundg (x.conns.length - (k + 1))
                case measure => omega
                case rel => exact ⟨k + 1, _, by have := HK.out; omega, rfl, by have := HK.out; go_num, H3.out⟩
              | true =>
                rw [hth] at HTH
                have he : fgB cl tg (x.conns[k]'hlt) = true := by rw [hc]; unfold fgB; rw [hbz, hth]; rfl
                have hd : fgC cl tg c = cn0 := by unfold fgC; rw [← hc, he]; rfl
                obtain ⟨av, cav, hvf, _⟩ := hS.ins.form
                subst hvf
                obtain ⟨Nn, hNn⟩ : ∃ Nn, (fgN cl tg (x.conns.take k)).length = Nn := ⟨_, rfl⟩
                rw [hNn] at hS hSa
                have hNl : Nn ≤ 1000 := by have := fgN_len cl tg (x.conns.take k); rw [List.length_take] at this; omega
                have HN : Hid (∀ V, Below wa.heap.size wa V → ∃ av' cav' V1 Y a' c' V3, (Builtin.append_ #[43, 43] 43 #[.slice av Nn cav, .slice (some ⟨V.heap.size, 0, none⟩) 1 1]).run Tryd.prog (V.alloc (.cells #[.int .i64 (k : Int)] 3)) = .ok (.slice av' (Nn + 1) cav') V1 ∧ ((V1.cell? ⟨wr.heap.size, 0, none⟩ = some (.bool c.busy) ∧ V1.cell? ⟨wr.heap.size, 1, none⟩ = some (.string c.control) ∧ V1.cell? ⟨wr.heap.size, 2, none⟩ = some (.int .i64 c.want.client) ∧ V1.cell? ⟨wr.heap.size, 3, none⟩ = some (.string c.want.tag) ∧ V1.cell? ⟨wr.heap.size, 4, none⟩ = some (.string c.want.query) ∧ V1.cell? ⟨wr.heap.size, 5, none⟩ = some (.string c.want.pointer) ∧ V1.cell? ⟨wr.heap.size, 6, none⟩ = some (.int .i64 c.due)) ∧ V1.frozen? ⟨wr.heap.size, 0, none⟩ = false ∧ V1.frozen? ⟨wr.heap.size, 1, none⟩ = false ∧ V1.frozen? ⟨wr.heap.size, 2, none⟩ = false ∧ V1.frozen? ⟨wr.heap.size, 3, none⟩ = false ∧ V1.frozen? ⟨wr.heap.size, 4, none⟩ = false ∧ V1.frozen? ⟨wr.heap.size, 5, none⟩ = false ∧ V1.frozen? ⟨wr.heap.size, 6, none⟩ = false) ∧ (((((((V1.setCell ⟨wr.heap.size, 0, none⟩ (.bool false)).setCell ⟨wr.heap.size, 1, none⟩ (.string ⟨#[]⟩)).setCell ⟨wr.heap.size, 2, none⟩ (.int .i64 0)).setCell ⟨wr.heap.size, 3, none⟩ (.string ⟨#[]⟩)).setCell ⟨wr.heap.size, 4, none⟩ (.string ⟨#[]⟩)).setCell ⟨wr.heap.size, 5, none⟩ (.string ⟨#[]⟩)).setCell ⟨wr.heap.size, 6, none⟩ (.int .i64 0)) = Y ∧ (Y.cell? ⟨wr.heap.size, 0, none⟩ = some (.bool false) ∧ Y.cell? ⟨wr.heap.size, 1, none⟩ = some (.string ⟨#[]⟩) ∧ Y.cell? ⟨wr.heap.size, 2, none⟩ = some (.int .i64 0) ∧ Y.cell? ⟨wr.heap.size, 3, none⟩ = some (.string ⟨#[]⟩) ∧ Y.cell? ⟨wr.heap.size, 4, none⟩ = some (.string ⟨#[]⟩) ∧ Y.cell? ⟨wr.heap.size, 5, none⟩ = some (.string ⟨#[]⟩) ∧ Y.cell? ⟨wr.heap.size, 6, none⟩ = some (.int .i64 0)) ∧ Y.cell? ⟨W.heap.size, 2, none⟩ = some (.slice ac k cc) ∧ (Builtin.append_ #[24, 24] 24 #[.slice ac k cc, .slice (some ⟨Y.heap.size, 0, none⟩) 1 1]).run Tryd.prog (Y.alloc (.cells #[.bool false, .string ⟨#[]⟩, .int .i64 0, .string ⟨#[]⟩, .string ⟨#[]⟩, .string ⟨#[]⟩, .int .i64 0] 37)) = .ok (.slice a' (k + 1) c') V3 ∧ V3.cell? ⟨W.heap.size, 2, none⟩ = some (.slice ac k cc) ∧ V3.frozen? ⟨W.heap.size, 2, none⟩ = false ∧ FS w1 (w.heap.size + 2) W.heap.size x.epoch x.next ((x.conns.take (k + 1)).map (fgC cl tg)) (fgQ cl tg x.queue) (fgN cl tg (x.conns.take (k + 1))) (.slice a' (k + 1) c') (.slice aq Qn cq) (.slice av' (Nn + 1) cav') (V3.setCell ⟨W.heap.size, 2, none⟩ (.slice a' (k + 1) c'))) := fun V hV => by
                  have hSV := hSa.below hV
                  have hXV := hXB.below hV
                  obtain ⟨v', V1, hrn, o1, h1⟩ := hSV.addN (k : Int) (by rw [hNn]; exact hNl)
                  obtain ⟨av', cav', hvf, _⟩ := h1.ins.form
                  rw [List.length_append, List.length_singleton, hNn] at hvf
                  subst hvf
                  have hX1 : Box V1 wr.heap.size 37 #[.bool c.busy, .string c.control, .int .i64 c.want.client, .string c.want.tag, .string c.want.query, .string c.want.pointer, .int .i64 c.due] := hXV.keepT (TSame.own hSV.ins o1 (by decide))
                  obtain ⟨Y, hY⟩ : ∃ Y, (((((((V1.setCell ⟨wr.heap.size, 0, none⟩ (.bool false)).setCell ⟨wr.heap.size, 1, none⟩ (.string ⟨#[]⟩)).setCell ⟨wr.heap.size, 2, none⟩ (.int .i64 0)).setCell ⟨wr.heap.size, 3, none⟩ (.string ⟨#[]⟩)).setCell ⟨wr.heap.size, 4, none⟩ (.string ⟨#[]⟩)).setCell ⟨wr.heap.size, 5, none⟩ (.string ⟨#[]⟩)).setCell ⟨wr.heap.size, 6, none⟩ (.int .i64 0)) = Y := ⟨_, rfl⟩
                  have oY : Only [wr.heap.size] V1 Y := by rw [← hY]; exact (((((((Only.refl _ _).setCell (by simp) _).setCell (by simp) _).setCell (by simp) _).setCell (by simp) _).setCell (by simp) _).setCell (by simp) _).setCell (by simp) _
                  have hXY : Box Y wr.heap.size 37 #[.bool false, .string ⟨#[]⟩, .int .i64 0, .string ⟨#[]⟩, .string ⟨#[]⟩, .string ⟨#[]⟩, .int .i64 0] := by
                    rw [← hY]
                    have h7 := ((((((hX1.set 0 (.bool false)).set 1 (.string ⟨#[]⟩)).set 2 (.int .i64 0)).set 3 (.string ⟨#[]⟩)).set 4 (.string ⟨#[]⟩)).set 5 (.string ⟨#[]⟩)).set 6 (.int .i64 0)
                    simpa using h7
                  have hSY := h1.conn hX1 (fun hm => by have := (hS.cns.own _ hm).2; omega) (by have := hS.sz; omega) oY
                  rw [← fgN_hit cl tg x.conns hlt he] at hSY
                  obtain ⟨o2, a', c', V3, hr, t2, tf, h3⟩ := HADD.out Y _ cn0 hSY hd
                  exact ⟨av', cav', V1, Y, a', c', V3, hrn, ⟨⟨hX1.cell 0 (by simp), hX1.cell 1 (by simp), hX1.cell 2 (by simp), hX1.cell 3 (by simp), hX1.cell 4 (by simp), hX1.cell 5 (by simp), hX1.cell 6 (by simp)⟩, hX1.frozen 0, hX1.frozen 1, hX1.frozen 2, hX1.frozen 3, hX1.frozen 4, hX1.frozen 5, hX1.frozen 6⟩, hY, ⟨hXY.cell 0 (by simp), hXY.cell 1 (by simp), hXY.cell 2 (by simp), hXY.cell 3 (by simp), hXY.cell 4 (by simp), hXY.cell 5 (by simp), hXY.cell 6 (by simp)⟩, o2, hr, t2, tf, h3⟩
                rw [hbz] at e0 z0 hwa
                clear hS hSa hXB hba hbz he hd hc hth
                go_wp2_with (first | (go_at_call 38; refine HTH.out.mono ?_; rintro en W2 ⟨rfl, hb2⟩; obtain ⟨av', cav', V1, Y, a', c', V3, hrn, ⟨⟨y0, y1, y2, y3, y4, y5, y6⟩, q0, q1, q2, q3, q4, q5, q6⟩, hY, ⟨v0, v1, v2, v3, v4, v5, v6⟩, o2, hr, t2, tf, h3⟩ := HN.out W2 hb2; have H3 := hide h3; clear h3) | (at_builtin; refine wpList_app rfl _ _ 43 rfl hrn (by first | rfl | simp [Act.eval, Act.put]) (by first | rfl | simp [Act.eval, Act.put]) ?_) | (at_builtin; refine wpList_app rfl _ _ 24 rfl hr (by first | rfl | simp [Act.eval, Act.put]) (by first | rfl | simp [Act.eval, Act.put]) ?_))
                go_roundg (x.conns.length - (k + 1))
                case measure => omega
                case rel => exact ⟨k + 1, _, by have := HK.out; omega, rfl, by have := HK.out; go_num, H3.out⟩
          · obtain rfl : k = x.conns.length := by omega
            rw [List.take_length] at hS
            have hpl : PlAt 0 wr ⟨x.epoch, x.next, x.conns.map (fgC cl tg), fgQ cl tg x.queue⟩ cv' (.slice aq Qn cq) := ⟨At.mono mono_flat (hS.cns.at cnC_len (by rw [List.length_map]; omega) (mem_all fun d hd => by obtain ⟨c, hc, rfl⟩ := List.mem_map.1 hd; exact fgC_Z cl tg (all_mem HZC.out c hc))) (Nat.zero_le _), At.mono mono_flat (hS.wns.at wnC_len (by omega) (mem_all (fgQ_Z cl tg (all_mem HZQ.out)))) (Nat.zero_le _)⟩
            have HLW := hide hS.ins
            obtain ⟨av, cav, hfv, _⟩ := hS.ins.form
            subst hfv
            obtain ⟨ac, cc, hcf, _⟩ := hS.cns.form
            rw [List.length_map] at hcf
            subst hcf
            have HXR9 : Hid (Box wr (w.heap.size + 1) 27 #[.int .i64 0, .int .i64 0, .slice none 0 0, .slice none 0 0]) := HXR.out.keep (hS.bel.block _ (by omega))
            obtain ⟨⟨m0, m1, m2, m3⟩, _⟩ := hS.box.pool
            have HPL9 := hide hpl
            have HB9 : Hid (Below w.heap.size w wr) := HB1.out.trans (hS.bel.mono (by omega))
            clear hS hpl
            go_wp2_with fail
            refine (HSV.out _ _ _ HPL9.out).mono ?_
            rintro en W6 ⟨cv6, qv6, sv6, rfl, hp6, hs6, hb6⟩
            obtain ⟨⟨a6, c6, e6⟩, a7, c7, e7⟩ := hp6.form
            subst e6 e7
            obtain ⟨a8, c8, e8, _⟩ := hs6.form
            subst e8
            obtain ⟨W6a, hW6a⟩ : ∃ X, W6.alloc (Obj.cells #[.int .i64 R.1.epoch, .int .i64 R.1.next, .slice a6 R.1.conns.length c6, .slice a7 R.1.queue.length c7] 27) = X := ⟨_, rfl⟩
            have hb6a : Below W6.heap.size W6 W6a := by rw [← hW6a]; exact (Below.refl _ _).alloc (Nat.le_refl _) _
            have hXO6 : Box W6a W6.heap.size 27 #[.int .i64 R.1.epoch, .int .i64 R.1.next, .slice a6 R.1.conns.length c6, .slice a7 R.1.queue.length c7] := by rw [← hW6a]; exact Box.new _ _ _
            obtain ⟨⟨t0, t1, t2, t3⟩, _⟩ := hXO6.pool
            have hXR6 := (HXR9.out.below hb6).below hb6a
            obtain ⟨⟨r0, r1, r2, r3⟩, f0, f1, f2, f3⟩ := hXR6.pool
            have hz9 := hXR6.lt
            have HXR6 := hide hXR6
            have HP6 := hide (hp6.below hb6a)
            have HS6 := hide (At.kept kept_flat hs6 hb6a)
            have HL6 := hide (HLW.out.below (bjoin hb6a hb6))
            have HB6 := hide (bjoin (bjoin hb6a hb6) HB9.out)
            clear hp6 hs6 hb6 hb6a hXO6 hXR6
            go_wp2_with fail
            refine bodyPost_ret (v := .tuple #[.agg #[.int .i64 R.1.epoch, .int .i64 R.1.next, .slice a6 R.1.conns.length c6, .slice a7 R.1.queue.length c7], .slice a8 R.2.length c8, .slice av (fgN cl tg x.conns).length cav]) (by simp [results, Tryd.results16, go_sem, r0, r1, r2, r3, hz9]) rfl ?_
            have h4 := four_blk W6a (w.heap.size + 1) (.int .i64 R.1.epoch) (.int .i64 R.1.next) (.slice a6 R.1.conns.length c6) (.slice a7 R.1.queue.length c7)
            unfold FgtSP
            rw [HAP.out]
            refine ⟨.slice a6 R.1.conns.length c6, .slice a7 R.1.queue.length c7, _, _, rfl, ?_, ?_, ?_, ?_⟩
            · exact PlAt.off (X := _) HP6.out HXR6.out (Nat.le_of_eq h4.2.symm) fun d hd _ => h4.1 d hd
            · exact at_off HS6.out HXR6.out (st_off 0) (Nat.le_of_eq h4.2.symm) fun d hd _ => h4.1 d hd
            · have o4 : Only [w.heap.size + 1] W6a ((((W6a.setCell ⟨w.heap.size + 1, 0, none⟩ (.int .i64 R.1.epoch)).setCell ⟨w.heap.size + 1, 1, none⟩ (.int .i64 R.1.next)).setCell ⟨w.heap.size + 1, 2, none⟩ (.slice a6 R.1.conns.length c6)).setCell ⟨w.heap.size + 1, 3, none⟩ (.slice a7 R.1.queue.length c7)) := ((((Only.refl _ _).setCell (by simp) _).setCell (by simp) _).setCell (by simp) _).setCell (by simp) _
              exact At.mono mono_flat ((HL6.out.keepT (TSame.only o4 HXR6.out (by decide))).at inC_len (by have := fgN_len cl tg x.conns; omega) (fun _ _ => trivial)) (by first | omega | exact Nat.le_refl _ | simp)
            · exact (((HB6.out.setCell (by simp) _).setCell (by simp) _).setCell (by simp) _).setCell (by simp) _
  · have HG := hide (HBAD.out hall)
    have HX := hide (four_bad hall)
    clear hall HBAD
    rcases HX.out with h1 | ⟨h1, h2 | ⟨h2, h3 | ⟨h3, h4⟩⟩⟩
    all_goals
      try rw [h1] at HPO
      try rw [h2] at HNO
      try rw [h3] at HCL
      try rw [h4] at HTG
      clear HX
      go_enter Tryd.func16, Tryd.ntmps16
      go_wp2_with fail
      refine (HPO.out _ HPL.out).mono ?_
      rintro en W ⟨rfl, hbW⟩
      obtain ⟨⟨p0, p1, p2, p3⟩, ⟨⟨r0, r1, r2, r3⟩, f0, f1, f2, f3⟩, hz9⟩ := KS.out W (hbW.mono (by have := HW1s.out; omega))
      have HBW := hide hbW
      clear hbW
      go_wp2_with (first | (go_at_call 26; refine (HNO.out _).mono ?_; rintro e W2 ⟨rfl, hW2⟩; have hW3 := hW2.symm; clear hW2; subst hW3) | (go_at_call 36; refine (HCL.out _).mono ?_; rintro e W2 ⟨rfl, hW2⟩; have hW3 := hW2.symm; clear hW2; subst hW3) | (go_at_call 37; refine (HTG.out _).mono ?_; rintro e W2 ⟨rfl, hW2⟩; have hW3 := hW2.symm; clear hW2; subst hW3))
      exact bodyPost_ret (v := .tuple #[.agg #[.int .i64 0, .int .i64 0, .slice none 0 0, .slice none 0 0], .slice (some ⟨W.heap.size, 0, none⟩) 0 0, .slice (some ⟨w.heap.size + 1 + 1, 0, none⟩) 0 0]) (by simp [results, Tryd.results16, go_sem, r0, r1, r2, r3, hz9]) rfl (HG.out _ HBW.out _ _ _ _)
end Go.Proofs.YtfdefjdogmhinaaDoor.Msg
