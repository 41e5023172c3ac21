import Derived.Test.YtfdefjdogmhinaaDoorServePurewithDeskLine
namespace Go.Proofs.YtfdefjdogmhinaaDoor.Msg
open Go.ChangeShapes Go.WideShapes Go.ChangeAt Go.RowKit
set_option linter.unusedVariables false
set_option linter.unusedSimpArgs false

theorem Box.pool {w : World} {b : Nat} {t : TypeId} {e n : Int} {cv qv : Value} (h : Box w b t #[.int .i64 e, .int .i64 n, cv, qv]) :
    (w.cell? ⟨b, 0, none⟩ = some (.int .i64 e) ∧ w.cell? ⟨b, 1, none⟩ = some (.int .i64 n) ∧ w.cell? ⟨b, 2, none⟩ = some cv ∧ w.cell? ⟨b, 3, none⟩ = some qv) ∧ w.frozen? ⟨b, 0, none⟩ = false ∧ w.frozen? ⟨b, 1, none⟩ = false ∧ w.frozen? ⟨b, 2, none⟩ = false ∧ w.frozen? ⟨b, 3, none⟩ = false :=
  ⟨⟨h.cell 0 (by simp), h.cell 1 (by simp), h.cell 2 (by simp), h.cell 3 (by simp)⟩, h.frozen 0, h.frozen 1, h.frozen 2, h.frozen 3⟩

/-- what the loop of serving holds -/
def ServI (w : World) (x : Pl) (now : Int) (xq : Nat) (R : Pl × List St) (q : Nat) (v6 : Value) (wx : World) (y : Pl) (acc : List St) (cv qv : Value) : Prop :=
  (y.queue.length = q ∧ R = ((serve q now y).1, acc ++ (serve q now y).2) ∧ y.epoch = x.epoch ∧ x.next ≤ y.next ∧ y.next + q = x.next + xq ∧ y.conns.length = x.conns.length ∧ acc.length + q = xq ∧ ∀ i (h : i < acc.length), stZ acc[i]) ∧
    PlAt 0 wx y cv qv ∧ FB stC 6 48 (w.heap.size + 2) wx v6 acc ∧ Box wx w.heap.size 27 #[.int .i64 y.epoch, .int .i64 y.next, cv, qv] ∧ Box wx (w.heap.size + 1) 27 #[.int .i64 0, .int .i64 0, .slice none 0 0, .slice none 0 0] ∧ Below w.heap.size w wx

/-- a list does not lie in a box whose cells are of other kinds -/
theorem at_off {α : Type} {C : α → List Value} {Z : α → Prop} {c : Nat} {W X : World} {v : Value} {xs : List α} {B : Nat} {t : TypeId} {arr : Array Value} (h : At c (FR C Z) 0 W v xs) (hX : Box W B t arr)
    (hne : ∀ x, ∃ j, ∃ hj : j < (C x).length, ∀ k (hk : k < arr.size), arr[k] ≠ (C x)[j]) (hs : W.heap.size ≤ X.heap.size) (hb : ∀ d, d ≠ B → d < W.heap.size → X.heap[d]? = W.heap[d]?) : At c (FR C Z) 0 X v xs := by
  obtain ⟨hl, h⟩ := h
  refine ⟨hl, ?_⟩
  rcases h with h | ⟨b, off, cap, rfl, hlt, h⟩
  · exact .inl h
  · refine .inr ⟨b, off, cap, rfl, ⟨hlt.1, Nat.lt_of_lt_of_le hlt.2 hs⟩, fun i hi => ⟨fun j hj => ?_, (h i hi).2⟩⟩
    have hbB : b ≠ B := fun e => by
      subst e
      obtain ⟨j0, hj0, hk⟩ := hne xs[i]
      have hc := (h i hi).1 j0 hj0
      unfold Box at hX
      simp only [World.cell?, hX] at hc
      have hoff : off + i * c + j0 < arr.size := by
        by_cases hh : off + i * c + j0 < arr.size
        · exact hh
        · simp [hh] at hc
      simp [hoff] at hc
      exact hk _ hoff hc
    have hbl := hb b hbB hlt.2
    rw [cellSame hbl]
    exact (h i hi).1 j hj
theorem cn_off (B : Nat) : ∀ x : Cn, ∃ j, ∃ hj : j < (cnC x).length, ∀ k (hk : k < (#[Value.int .i64 0, .int .i64 0, .slice none 0 0, .slice none 0 0] : Array Value).size), (#[Value.int .i64 0, .int .i64 0, .slice none 0 0, .slice none 0 0] : Array Value)[k] ≠ (cnC x)[j] := fun x => ⟨0, by simp [cnC], fun k hk => by
  match k, hk with
  | 0, _ => simp [cnC]
  | 1, _ => simp [cnC]
  | 2, _ => simp [cnC]
  | 3, _ => simp [cnC]⟩
theorem wn_off (B : Nat) : ∀ x : Wn, ∃ j, ∃ hj : j < (wnC x).length, ∀ k (hk : k < (#[Value.int .i64 0, .int .i64 0, .slice none 0 0, .slice none 0 0] : Array Value).size), (#[Value.int .i64 0, .int .i64 0, .slice none 0 0, .slice none 0 0] : Array Value)[k] ≠ (wnC x)[j] := fun x => ⟨1, by simp [wnC], fun k hk => by
  match k, hk with
  | 0, _ => simp [wnC]
  | 1, _ => simp [wnC]
  | 2, _ => simp [wnC]
  | 3, _ => simp [wnC]⟩

set_option maxRecDepth 100000 in
set_option maxHeartbeats 8000000 in
theorem serveS_any (x : Pl) (cv qv : Value) (now : Int) (w : World) {lo : Nat} (hp : PlAt lo w x cv qv) (he0 : 0 ≤ x.epoch) (he1 : x.epoch ≤ 1000000) (hn0 : 0 ≤ x.next) (hn1 : x.next ≤ 1000000) (hcl : x.conns.length ≤ 4) (hql : x.queue.length ≤ 17) (hw0 : 0 ≤ now) (hw1 : now ≤ 900000000) :
    Calls Tryd.prog 29 #[plV x cv qv, .int .i64 now] w fun en w' => ∃ cv2 qv2 sv, en = .returned (.tuple #[plV (serve x.queue.length now x).1 cv2 qv2, sv]) ∧ PlAt 0 w' (serve x.queue.length now x).1 cv2 qv2 ∧ StsAt 0 w' sv (serve x.queue.length now x).2 ∧ Below w.heap.size w w' := by
  obtain ⟨R, hR⟩ : ∃ R, serve x.queue.length now x = R := ⟨_, rfl⟩
  rw [hR]
  have hp0 : PlAt 0 w x cv qv := ⟨At.mono mono_flat hp.1 (Nat.zero_le _), At.mono mono_flat hp.2 (Nat.zero_le _)⟩
  obtain ⟨a1, c1, hf1, _⟩ := hp.1.form
  obtain ⟨a2, c2, hf2, _⟩ := hp.2.form
  obtain ⟨w1, hw1⟩ : ∃ w1, ((w.alloc (Obj.cells #[.int .i64 x.epoch, .int .i64 x.next, cv, qv] 27)).alloc (Obj.cells #[.int .i64 0, .int .i64 0, .slice none 0 0, .slice none 0 0] 27)).alloc (Obj.cells #[] 48) = w1 := ⟨_, rfl⟩
  have HI : Hid (ServI w x now x.queue.length R x.queue.length (.slice (some ⟨w.heap.size + 2, 0, none⟩) 0 0) w1 x [] cv qv) := by
    have hbl : Below w.heap.size w w1 := by rw [← hw1]; exact (((Below.refl w.heap.size w).alloc (Nat.le_refl _) _).alloc (by simp) _).alloc (by simp; omega) _
    refine ⟨⟨rfl, by rw [hR]; simp, rfl, Int.le_refl _, rfl, rfl, by simp, by simp⟩, hp0.below hbl, ?_, ?_, ?_, hbl⟩
    · have := FB.lit stC 6 48 ((w.alloc (Obj.cells #[.int .i64 x.epoch, .int .i64 x.next, cv, qv] 27)).alloc (Obj.cells #[.int .i64 0, .int .i64 0, .slice none 0 0, .slice none 0 0] 27))
      rw [hw1, Deep.nblk_alloc, Deep.nblk_alloc] at this
      exact this
    · rw [← hw1]; exact ((Box.new w _ _).alloc _).alloc _
    · have := (Box.new (w.alloc (Obj.cells #[.int .i64 x.epoch, .int .i64 x.next, cv, qv] 27)) 27 #[.int .i64 0, .int .i64 0, .slice none 0 0, .slice none 0 0]).alloc (Obj.cells #[] 48)
      rw [hw1, Deep.nblk_alloc] at this
      exact this
  unfold plV
  subst hf1 hf2
  have HW1 := hide hw1
  clear hp hp0 hR hw1
  go_enter Tryd.func29, Tryd.ntmps29
  go_wp2_with fail
  rw [HW1.out]
  go_loopg [6] x.queue.length (fun q v6 wx => ∃ y acc cv qv, ServI w x now x.queue.length R q v6 wx y acc cv qv)
  case atStart => exact ⟨x, [], _, _, HI.out⟩
  case round =>
    obtain ⟨y, acc, cv, qv, ⟨rfl, hRe, hye, hyn, hyn2, hyc, hal, haz⟩, hpl, hFB, hX0, hX1, hb⟩ := hrel
    obtain ⟨E, N, cs, qs⟩ := y
    simp only at hye hyn hyn2 hyc hal hpl hX0 hRe
    obtain ⟨a3, c3, hf3, _⟩ := hpl.1.form
    obtain ⟨a4, c4, hf4, _⟩ := hpl.2.form
    simp only at hf3 hf4
    subst hf3 hf4
    obtain ⟨⟨p0, p1, p2, p3⟩, _⟩ := hX0.pool
    obtain ⟨a6, c6, hf6, _, _⟩ := hFB.form
    obtain ⟨V6, rfl⟩ : ∃ v, v = u6 := ⟨_, rfl⟩
    subst hf6
    have HFREE := hide (fun W (h : PlAt 0 W ⟨E, N, cs, qs⟩ (.slice a3 cs.length c3) (.slice a4 qs.length c4)) => free_any ⟨E, N, cs, qs⟩ _ _ W h)
    unfold plV at HFREE
    simp only at HFREE
    have HPL := hide hpl
    have HFB := hide hFB
    have HX0 := hide hX0
    have HX1 := hide hX1
    have HB := hide hb
    have HAZ := hide haz
    have HAR : Hid (E = x.epoch ∧ x.next ≤ N ∧ N + qs.length = x.next + x.queue.length ∧ cs.length = x.conns.length ∧ acc.length + qs.length = x.queue.length) := ⟨hye, hyn, hyn2, hyc, hal⟩
    have HRE := hide hRe
    have hE0 : 0 ≤ E := by omega
    have hE1 : E ≤ 1000000 := by omega
    have hN0 : 0 ≤ N := by omega
    have hN1 : N ≤ 1000017 := by omega
    have hcs4 : cs.length ≤ 4 := by omega
    have hqs17 : qs.length ≤ 17 := by omega
    have hacc : acc.length ≤ 17 := by omega
    clear hRe hye hyn hyn2 hyc hal haz hpl hFB hX0 hX1 hb
    -- the end of the walk
    have HEND : Hid (∀ W, Below wr.heap.size wr W → ∀ x0 x1 x2 x3, R = (⟨E, N, cs, qs⟩, acc) → PlAt 0 ((((W.setCell ⟨w.heap.size + 1, 0, none⟩ x0).setCell ⟨w.heap.size + 1, 1, none⟩ x1).setCell ⟨w.heap.size + 1, 2, none⟩ x2).setCell ⟨w.heap.size + 1, 3, none⟩ x3) R.1 (.slice a3 cs.length c3) (.slice a4 qs.length c4) ∧ StsAt 0 ((((W.setCell ⟨w.heap.size + 1, 0, none⟩ x0).setCell ⟨w.heap.size + 1, 1, none⟩ x1).setCell ⟨w.heap.size + 1, 2, none⟩ x2).setCell ⟨w.heap.size + 1, 3, none⟩ x3) (.slice a6 acc.length c6) R.2 ∧ Below w.heap.size w ((((W.setCell ⟨w.heap.size + 1, 0, none⟩ x0).setCell ⟨w.heap.size + 1, 1, none⟩ x1).setCell ⟨w.heap.size + 1, 2, none⟩ x2).setCell ⟨w.heap.size + 1, 3, none⟩ x3)) := fun W hW x0 x1 x2 x3 hR => by
      rw [hR]
      have hp := HPL.out.below hW
      have hx := HX1.out.below hW
      have hb4 : ∀ d, d ≠ w.heap.size + 1 → ((((W.setCell ⟨w.heap.size + 1, 0, none⟩ x0).setCell ⟨w.heap.size + 1, 1, none⟩ x1).setCell ⟨w.heap.size + 1, 2, none⟩ x2).setCell ⟨w.heap.size + 1, 3, none⟩ x3).heap[d]? = W.heap[d]? := fun d hd => by
        rw [Deep.blk_setCell_other _ _ _ _ hd, Deep.blk_setCell_other _ _ _ _ hd, Deep.blk_setCell_other _ _ _ _ hd, Deep.blk_setCell_other _ _ _ _ hd]
      have hs4 : W.heap.size ≤ ((((W.setCell ⟨w.heap.size + 1, 0, none⟩ x0).setCell ⟨w.heap.size + 1, 1, none⟩ x1).setCell ⟨w.heap.size + 1, 2, none⟩ x2).setCell ⟨w.heap.size + 1, 3, none⟩ x3).heap.size := by
        rw [Deep.nblk_setCell, Deep.nblk_setCell, Deep.nblk_setCell, Deep.nblk_setCell]; exact Nat.le_refl _
      refine ⟨⟨at_off hp.1 hx (cn_off 0) hs4 fun d hd _ => hb4 d hd, at_off hp.2 hx (wn_off 0) hs4 fun d hd _ => hb4 d hd⟩, ?_, ?_⟩
      · have := (HFB.out.below hW).keep (w' := ((((W.setCell ⟨w.heap.size + 1, 0, none⟩ x0).setCell ⟨w.heap.size + 1, 1, none⟩ x1).setCell ⟨w.heap.size + 1, 2, none⟩ x2).setCell ⟨w.heap.size + 1, 3, none⟩ x3)) fun d hd => hb4 d (by have := (HFB.out.own d hd).1; omega)
        exact At.mono mono_flat (this.at stC_len (by omega) HAZ.out) (Nat.zero_le _)
      · exact ((((bjoin hW HB.out).setCell (by simp) _).setCell (by simp) _).setCell (by simp) _).setCell (by simp) _
    have HBX : Hid (∀ W, Below wr.heap.size wr W → (W.cell? ⟨w.heap.size, 0, none⟩ = some (.int .i64 E) ∧ W.cell? ⟨w.heap.size, 1, none⟩ = some (.int .i64 N) ∧ W.cell? ⟨w.heap.size, 2, none⟩ = some (.slice a3 cs.length c3) ∧ W.cell? ⟨w.heap.size, 3, none⟩ = some (.slice a4 qs.length c4)) ∧ (W.cell? ⟨w.heap.size + 1, 0, none⟩ = some (.int .i64 0) ∧ W.cell? ⟨w.heap.size + 1, 1, none⟩ = some (.int .i64 0) ∧ W.cell? ⟨w.heap.size + 1, 2, none⟩ = some (.slice none 0 0) ∧ W.cell? ⟨w.heap.size + 1, 3, none⟩ = some (.slice none 0 0)) ∧ (W.frozen? ⟨w.heap.size + 1, 0, none⟩ = false ∧ W.frozen? ⟨w.heap.size + 1, 1, none⟩ = false ∧ W.frozen? ⟨w.heap.size + 1, 2, none⟩ = false ∧ W.frozen? ⟨w.heap.size + 1, 3, none⟩ = false) ∧ w.heap.size + 1 < W.heap.size) := fun W hW =>
      ⟨(HX0.out.below hW).pool.1, (HX1.out.below hW).pool.1, (HX1.out.below hW).pool.2, (HX1.out.below hW).lt⟩
    cases qs with
    | nil =>
      have HR : Hid (R = (⟨E, N, cs, []⟩, acc)) := by rw [HRE.out, serve_nil _ _ _ rfl, List.append_nil]; exact rfl
      obtain ⟨_, ⟨r0, r1, r2, r3⟩, ⟨f0, f1, f2, f3⟩, hz⟩ := HBX.out wr (Below.refl _ _)
      go_wp2_with fail
      obtain ⟨e1, e2, e3⟩ := HEND.out _ (Below.refl _ _) (.int .i64 E) (.int .i64 N) (.slice a3 cs.length c3) (.slice a4 0 c4) HR.out
      refine bodyPost_ret (v := .tuple #[.agg #[.int .i64 E, .int .i64 N, .slice a3 cs.length c3, .slice a4 0 c4], .slice a6 acc.length c6]) (by simp [results, Tryd.results29, go_sem, r0, r1, r2, r3, hz]) rfl ⟨_, _, _, ?_, e1, e2, e3⟩
      rw [HR.out]
      rfl
    | cons z qs' =>
      by_cases hfree : freeN cs < cs.length
      · have HFI : Hid (freeI cs = (freeN cs : Int)) := if_pos hfree
        have HSTEP := hide (serve_step qs'.length now ⟨E, N, cs, z :: qs'⟩ z qs' rfl hfree)
        obtain ⟨eN, rfl⟩ : ∃ eN : Nat, E = (eN : Int) := ⟨E.toNat, by omega⟩
        obtain ⟨nN, rfl⟩ : ∃ nN : Nat, N = (nN : Int) := ⟨N.toNat, by omega⟩
        unfold putP putS at HSTEP
        simp only at HSTEP
        obtain ⟨f, hf⟩ : ∃ f, freeN cs = f := ⟨_, rfl⟩
        rw [hf] at hfree HFI HSTEP
        clear hf
        have hf0 : (0 : Int) ≤ (f : Int) := by omega
        have hq0 : (0 : Int) < ((z :: qs').length : Int) := by simp
        obtain ⟨b4, o4, rfl, hbl4, hel4, hz4⟩ := at_place HPL.out.2 (k := 0) (by simp)
        simp only [Nat.zero_mul, Nat.add_zero, List.getElem_cons_zero] at hel4 hz4
        have HQC : Hid (∀ W, Below wr.heap.size wr W → W.cell? ⟨b4, o4, none⟩ = some (.int .i64 z.client) ∧ W.cell? ⟨b4, o4 + 1, none⟩ = some (.string z.tag) ∧ W.cell? ⟨b4, o4 + 2, none⟩ = some (.string z.query) ∧ W.cell? ⟨b4, o4 + 3, none⟩ = some (.string z.pointer)) := fun W hW =>
          ⟨(hW.cell (p := ⟨b4, o4, none⟩) hbl4).trans (hel4 0 (by simp [wnC])), (hW.cell (p := ⟨b4, o4 + 1, none⟩) hbl4).trans (hel4 1 (by simp [wnC])), (hW.cell (p := ⟨b4, o4 + 2, none⟩) hbl4).trans (hel4 2 (by simp [wnC])), (hW.cell (p := ⟨b4, o4 + 3, none⟩) hbl4).trans (hel4 3 (by simp [wnC]))⟩
        have HZ4 := hide hz4
        clear hel4 hz4
        go_wp2_with fail
        refine (HFREE.out _ HPL.out).mono ?_
        rintro en W1 ⟨rfl, hb1⟩
        rw [HFI.out]
        obtain ⟨⟨p0, p1, p2, p3⟩, _⟩ := HBX.out W1 hb1
        obtain ⟨g0, g1, g2, g3⟩ := HQC.out W1 hb1
        obtain ⟨W1a, hW1a⟩ : ∃ W1a, W1.alloc (Obj.cells #[.int .i64 z.client, .string z.tag, .string z.query, .string z.pointer] 33) = W1a := ⟨_, rfl⟩
        have hb1a : Below wr.heap.size wr W1a := by rw [← hW1a]; exact hb1.alloc hb1.size _
        have HXW : Hid (Box W1a W1.heap.size 33 #[.int .i64 z.client, .string z.tag, .string z.query, .string z.pointer]) := by rw [← hW1a]; exact Box.new _ _ _
        obtain ⟨⟨p0, p1, p2, p3⟩, _⟩ := HBX.out W1a hb1a
        have HB1a := hide hb1a
        have hs1 : wr.heap.size ≤ W1.heap.size := hb1.size
        clear hb1 hb1a
        go_wp2_with fail
        refine (HFREE.out _ (HPL.out.below HB1a.out)).mono ?_
        rintro en W2 ⟨rfl, hb2⟩
        rw [HFI.out]
        have HB2 := hide (bjoin hb2 HB1a.out)
        have HXW2 := hide (HXW.out.below hb2)
        obtain ⟨⟨p0, p1, p2, p3⟩, _⟩ := HBX.out W2 HB2.out
        obtain ⟨D, hwd⟩ : ∃ D, W2.drew = D := ⟨_, rfl⟩
        have hD0 : Below W2.heap.size W2 W2.drew := (Below.refl _ _).drew
        have hD : Below W2.heap.size W2 D := by rw [← hwd]; exact hD0
        have KS : Hid (∀ X, Below W2.heap.size W2 X → X.cell? ⟨w.heap.size, 0, none⟩ = some (.int .i64 (eN : Int)) ∧ X.cell? ⟨w.heap.size, 1, none⟩ = some (.int .i64 (nN : Int)) ∧ Below W2.heap.size W2 X) := fun X h => ⟨(HBX.out X (bjoin h HB2.out)).1.1, (HBX.out X (bjoin h HB2.out)).1.2.1, h⟩
        have hs1z : (decT eN).size ≤ 7 := decT_size eN (by omega)
        have hs2z : (decT nN).size ≤ 7 := decT_size nN (by omega)
        have m1 : ¬ 9223372036854775807 < 1 + (decT eN).size := by omega
        have m2 : ¬ 9223372036854775807 < 1 + (decT eN).size + 1 := by omega
        have m3 : ¬ 9223372036854775807 < 1 + (decT eN).size + 1 + (decT nN).size := by omega
        clear hb2
        go_wp2_with fail
        go_region_held3 (fun X => X.cell? ⟨w.heap.size, 0, none⟩ = some (.int .i64 (eN : Int)) ∧ X.cell? ⟨w.heap.size, 1, none⟩ = some (.int .i64 (nN : Int)) ∧ Below W2.heap.size W2 X)
          (first | with_reducible exact KS.out _ hD0 | with_reducible exact KS.out _ hD | with_reducible exact KS.out _ hS1 | with_reducible exact KS.out _ hS2)
          (first | (have _g := hS1; go_at_call 47; refine (show_any nN _ (by omega)).mono ?_; rintro e W4 ⟨rfl, hb4⟩; have hS2 : Below W2.heap.size W2 W4 := bjoin hb4 hS1) | (go_at_call 47; refine (show_any eN _ (by omega)).mono ?_; rintro e W3 ⟨rfl, hb3⟩; have hS1 : Below W2.heap.size W2 W3 := bjoin hb3 hD))
        obtain ⟨C, hC⟩ : ∃ C, ctlOf (eN : Int) (nN : Int) = C := ⟨_, rfl⟩
        have hCz : C.size ≤ 16 := by rw [← hC]; exact ctl_size _ _ (by omega) (by omega)
        have hC' : ((⟨#[85]⟩ : ByteArray) ++ decT eN ++ ⟨#[45]⟩ ++ decT nN) = C := hC
        rw [hC] at HSTEP
        rw [hC']
        have HB4 := hide (bjoin hS2 HB2.out)
        have HXW4 := hide (HXW2.out.below hS2)
        have hsz4 : W1.heap.size < W4.heap.size := HXW4.out.lt
        obtain ⟨⟨p0, p1, p2, p3⟩, _⟩ := HBX.out W4 HB4.out
        have HCP := hide (copy_any ⟨(eN : Int), (nN : Int), cs, z :: qs'⟩ _ _ W4 (HPL.out.below HB4.out) (by simp only; omega) (by simp only; omega))
        unfold plV at HCP
        simp only at HCP
        clear hC hC' m1 m2 m3 hs1z hs2z KS
        go_wp2_with fail
        refine HCP.out.mono ?_
        rintro en W5 ⟨cv5, qv5, B1, B2, rfl, hpo, hcap, hb5⟩
        obtain ⟨hpo1, hpo2, hdis, hlo1, hlo2, hz1, hz2⟩ := hpo
        simp only at hpo1 hpo2 hz1 hz2
        obtain ⟨b5, o5, c5, rfl⟩ : ∃ b o c, cv5 = .slice (some ⟨b, o, none⟩) cs.length c := by
          obtain ⟨_, ⟨_, _, _, hn, _⟩ | ⟨b, o, c, e, _⟩⟩ := hpo1
          · omega
          · exact ⟨b, o, c, e⟩
        obtain ⟨b7, o7, c7, rfl⟩ : ∃ b o c, qv5 = .slice (some ⟨b, o, none⟩) (qs'.length + 1) c := by
          obtain ⟨_, ⟨_, _, _, hn, _⟩ | ⟨b, o, c, e, _⟩⟩ := hpo2
          · simp at hn
          · exact ⟨b, o, c, e⟩
        have hc7 : qs'.length + 1 ≤ c7 := by
          obtain ⟨_, _, e, h, _⟩ := hcap.1.form
          injection e with _ _ e2
          simp only [List.length_cons] at h
          omega
        obtain ⟨W5a, hW5a⟩ : ∃ W5a, W5.alloc (Obj.cells #[.int .i64 (eN : Int), .int .i64 (nN : Int), .slice (some ⟨b5, o5, none⟩) cs.length c5, .slice (some ⟨b7, o7, none⟩) (qs'.length + 1) c7] 27) = W5a := ⟨_, rfl⟩
        have hXN : Box W5a W5.heap.size 27 #[.int .i64 (eN : Int), .int .i64 (nN : Int), .slice (some ⟨b5, o5, none⟩) cs.length c5, .slice (some ⟨b7, o7, none⟩) (qs'.length + 1) c7] := by rw [← hW5a]; exact Box.new _ _ _
        have hb5a : Below W5.heap.size W5 W5a := by rw [← hW5a]; exact (Below.refl _ _).alloc (Nat.le_refl _) _
        have hbA : Below wr.heap.size wr W5a := bjoin (bjoin hb5a hb5) HB4.out
        have hXP := HX0.out.below hbA
        have hXR := HX1.out.below hbA
        have hXV := HXW4.out.below (bjoin hb5a hb5)
        have hFS := HFB.out.below hbA
        have hTail : WnsAt 0 W5a _ qs' := FO.tailAt (hpo2.below hb5a) hc7 (fun i hi => hz2 (i + 1) (by simp; omega))
        have hsl := slice1 b7 o7 qs'.length c7
        obtain ⟨A7, hA7⟩ : ∃ A : Option Addr, (if c7 = 1 then some (⟨b7, o7, none⟩ : Addr) else some ⟨b7, o7 + 4, none⟩) = A := ⟨_, rfl⟩
        rw [hA7] at hTail hsl
        have hFC := hpo1.below hb5a
        have hB1 : B1 = [b5] := by
          obtain ⟨_, ⟨_, _, _, hn, _⟩ | ⟨b, o, c, e, hlt, hB, hc⟩⟩ := hpo1
          · omega
          · injection e with e1 _ _
            injection e1 with e1
            injection e1 with e3 _ _
            rw [hB, e3]
        have hl5 : b5 < W5.heap.size := RowC.lt hpo1 b5 (by rw [hB1]; simp)
        have hlo5 : W4.heap.size ≤ b5 := hlo1 b5 (by rw [hB1]; simp)
        have s4 := HB4.out.size
        have s5 := hb5.size
        have sP := HX0.out.lt
        have sR := HX1.out.lt
        have sS : ∀ d ∈ (Value.slice a6 acc.length c6).ownBlock.toList, w.heap.size + 2 ≤ d ∧ d < wr.heap.size := fun d hd => HFB.out.own d hd
        -- the first store: the queue behind its first want
        obtain ⟨Y1, hY1⟩ : ∃ Y, W5a.setCell ⟨W5.heap.size, 3, none⟩ (.slice A7 qs'.length (c7 - 1)) = Y := ⟨_, rfl⟩
        have o1 : Only [W5.heap.size] W5a Y1 := by rw [← hY1]; exact (Only.refl _ _).setCell (by simp) _
        have hXN1 : Box Y1 W5.heap.size 27 #[.int .i64 (eN : Int), .int .i64 (nN : Int), .slice (some ⟨b5, o5, none⟩) cs.length c5, .slice A7 qs'.length (c7 - 1)] := by rw [← hY1]; exact hXN.set 3 _
        have hXP1 := hXP.only o1 (by simp; omega)
        have hXR1 := hXR.only o1 (by simp; omega)
        have hXV1 := hXV.only o1 (by simp; omega)
        have hFS1 := hFS.only o1 (fun d hd h => by have := sS d hd; simp at h; omega)
        have hFC1 : FO cnC 7 Y1 (.slice (some ⟨b5, o5, none⟩) cs.length c5) cs B1 := hFC.kept o1.size fun d hd => o1.block d (RowC.lt hFC d hd) (by rw [hB1] at hd; simp at hd; simp; omega)
        obtain ⟨P, hP⟩ : ∃ P, o5 + f * 7 = P := ⟨_, rfl⟩
        have hcells5 : ∀ i, i < cs.length * 7 → Y1.cell? ⟨b5, o5 + i, none⟩ = some ((flat cnC cs).getD i (.int .i64 0)) ∧ Y1.frozen? ⟨b5, o5 + i, none⟩ = false := by
          obtain ⟨_, ⟨_, _, _, hn, _⟩ | ⟨b, o, c, e, hlt, hB, hc⟩⟩ := hFC1
          · omega
          · injection e with e1 _ _
            injection e1 with e1
            injection e1 with e3 e4 _
            subst e3 e4
            exact hc
        have hk : ∀ j, j < 7 → Y1.cell? ⟨b5, P + j, none⟩ = some ((flat cnC cs).getD (f * 7 + j) (.int .i64 0)) ∧ Y1.frozen? ⟨b5, P + j, none⟩ = false := fun j hj => by
          have := hcells5 (f * 7 + j) (by omega)
          rw [← hP, Nat.add_assoc]
          exact this
        -- the second: the connection
        obtain ⟨Y2, hY2⟩ : ∃ Y, (((((((Y1.setCell ⟨b5, P, none⟩ (.bool true)).setCell ⟨b5, P + 1, none⟩ (.string C)).setCell ⟨b5, P + 2, none⟩ (.int .i64 z.client)).setCell ⟨b5, P + 3, none⟩ (.string z.tag)).setCell ⟨b5, P + 4, none⟩ (.string z.query)).setCell ⟨b5, P + 5, none⟩ (.string z.pointer)).setCell ⟨b5, P + 6, none⟩ (.int .i64 (now + 30))) = Y := ⟨_, rfl⟩
        have o2 : Only [b5] Y1 Y2 := by
          rw [← hY2]
          exact (((((((Only.refl _ _).setCell (by simp) _).setCell (by simp) _).setCell (by simp) _).setCell (by simp) _).setCell (by simp) _).setCell (by simp) _).setCell (by simp) _
        have hFC2 : FO cnC 7 Y2 (.slice (some ⟨b5, o5, none⟩) (cs.set f ⟨true, C, z, now + 30⟩).length c5) (cs.set f ⟨true, C, z, now + 30⟩) B1 := by
          rw [← hY2]
          exact FO.set7 hFC1 hfree ⟨true, C, z, now + 30⟩ hP
        have hXN2 := hXN1.only o2 (by simp; omega)
        have hXP2 := hXP1.only o2 (by simp; omega)
        have hXR2 := hXR1.only o2 (by simp; omega)
        have hXV2 := hXV1.only o2 (by simp; omega)
        have hFS2 := hFS1.only o2 (fun d hd h => by have := sS d hd; simp at h; omega)
        -- the third: the next number
        obtain ⟨Y3, hY3⟩ : ∃ Y, Y2.setCell ⟨W5.heap.size, 1, none⟩ (.int .i64 ((nN : Int) + 1)) = Y := ⟨_, rfl⟩
        have o3 : Only [W5.heap.size] Y2 Y3 := by rw [← hY3]; exact (Only.refl _ _).setCell (by simp) _
        have hXN3 : Box Y3 W5.heap.size 27 #[.int .i64 (eN : Int), .int .i64 ((nN : Int) + 1), .slice (some ⟨b5, o5, none⟩) cs.length c5, .slice A7 qs'.length (c7 - 1)] := by rw [← hY3]; exact hXN2.set 1 _
        have hXP3 := hXP2.only o3 (by simp; omega)
        have hXR3 := hXR2.only o3 (by simp; omega)
        have hXV3 := hXV2.only o3 (by simp; omega)
        have hFS3 := hFS2.only o3 (fun d hd h => by have := sS d hd; simp at h; omega)
        -- the fourth: the pool itself
        obtain ⟨Y4, hY4⟩ : ∃ Y, (((Y3.setCell ⟨w.heap.size, 0, none⟩ (.int .i64 (eN : Int))).setCell ⟨w.heap.size, 1, none⟩ (.int .i64 ((nN : Int) + 1))).setCell ⟨w.heap.size, 2, none⟩ (.slice (some ⟨b5, o5, none⟩) cs.length c5)).setCell ⟨w.heap.size, 3, none⟩ (.slice A7 qs'.length (c7 - 1)) = Y := ⟨_, rfl⟩
        have o4 : Only [w.heap.size] Y3 Y4 := by
          rw [← hY4]
          exact ((((Only.refl _ _).setCell (by simp) _).setCell (by simp) _).setCell (by simp) _).setCell (by simp) _
        have hXP4 : Box Y4 w.heap.size 27 #[.int .i64 (eN : Int), .int .i64 ((nN : Int) + 1), .slice (some ⟨b5, o5, none⟩) cs.length c5, .slice A7 qs'.length (c7 - 1)] := by
          rw [← hY4]
          exact (((hXP3.set 0 _).set 1 _).set 2 _).set 3 _
        have hXR4 := hXR3.only o4 (by simp)
        have hXV4 := hXV3.only o4 (by simp; omega)
        have hFS4 := hFS3.only o4 (fun d hd h => by have := sS d hd; simp at h; omega)
        obtain ⟨v', W6, hr, hF6, o6, hat⟩ := app1 Tryd.underlying30 info_Sent rfl (by decide) stC_len stC_one hFS4 30 ⟨(f : Int), C, z⟩ (by have := o4.size; have := o3.size; have := o2.size; have := o1.size; have := hbA.size; omega) (by omega) (by omega)
        have hr2 : (Builtin.append_ #[30, 30] 30 #[.slice a6 acc.length c6, .slice (some ⟨Y4.heap.size, 0, none⟩) 1 1]).run Tryd.prog (Y4.alloc (.cells #[.int .i64 (f : Int), .string C, .int .i64 z.client, .string z.tag, .string z.query, .string z.pointer] 48)) = .ok v' W6 := hr
        -- the loop's next state
        have HNEXT : Hid (ServI w x now x.queue.length R qs'.length v' W6 ⟨(eN : Int), (nN : Int) + 1, cs.set f ⟨true, C, z, now + 30⟩, qs'⟩ (acc ++ [⟨(f : Int), C, z⟩]) (.slice (some ⟨b5, o5, none⟩) cs.length c5) (.slice A7 qs'.length (c7 - 1))) := by
          obtain ⟨h1, h2, h3, h4, h5⟩ := HAR.out
          have hsent : ∀ d ∈ (Value.slice a6 acc.length c6).ownBlock.toList, d < wr.heap.size := fun d hd => (sS d hd).2
          refine ⟨⟨rfl, ?_, h1, by simp only; omega, by simp only [List.length_cons] at h3 ⊢; omega, by simp only [List.length_set]; exact h4, by simp only [List.length_cons, List.length_append, List.length_singleton, List.length_nil] at h5 ⊢; omega, ?_⟩, ⟨?_, ?_⟩, hF6, ?_, ?_, ?_⟩
          · rw [HRE.out]
            simp only [List.length_cons]
            rw [HSTEP.out]
            simp
          · intro i hi
            by_cases hi2 : i < acc.length
            · rw [List.getElem_append_left hi2]; exact HAZ.out i hi2
            · rw [List.getElem_append_right (by omega)]
              simp only [List.getElem_singleton]
              exact ⟨by simp only; omega, HZ4.out⟩
          · have hk : FO cnC 7 W6 (.slice (some ⟨b5, o5, none⟩) (cs.set f ⟨true, C, z, now + 30⟩).length c5) (cs.set f ⟨true, C, z, now + 30⟩) B1 := by
              refine ((hFC2.kept o3.size fun d hd => o3.block d (RowC.lt hFC2 d hd) ?_).kept o4.size fun d hd => o4.block d ?_ ?_).kept o6.size fun d hd => o6.block d ?_ ?_
              · rw [hB1] at hd; simp at hd; simp; omega
              · have := RowC.lt hFC2 d hd; have := o3.size; omega
              · rw [hB1] at hd; simp at hd; simp; omega
              · have := RowC.lt hFC2 d hd; have := o3.size; have := o4.size; omega
              · intro h; have := hsent d h; rw [hB1] at hd; simp at hd; omega
            have := hk.at cnC_len (Z := cnZ) (lo := 0) (fun i hi => by
              rw [List.getElem_set]
              split
              · exact ⟨by simp only; omega, HZ4.out⟩
              · exact hz1 i (by simpa using hi)) (fun _ _ => Nat.zero_le _)
            simp only [List.length_set] at this
            exact this
          · have hk : FO wnC 4 W6 (.slice (some ⟨b7, o7, none⟩) (qs'.length + 1) c7) (z :: qs') B2 := by
              refine (((((hpo2.below hb5a).kept o1.size fun d hd => o1.block d ?_ ?_).kept o2.size fun d hd => o2.block d ?_ ?_).kept o3.size fun d hd => o3.block d ?_ ?_).kept o4.size fun d hd => o4.block d ?_ ?_).kept o6.size fun d hd => o6.block d ?_ ?_
              all_goals (have g1 := hlo2 d hd; have g2 := RowC.lt hpo2 d hd; have g3 := hb5a.size; have g4 := o1.size; have g5 := o2.size; have g6 := o3.size; have g7 := o4.size)
              · omega
              · simp; omega
              · omega
              · simp; rintro rfl; exact hdis _ (by rw [hB1]; simp) hd
              · omega
              · simp; omega
              · omega
              · simp; omega
              · omega
              · intro h; have := hsent d h; omega
            have := FO.tailAt hk hc7 (fun i hi => hz2 (i + 1) (by simp; omega))
            rw [hA7] at this
            exact this
          · exact hXP4.only o6 (fun h => by have := sS _ h; omega)
          · exact hXR4.only o6 (fun h => by have := sS _ h; omega)
          · have c1 : Below w.heap.size w W5a := bjoin hbA HB.out
            have c2 := c1.trans (o1.below c1.size (fun d hd => by simp at hd; omega))
            have c3 := c2.trans (o2.below c2.size (fun d hd => by simp at hd; omega))
            have c4 := c3.trans (o3.below c3.size (fun d hd => by simp at hd; omega))
            have c5 := c4.trans (o4.below c4.size (fun d hd => by simp at hd; omega))
            exact c5.trans (o6.below c5.size (fun d hd => by have := sS d hd; omega))
        -- what the walk asks
        obtain ⟨⟨n0, n1, n2, n3⟩, nf0, nf1, nf2, nf3⟩ := hXN.pool
        obtain ⟨⟨y0, y1, y2, y3⟩, yf0, yf1, yf2, yf3⟩ := hXN1.pool
        obtain ⟨⟨u0, u1, u2, u3⟩, uf0, uf1, uf2, uf3⟩ := hXN2.pool
        obtain ⟨⟨v0, v1, v2, v3⟩, _⟩ := hXN3.pool
        obtain ⟨⟨_, t1, _, _⟩, _⟩ := hXP2.pool
        obtain ⟨⟨r0, r1, r2, r3⟩, rf0, rf1, rf2, rf3⟩ := hXP3.pool
        have x0 : Y1.cell? ⟨W1.heap.size, 0, none⟩ = some (.int .i64 z.client) := hXV1.cell 0 (by simp)
        have x1 : Y1.cell? ⟨W1.heap.size, 1, none⟩ = some (.string z.tag) := hXV1.cell 1 (by simp)
        have x2 : Y1.cell? ⟨W1.heap.size, 2, none⟩ = some (.string z.query) := hXV1.cell 2 (by simp)
        have x3 : Y1.cell? ⟨W1.heap.size, 3, none⟩ = some (.string z.pointer) := hXV1.cell 3 (by simp)
        have z0 : Y4.cell? ⟨W1.heap.size, 0, none⟩ = some (.int .i64 z.client) := hXV4.cell 0 (by simp)
        have z1 : Y4.cell? ⟨W1.heap.size, 1, none⟩ = some (.string z.tag) := hXV4.cell 1 (by simp)
        have z2 : Y4.cell? ⟨W1.heap.size, 2, none⟩ = some (.string z.query) := hXV4.cell 2 (by simp)
        have z3 : Y4.cell? ⟨W1.heap.size, 3, none⟩ = some (.string z.pointer) := hXV4.cell 3 (by simp)
        have k0 := hk 0 (by omega)
        have k1 := hk 1 (by omega)
        have k2 := hk 2 (by omega)
        have k3 := hk 3 (by omega)
        have k4 := hk 4 (by omega)
        have k5 := hk 5 (by omega)
        have k6 := hk 6 (by omega)
        rw [Nat.add_zero] at k0
        obtain ⟨k0a, k0b⟩ := k0
        obtain ⟨k1a, k1b⟩ := k1
        obtain ⟨k2a, k2b⟩ := k2
        obtain ⟨k3a, k3b⟩ := k3
        obtain ⟨k4a, k4b⟩ := k4
        obtain ⟨k5a, k5b⟩ := k5
        obtain ⟨k6a, k6b⟩ := k6
        have hfi : (f : Int) < (cs.length : Int) := by omega
        clear hXN hXN1 hXN2 hXN3 hXP hXP1 hXP2 hXP3 hXP4 hXR hXR1 hXR2 hXR3 hXR4 hXV hXV1 hXV2 hXV3 hXV4 hFS hFS1 hFS2 hFS3 hFS4 hFC hFC1 hFC2 hTail o1 o2 o3 o4 hpo1 hpo2 hdis hlo1 hlo2 hz1 hz2 hb5 hb5a hbA hcells5 hk hr hF6 o6 hat sS hcap hA7 hB1
        go_wp2_with (first | (at_builtin; refine wpList_app rfl _ _ 30 rfl hr2 (by first | rfl | simp [Act.eval, Act.put]) (by first | rfl | simp [Act.eval, Act.put]) ?_))
        go_roundg qs'.length
        case measure => simp
        case rel => exact ⟨_, _, _, _, HNEXT.out⟩
      · have HFI : Hid (freeI cs = -1) := if_neg hfree
        have HR : Hid (R = (⟨E, N, cs, z :: qs'⟩, acc)) := by rw [HRE.out, serve_full _ _ _ hfree, List.append_nil]; exact rfl
        have hq0 : (0 : Int) < ((z :: qs').length : Int) := by simp
        go_wp2_with fail
        refine (HFREE.out _ HPL.out).mono ?_
        rintro en W1 ⟨rfl, hb1⟩
        rw [HFI.out]
        obtain ⟨⟨p0, p1, p2, p3⟩, ⟨r0, r1, r2, r3⟩, ⟨f0, f1, f2, f3⟩, hz⟩ := HBX.out W1 hb1
        have HB1 := hide hb1
        clear hb1
        go_wp2_with fail
        obtain ⟨e1, e2, e3⟩ := HEND.out _ HB1.out (.int .i64 E) (.int .i64 N) (.slice a3 cs.length c3) (.slice a4 (z :: qs').length c4) HR.out
        refine bodyPost_ret (v := .tuple #[.agg #[.int .i64 E, .int .i64 N, .slice a3 cs.length c3, .slice a4 (z :: qs').length c4], .slice a6 acc.length c6]) (by simp [results, Tryd.results29, go_sem, r0, r1, r2, r3, hz]) rfl ⟨_, _, _, ?_, e1, e2, e3⟩
        rw [HR.out]
end Go.Proofs.YtfdefjdogmhinaaDoor.Msg

namespace Go.Proofs.YtfdefjdogmhinaaDoor.Msg
open Go.ChangeShapes Go.WideShapes Go.ChangeAt Go.RowKit
set_option linter.unusedVariables false
set_option linter.unusedSimpArgs false

theorem FB.mono {α : Type} {C : α → List Value} {c : Nat} {e : TypeId} {base base' : Nat} {w : World} {v : Value} {xs : List α} (h : FB C c e base w v xs) (hb : base' ≤ base) : FB C c e base' w v xs := by
  unfold FB at *
  obtain ⟨h0, ⟨rfl, h1⟩ | ⟨g, cap, cur, rfl, hg, hh, rest⟩⟩ := h
  · exact ⟨h0, .inl ⟨rfl, h1⟩⟩
  · exact ⟨h0, .inr ⟨g, cap, cur, rfl, by omega, hh, rest⟩⟩
def pl0 : Pl := ⟨0, 0, [], []⟩
def addQ (x : Pl) (q : Wn) : Pl := ⟨x.epoch, x.next, x.conns, x.queue ++ [q]⟩
def serveA (now : Int) (x : Pl) : Pl × List St := serve x.queue.length now x
def askP (x : Pl) (q : Wn) (now : Int) : Pl × List St × Int :=
  if okPl x = true ∧ okWn q = true ∧ nowB now = true then
    if freeI x.conns < 0 ∧ 16 ≤ x.queue.length then (x, [], 1) else ((serveA now (addQ x q)).1, (serveA now (addQ x q)).2, 0)
  else (pl0, [], 9)
theorem okPl_head_of {x : Pl} (h : okPl x = true) : 0 ≤ x.epoch ∧ x.epoch ≤ 1000000 ∧ 0 ≤ x.next ∧ x.next ≤ 1000000 ∧ 1 ≤ x.conns.length ∧ x.conns.length ≤ 4 ∧ x.queue.length ≤ 16 := by
  by_cases hh : 0 ≤ x.epoch ∧ x.epoch ≤ 1000000 ∧ 0 ≤ x.next ∧ x.next ≤ 1000000 ∧ 1 ≤ x.conns.length ∧ x.conns.length ≤ 4 ∧ x.queue.length ≤ 16
  · exact hh
  · rw [okPl_head (headB_no hh)] at h; cases h
theorem nowB_of {n : Int} (h : nowB n = true) : 0 ≤ n ∧ n ≤ 900000000 := of_decide_eq_true h
theorem PlAt.zero (lo : Nat) (w : World) (e n : Int) (a1 a2 : Option Addr) (c1 c2 : Nat) : PlAt lo w ⟨e, n, [], []⟩ (.slice a1 0 c1) (.slice a2 0 c2) := ⟨⟨by simp, .inl ⟨_, _, rfl, rfl⟩⟩, ⟨by simp, .inl ⟨_, _, rfl, rfl⟩⟩⟩
theorem StsAt.zero (lo : Nat) (w : World) (a : Option Addr) (c : Nat) : StsAt lo w (.slice a 0 c) [] := ⟨by simp, .inl ⟨_, _, rfl, rfl⟩⟩
/-- a pool's lists stay as they are where only a box of zeros turned -/
theorem PlAt.off {W X : World} {x : Pl} {cv qv : Value} {B : Nat} {t : TypeId} (h : PlAt 0 W x cv qv) (hX : Box W B t #[.int .i64 0, .int .i64 0, .slice none 0 0, .slice none 0 0]) (hs : W.heap.size ≤ X.heap.size) (hb : ∀ d, d ≠ B → d < W.heap.size → X.heap[d]? = W.heap[d]?) : PlAt 0 X x cv qv :=
  ⟨at_off h.1 hX (cn_off 0) hs hb, at_off h.2 hX (wn_off 0) hs hb⟩
theorem st_off (B : Nat) : ∀ x : St, ∃ j, ∃ hj : j < (stC x).length, ∀ k (hk : k < (#[Value.int .i64 0, .int .i64 0, .slice none 0 0, .slice none 0 0] : Array Value).size), (#[Value.int .i64 0, .int .i64 0, .slice none 0 0, .slice none 0 0] : Array Value)[k] ≠ (stC x)[j] := fun x => ⟨1, by simp [stC], fun k hk => by
  match k, hk with
  | 0, _ => simp [stC]
  | 1, _ => simp [stC]
  | 2, _ => simp [stC]
  | 3, _ => simp [stC]⟩
/-- four stores into a box -/
theorem four_blk (W : World) (B : Nat) (x0 x1 x2 x3 : Value) : (∀ d, d ≠ B → ((((W.setCell ⟨B, 0, none⟩ x0).setCell ⟨B, 1, none⟩ x1).setCell ⟨B, 2, none⟩ x2).setCell ⟨B, 3, none⟩ x3).heap[d]? = W.heap[d]?) ∧ ((((W.setCell ⟨B, 0, none⟩ x0).setCell ⟨B, 1, none⟩ x1).setCell ⟨B, 2, none⟩ x2).setCell ⟨B, 3, none⟩ x3).heap.size = W.heap.size :=
  ⟨fun d hd => by rw [Deep.blk_setCell_other _ _ _ _ hd, Deep.blk_setCell_other _ _ _ _ hd, Deep.blk_setCell_other _ _ _ _ hd, Deep.blk_setCell_other _ _ _ _ hd], by rw [Deep.nblk_setCell, Deep.nblk_setCell, Deep.nblk_setCell, Deep.nblk_setCell]⟩

def AskPost (x : Pl) (q : Wn) (now : Int) (w : World) (en : Ending) (w' : World) : Prop :=
  ∃ cv qv sv, en = .returned (.tuple #[plV (askP x q now).1 cv qv, sv, .int .i64 (askP x q now).2.2]) ∧ PlAt 0 w' (askP x q now).1 cv qv ∧ StsAt 0 w' sv (askP x q now).2.1 ∧ Below w.heap.size w w'

set_option maxRecDepth 100000 in
set_option maxHeartbeats 8000000 in
theorem askS_any (x : Pl) (cv qv : Value) (q : Wn) (now : Int) (w : World) {lo : Nat} (hp : PlAt lo w x cv qv) (hz : wnZ q) :
    Calls Tryd.prog 9 #[plV x cv qv, wnV q, .int .i64 now] w (AskPost x q now w) := by
  have hp0 : PlAt 0 w x cv qv := ⟨At.mono mono_flat hp.1 (Nat.zero_le _), At.mono mono_flat hp.2 (Nat.zero_le _)⟩
  obtain ⟨a1, c1, hf1, _⟩ := hp.1.form
  obtain ⟨a2, c2, hf2, _⟩ := hp.2.form
  subst hf1 hf2
  clear hp
  have HPO := hide (fun W (h : PlAt 0 W x (.slice a1 x.conns.length c1) (.slice a2 x.queue.length c2)) => poolOkS_any x _ _ W h)
  have HWO := hide (fun W => wantS_any q W hz)
  have HNO := hide (fun W => nowS_any now W)
  have HFR := hide (fun W (h : PlAt 0 W x (.slice a1 x.conns.length c1) (.slice a2 x.queue.length c2)) => free_any x _ _ W h)
  unfold plV at HPO HFR
  unfold wnV at HWO
  show Calls Tryd.prog 9 #[.agg #[.int .i64 x.epoch, .int .i64 x.next, .slice a1 x.conns.length c1, .slice a2 x.queue.length c2], .agg #[.int .i64 q.client, .string q.tag, .string q.query, .string q.pointer], .int .i64 now] w _
  obtain ⟨w1, hw1⟩ : ∃ w1, (((w.alloc (Obj.cells #[.int .i64 x.epoch, .int .i64 x.next, .slice a1 x.conns.length c1, .slice a2 x.queue.length c2] 27)).alloc (Obj.cells #[.int .i64 q.client, .string q.tag, .string q.query, .string q.pointer] 33)).alloc (Obj.cells #[.int .i64 0, .int .i64 0, .slice none 0 0, .slice none 0 0] 27)).alloc (Obj.cells #[] 48) = w1 := ⟨_, rfl⟩
  have HB1 : Hid (Below w.heap.size w w1) := by rw [← hw1]; exact ((((Below.refl w.heap.size w).alloc (Nat.le_refl _) _).alloc (by simp) _).alloc (by simp; omega) _).alloc (by simp; omega) _
  have HXP : Hid (Box w1 w.heap.size 27 #[.int .i64 x.epoch, .int .i64 x.next, .slice a1 x.conns.length c1, .slice a2 x.queue.length c2]) := by rw [← hw1]; exact (((Box.new w _ _).alloc _).alloc _).alloc _
  have HXW : Hid (Box w1 (w.heap.size + 1) 33 #[.int .i64 q.client, .string q.tag, .string q.query, .string q.pointer]) := by
    have := ((Box.new (w.alloc (Obj.cells #[.int .i64 x.epoch, .int .i64 x.next, .slice a1 x.conns.length c1, .slice a2 x.queue.length c2] 27)) 33 #[.int .i64 q.client, .string q.tag, .string q.query, .string q.pointer]).alloc (Obj.cells #[.int .i64 0, .int .i64 0, .slice none 0 0, .slice none 0 0] 27)).alloc (Obj.cells #[] 48)
    rw [hw1, Deep.nblk_alloc] at this
    exact this
  have HXR : Hid (Box w1 (w.heap.size + 1 + 1) 27 #[.int .i64 0, .int .i64 0, .slice none 0 0, .slice none 0 0]) := by
    have := (Box.new ((w.alloc (Obj.cells #[.int .i64 x.epoch, .int .i64 x.next, .slice a1 x.conns.length c1, .slice a2 x.queue.length c2] 27)).alloc (Obj.cells #[.int .i64 q.client, .string q.tag, .string q.query, .string q.pointer] 33)) 27 #[.int .i64 0, .int .i64 0, .slice none 0 0, .slice none 0 0]).alloc (Obj.cells #[] 48)
    rw [hw1, Deep.nblk_alloc, Deep.nblk_alloc] at this
    exact this
  have HPL := hide (hp0.below HB1.out)
  have KS : Hid (∀ W, Below w1.heap.size w1 W → ((W.cell? ⟨w.heap.size, 0, none⟩ = some (.int .i64 x.epoch) ∧ W.cell? ⟨w.heap.size, 1, none⟩ = some (.int .i64 x.next) ∧ W.cell? ⟨w.heap.size, 2, none⟩ = some (.slice a1 x.conns.length c1) ∧ W.cell? ⟨w.heap.size, 3, none⟩ = some (.slice a2 x.queue.length c2)) ∧ (W.cell? ⟨w.heap.size + 1, 0, none⟩ = some (.int .i64 q.client) ∧ W.cell? ⟨w.heap.size + 1, 1, none⟩ = some (.string q.tag) ∧ W.cell? ⟨w.heap.size + 1, 2, none⟩ = some (.string q.query) ∧ W.cell? ⟨w.heap.size + 1, 3, none⟩ = some (.string q.pointer))) ∧ ((W.cell? ⟨w.heap.size + 1 + 1, 0, none⟩ = some (.int .i64 0) ∧ W.cell? ⟨w.heap.size + 1 + 1, 1, none⟩ = some (.int .i64 0) ∧ W.cell? ⟨w.heap.size + 1 + 1, 2, none⟩ = some (.slice none 0 0) ∧ W.cell? ⟨w.heap.size + 1 + 1, 3, none⟩ = some (.slice none 0 0)) ∧ W.frozen? ⟨w.heap.size + 1 + 1, 0, none⟩ = false ∧ W.frozen? ⟨w.heap.size + 1 + 1, 1, none⟩ = false ∧ W.frozen? ⟨w.heap.size + 1 + 1, 2, none⟩ = false ∧ W.frozen? ⟨w.heap.size + 1 + 1, 3, none⟩ = false) ∧ w.heap.size + 1 + 1 < W.heap.size) := fun W hW => by
    have h2 := HXW.out.below hW
    exact ⟨⟨(HXP.out.below hW).pool.1, h2.cell 0 (by simp), h2.cell 1 (by simp), h2.cell 2 (by simp), h2.cell 3 (by simp)⟩, (HXR.out.below hW).pool, (HXR.out.below hW).lt⟩
  clear hp0
  obtain ⟨⟨⟨p0, p1, p2, p3⟩, q0, q1, q2, q3⟩, ⟨⟨r0, r1, r2, r3⟩, f0, f1, f2, f3⟩, hz9⟩ := KS.out w1 (Below.refl _ _)
  -- an answer that is not valid
  have HBAD : Hid (¬ (okPl x = true ∧ okWn q = true ∧ nowB now = true) → ∀ W, Below w1.heap.size w1 W → ∀ x0 x1 x2 x3, AskPost x q now w (.returned (.tuple #[.agg #[.int .i64 0, .int .i64 0, .slice none 0 0, .slice none 0 0], .slice (some ⟨w.heap.size + 1 + 1 + 1, 0, none⟩) 0 0, .int .i64 9])) ((((W.setCell ⟨w.heap.size + 1 + 1, 0, none⟩ x0).setCell ⟨w.heap.size + 1 + 1, 1, none⟩ x1).setCell ⟨w.heap.size + 1 + 1, 2, none⟩ x2).setCell ⟨w.heap.size + 1 + 1, 3, none⟩ x3)) := fun h W hW x0 x1 x2 x3 => by
    have e : askP x q now = (pl0, [], 9) := if_neg h
    unfold AskPost
    rw [e]
    exact ⟨_, _, _, rfl, PlAt.zero _ _ _ _ _ _ _ _, StsAt.zero _ _ _ _, ((((bjoin hW HB1.out).setCell (by simp; omega) _).setCell (by simp; omega) _).setCell (by simp; omega) _).setCell (by simp; omega) _⟩
  cases h1 : okPl x with
  | false =>
    rw [h1] at HPO
    have HG := hide (HBAD.out (by rw [h1]; simp))
    clear h1
    go_enter Tryd.func9, Tryd.ntmps9
    go_wp2_with fail
    refine (HPO.out _ HPL.out).mono ?_
    rintro en W ⟨rfl, hbW⟩
    obtain ⟨⟨⟨p0, p1, p2, p3⟩, q0, q1, q2, q3⟩, ⟨⟨r0, r1, r2, r3⟩, f0, f1, f2, f3⟩, hz9⟩ := KS.out W hbW
    have HBW := hide hbW
    clear hbW
    go_wp2_with fail
    exact bodyPost_ret (v := .tuple #[.agg #[.int .i64 0, .int .i64 0, .slice none 0 0, .slice none 0 0], .slice (some ⟨w.heap.size + 1 + 1 + 1, 0, none⟩) 0 0, .int .i64 9]) (by simp [results, Tryd.results9, go_sem, r0, r1, r2, r3, hz9]) rfl (HG.out _ HBW.out _ _ _ _)
  | true =>
    rw [h1] at HPO
    cases h2 : okWn q with
    | false =>
      rw [h2] at HWO
      have HG := hide (HBAD.out (by rw [h2]; simp))
      clear h1 h2
      go_enter Tryd.func9, Tryd.ntmps9
      go_wp2_with fail
      refine (HPO.out _ HPL.out).mono ?_
      rintro en W ⟨rfl, hbW⟩
      obtain ⟨⟨⟨p0, p1, p2, p3⟩, q0, q1, q2, q3⟩, ⟨⟨r0, r1, r2, r3⟩, f0, f1, f2, f3⟩, hz9⟩ := KS.out W hbW
      have HBW := hide hbW
      clear hbW
      go_wp2_with fail
      refine (HWO.out _).mono ?_
      rintro en W2 ⟨rfl, hb2⟩
      obtain ⟨⟨⟨p0, p1, p2, p3⟩, q0, q1, q2, q3⟩, ⟨⟨r0, r1, r2, r3⟩, f0, f1, f2, f3⟩, hz9⟩ := KS.out W2 (bjoin hb2 HBW.out)
      have HB2 := hide (bjoin hb2 HBW.out)
      clear hb2
      go_wp2_with fail
      exact bodyPost_ret (v := .tuple #[.agg #[.int .i64 0, .int .i64 0, .slice none 0 0, .slice none 0 0], .slice (some ⟨w.heap.size + 1 + 1 + 1, 0, none⟩) 0 0, .int .i64 9]) (by simp [results, Tryd.results9, go_sem, r0, r1, r2, r3, hz9]) rfl (HG.out _ HB2.out _ _ _ _)
    | true =>
      rw [h2] at HWO
      cases h3 : nowB now with
      | false =>
        rw [h3] at HNO
        have HG := hide (HBAD.out (by rw [h3]; simp))
        clear h1 h2 h3
        go_enter Tryd.func9, Tryd.ntmps9
        go_wp2_with fail
        refine (HPO.out _ HPL.out).mono ?_
        rintro en W ⟨rfl, hbW⟩
        obtain ⟨⟨⟨p0, p1, p2, p3⟩, q0, q1, q2, q3⟩, ⟨⟨r0, r1, r2, r3⟩, f0, f1, f2, f3⟩, hz9⟩ := KS.out W hbW
        have HBW := hide hbW
        clear hbW
        go_wp2_with fail
        refine (HWO.out _).mono ?_
        rintro en W2 ⟨rfl, hb2⟩
        obtain ⟨⟨⟨p0, p1, p2, p3⟩, q0, q1, q2, q3⟩, ⟨⟨r0, r1, r2, r3⟩, f0, f1, f2, f3⟩, hz9⟩ := KS.out W2 (bjoin hb2 HBW.out)
        have HB2 := hide (bjoin hb2 HBW.out)
        clear hb2
        go_wp2_with fail
        refine (HNO.out _).mono ?_
        rintro en W3 ⟨rfl, hW3⟩
        rw [hW3]
        clear hW3 W3
        go_wp2_with fail
        exact bodyPost_ret (v := .tuple #[.agg #[.int .i64 0, .int .i64 0, .slice none 0 0, .slice none 0 0], .slice (some ⟨w.heap.size + 1 + 1 + 1, 0, none⟩) 0 0, .int .i64 9]) (by simp [results, Tryd.results9, go_sem, r0, r1, r2, r3, hz9]) rfl (HG.out _ HB2.out _ _ _ _)
      | true =>
        rw [h3] at HNO
        obtain ⟨g1, g2, g3, g4, g5, g6, g7⟩ := okPl_head_of h1
        obtain ⟨g8, g9⟩ := nowB_of h3
        have HCP := hide (fun W (h : PlAt 0 W x (.slice a1 x.conns.length c1) (.slice a2 x.queue.length c2)) => copy_any x _ _ W h (by omega) (by omega))
        unfold plV at HCP
        by_cases hfull : freeI x.conns < 0 ∧ 16 ≤ x.queue.length
        · have HAP : Hid (askP x q now = (x, [], 1)) := by unfold askP; rw [if_pos ⟨h1, h2, h3⟩, if_pos hfull]; exact rfl
          obtain ⟨u1, u2⟩ := hfull
          have u3 : (16 : Int) ≤ (x.queue.length : Int) := by omega
          clear h1 h2 h3 HBAD
          go_enter Tryd.func9, Tryd.ntmps9
          go_wp2_with fail
          refine (HPO.out _ HPL.out).mono ?_
          rintro en W ⟨rfl, hbW⟩
          obtain ⟨⟨⟨p0, p1, p2, p3⟩, q0, q1, q2, q3⟩, _⟩ := KS.out W hbW
          have HBW := hide hbW
          clear hbW
          go_wp2_with fail
          refine (HWO.out _).mono ?_
          rintro en W2 ⟨rfl, hb2⟩
          obtain ⟨⟨⟨p0, p1, p2, p3⟩, q0, q1, q2, q3⟩, _⟩ := KS.out W2 (bjoin hb2 HBW.out)
          have HB2 := hide (bjoin hb2 HBW.out)
          clear hb2
          go_wp2_with fail
          refine (HNO.out _).mono ?_
          rintro en W3 ⟨rfl, hW3⟩
          rw [hW3]
          clear hW3 W3
          go_wp2_with fail
          refine (HCP.out _ (HPL.out.below HB2.out)).mono ?_
          rintro en W3 ⟨cv3, qv3, b1, b2, rfl, hpo, _, hb3⟩
          obtain ⟨⟨a3, c3, e3⟩, a4, c4, e4⟩ := hpo.at.form
          subst e3 e4
          obtain ⟨W3a, hW3a⟩ : ∃ X, W3.alloc (Obj.cells #[.int .i64 x.epoch, .int .i64 x.next, .slice a3 x.conns.length c3, .slice a4 x.queue.length c4] 27) = X := ⟨_, rfl⟩
          have hb3a : Below W3.heap.size W3 W3a := by rw [← hW3a]; exact (Below.refl _ _).alloc (Nat.le_refl _) _
          have HXO : Hid (Box W3a W3.heap.size 27 #[.int .i64 x.epoch, .int .i64 x.next, .slice a3 x.conns.length c3, .slice a4 x.queue.length c4]) := by rw [← hW3a]; exact Box.new _ _ _
          have HB3 := hide (bjoin (bjoin hb3a hb3) HB2.out)
          have HPO3 := hide (hpo.at.below hb3a)
          obtain ⟨⟨⟨p0, p1, p2, p3⟩, q0, q1, q2, q3⟩, _⟩ := KS.out W3a HB3.out
          have hne3 : W3.heap.size ≠ w.heap.size + 1 + 1 := by have := (KS.out W2 HB2.out).2.2; have := hb3.size; omega
          clear hpo hb3 hb3a
          go_wp2_with fail
          refine (HFR.out _ (HPL.out.below HB3.out)).mono ?_
          rintro en W4 ⟨rfl, hb4⟩
          obtain ⟨⟨⟨p0, p1, p2, p3⟩, q0, q1, q2, q3⟩, ⟨⟨r0, r1, r2, r3⟩, f0, f1, f2, f3⟩, hz9⟩ := KS.out W4 (bjoin hb4 HB3.out)
          obtain ⟨⟨o0, o1, o2, o3⟩, _⟩ := (HXO.out.below hb4).pool
          have HB4 := hide (bjoin hb4 HB3.out)
          have HPO4 := hide (HPO3.out.below hb4)
          clear hb4
          go_wp2_with fail
          refine bodyPost_ret (v := .tuple #[.agg #[.int .i64 x.epoch, .int .i64 x.next, .slice a3 x.conns.length c3, .slice a4 x.queue.length c4], .slice (some ⟨w.heap.size + 1 + 1 + 1, 0, none⟩) 0 0, .int .i64 1]) (by simp [results, Tryd.results9, go_sem, r0, r1, r2, r3, hz9]) rfl ?_
          have h4 := four_blk W4 (w.heap.size + 1 + 1) (.int .i64 x.epoch) (.int .i64 x.next) (.slice a3 x.conns.length c3) (.slice a4 x.queue.length c4)
          unfold AskPost
          rw [HAP.out]
          refine ⟨.slice a3 x.conns.length c3, .slice a4 x.queue.length c4, _, rfl, ?_, StsAt.zero _ _ _ _, ?_⟩
          · exact PlAt.off (X := _) ⟨At.mono mono_flat HPO4.out.1 (Nat.zero_le _), At.mono mono_flat HPO4.out.2 (Nat.zero_le _)⟩ (HXR.out.below HB4.out) (Nat.le_of_eq h4.2.symm) fun d hd _ => h4.1 d hd
          · exact ((((bjoin HB4.out HB1.out).setCell (by simp; omega) _).setCell (by simp; omega) _).setCell (by simp; omega) _).setCell (by simp; omega) _
        · have HAP : Hid (askP x q now = ((serveA now (addQ x q)).1, (serveA now (addQ x q)).2, 0)) := by unfold askP; rw [if_pos ⟨h1, h2, h3⟩, if_neg hfull]; exact rfl
          have HSV := hide (fun (cv' qv' : Value) (W : World) (h : PlAt 0 W (addQ x q) cv' qv') => serveS_any (addQ x q) cv' qv' now W h (by unfold addQ; simp only; omega) (by unfold addQ; simp only; omega) (by unfold addQ; simp only; omega) (by unfold addQ; simp only; omega) (by unfold addQ; simp only; omega) (by unfold addQ; simp only [List.length_append, List.length_singleton]; omega) g8 g9)
          have HSA : Hid (serve (addQ x q).queue.length now (addQ x q) = serveA now (addQ x q)) := rfl
          rw [HSA.out] at HSV
          obtain ⟨R, hR⟩ : ∃ R, serveA now (addQ x q) = R := ⟨_, rfl⟩
          rw [hR] at HSV HAP
          unfold plV at HSV
          have HZQ := hide hz
          have hcase : ¬ freeI x.conns < 0 ∨ (freeI x.conns < 0 ∧ ¬ (16 : Int) ≤ (x.queue.length : Int)) := by
            by_cases h : freeI x.conns < 0
            · exact .inr ⟨h, fun h2 => hfull ⟨h, by omega⟩⟩
            · exact .inl h
          clear h1 h2 h3 HBAD hfull hR HSA hz
          rcases hcase with u1 | ⟨u1, u2⟩
          all_goals
            go_enter Tryd.func9, Tryd.ntmps9
            go_wp2_with fail
            refine (HPO.out _ HPL.out).mono ?_
            rintro en W ⟨rfl, hbW⟩
            obtain ⟨⟨⟨p0, p1, p2, p3⟩, q0, q1, q2, q3⟩, _⟩ := KS.out W hbW
            have HBW := hide hbW
            clear hbW
            go_wp2_with fail
            refine (HWO.out _).mono ?_
            rintro en W2 ⟨rfl, hb2⟩
            obtain ⟨⟨⟨p0, p1, p2, p3⟩, q0, q1, q2, q3⟩, _⟩ := KS.out W2 (bjoin hb2 HBW.out)
            have HB2 := hide (bjoin hb2 HBW.out)
            clear hb2
            go_wp2_with fail
            refine (HNO.out _).mono ?_
            rintro en W3 ⟨rfl, hW3⟩
            rw [hW3]
            clear hW3 W3
            go_wp2_with fail
            refine (HCP.out _ (HPL.out.below HB2.out)).mono ?_
            rintro en W3 ⟨cv3, qv3, b1, b2, rfl, hpo, ⟨hfb, hfb2⟩, hb3⟩
            obtain ⟨⟨a3, c3, e3⟩, a4, c4, e4⟩ := hpo.at.form
            subst e3 e4
            obtain ⟨W3a, hW3a⟩ : ∃ X, W3.alloc (Obj.cells #[.int .i64 x.epoch, .int .i64 x.next, .slice a3 x.conns.length c3, .slice a4 x.queue.length c4] 27) = X := ⟨_, rfl⟩
            have hb3a : Below W3.heap.size W3 W3a := by rw [← hW3a]; exact (Below.refl _ _).alloc (Nat.le_refl _) _
            have HXO : Hid (Box W3a W3.heap.size 27 #[.int .i64 x.epoch, .int .i64 x.next, .slice a3 x.conns.length c3, .slice a4 x.queue.length c4]) := by rw [← hW3a]; exact Box.new _ _ _
            have HB3 := hide (bjoin (bjoin hb3a hb3) HB2.out)
            have HPO3 := hide (hpo.below hb3a)
            have HFQ3 := hide (hfb.below hb3a)
            have HLT3 : Hid (∀ d ∈ b1 ++ b2, d < W3.heap.size) := fun d hd => by
              rcases List.mem_append.1 hd with h | h
              · exact RowC.lt hpo.1 d h
              · exact RowC.lt hpo.2.1 d h
            have HOWN : Hid (∀ d ∈ (Value.slice a4 x.queue.length c4).ownBlock.toList, d < W3.heap.size ∧ d ∉ b1 ∧ W2.heap.size + 3 ≤ d) := fun d hd => ⟨(hfb.own d hd).2, hfb2 d hd, (hfb.own d hd).1⟩
            have hs3 := hb3.size
            have hs2 := (KS.out W2 HB2.out).2.2
            obtain ⟨⟨⟨p0, p1, p2, p3⟩, q0, q1, q2, q3⟩, _⟩ := KS.out W3a HB3.out
            clear hpo hb3 hb3a hfb hfb2
            go_wp2_with fail
            refine (HFR.out _ (HPL.out.below HB3.out)).mono ?_
            rintro en W4 ⟨rfl, hb4⟩
            obtain ⟨⟨⟨p0, p1, p2, p3⟩, q0, q1, q2, q3⟩, _⟩ := KS.out W4 (bjoin hb4 HB3.out)
            obtain ⟨⟨o0, o1, o2, o3⟩, _⟩ := (HXO.out.below hb4).pool
            have hFQ4 : FB wnC 4 33 W2.heap.size W4 (.slice a4 x.queue.length c4) x.queue := (HFQ3.out.below hb4).mono (by omega)
            have hs4 := hb4.size
            have hs3a := HXO.out.lt
            obtain ⟨v5, W5, hr, hF5, o5, hat5⟩ := app1 Tryd.underlying25 info_Want rfl (by decide) wnC_len wnC_one hFQ4 25 q (by omega) (by omega) (by omega)
            have hr2 : (Builtin.append_ #[25, 25] 25 #[.slice a4 x.queue.length c4, .slice (some ⟨W4.heap.size, 0, none⟩) 1 1]).run Tryd.prog (W4.alloc (.cells #[.int .i64 q.client, .string q.tag, .string q.query, .string q.pointer] 33)) = .ok v5 W5 := hr
            have hXO5 := (HXO.out.below hb4).only o5 (fun h => by have := (HOWN.out _ h).1; omega)
            have hXR5 := (HXR.out.below (bjoin hb4 HB3.out)).only o5 (fun h => by have := (HOWN.out _ h).2.2; omega)
            obtain ⟨Y, hY⟩ : ∃ Y, W5.setCell ⟨W3.heap.size, 3, none⟩ v5 = Y := ⟨_, rfl⟩
            have oY : Only [W3.heap.size] W5 Y := by rw [← hY]; exact (Only.refl _ _).setCell (by simp) _
            have hXOY : Box Y W3.heap.size 27 #[.int .i64 x.epoch, .int .i64 x.next, .slice a3 x.conns.length c3, v5] := by rw [← hY]; exact hXO5.set 3 _
            have hXRY := hXR5.only oY (by simp; omega)
            have hown5 : ∀ d ∈ v5.ownBlock.toList, d ≠ W3.heap.size := fun d hd e => by
              rcases hat5 with h | ⟨g, h, hg⟩
              · rw [h] at hd; have := (HOWN.out d hd).1; omega
              · rw [h] at hd; simp at hd; omega
            have hFY := hF5.only oY (fun d hd h => by have := hown5 d hd; simp at h; omega)
            have hFC4 := HPO3.out.1.below hb4
            have hFCY : FO cnC 7 Y (.slice a3 x.conns.length c3) x.conns b1 := (hFC4.kept o5.size fun d hd => o5.block d (RowC.lt hFC4 d hd) fun h => (HOWN.out d h).2.1 hd).kept oY.size fun d hd => oY.block d (by have := RowC.lt hFC4 d hd; have := o5.size; omega) (by have := HLT3.out d (List.mem_append.2 (.inl hd)); simp; omega)
            have hPLY : PlAt 0 Y (addQ x q) (.slice a3 x.conns.length c3) v5 := ⟨hFCY.at cnC_len HPO3.out.2.2.2.2.2.1 (fun _ _ => Nat.zero_le _), At.mono mono_flat (hFY.at wnC_len (by simp; omega) (fun i hi => by
              by_cases h : i < x.queue.length
              · rw [List.getElem_append_left h]; exact HPO3.out.2.2.2.2.2.2 i h
              · rw [List.getElem_append_right (by omega)]; simp only [List.getElem_singleton]; exact HZQ.out)) (Nat.zero_le _)⟩
            have HBY : Hid (Below w.heap.size w Y) := by
              have c1 := bjoin (bjoin hb4 HB3.out) HB1.out
              have c2 := c1.trans (o5.below c1.size (fun d hd => by have := (HOWN.out d hd).2.2; omega))
              exact c2.trans (oY.below c2.size (fun d hd => by simp at hd; omega))
            have HXRY := hide hXRY
            have HPLY := hide hPLY
            obtain ⟨a5, c5, hf5, _⟩ := hF5.form
            rw [List.length_append, List.length_singleton] at hf5
            subst hf5
            obtain ⟨⟨y0, y1, y2, y3⟩, _⟩ := hXOY.pool
            obtain ⟨⟨m0, m1, m2, m3⟩, mf0, mf1, mf2, mf3⟩ := hXO5.pool
            clear hFQ4 hr hF5 o5 hat5 hXO5 hXR5 oY hXOY hXRY hown5 hFY hFC4 hFCY hPLY hb4
            go_wp2_with (first | (at_builtin; refine wpList_app rfl _ _ 25 rfl hr2 (by first | rfl | simp [Act.eval, Act.put]) (by first | rfl | simp [Act.eval, Act.put]) ?_))
            refine (HSV.out _ _ _ HPLY.out).mono ?_
            rintro en W6 ⟨cv6, qv6, sv6, rfl, hp6, hs6, hb6⟩
            obtain ⟨⟨a6, c6, e6⟩, a7, c7, e7⟩ := hp6.form
            subst e6 e7
            obtain ⟨a8, c8, e8, _⟩ := hs6.form
            subst e8
            obtain ⟨W6a, hW6a⟩ : ∃ X, W6.alloc (Obj.cells #[.int .i64 R.1.epoch, .int .i64 R.1.next, .slice a6 R.1.conns.length c6, .slice a7 R.1.queue.length c7] 27) = X := ⟨_, rfl⟩
            have hb6a : Below W6.heap.size W6 W6a := by rw [← hW6a]; exact (Below.refl _ _).alloc (Nat.le_refl _) _
            have hXO6 : Box W6a W6.heap.size 27 #[.int .i64 R.1.epoch, .int .i64 R.1.next, .slice a6 R.1.conns.length c6, .slice a7 R.1.queue.length c7] := by rw [← hW6a]; exact Box.new _ _ _
            obtain ⟨⟨t0, t1, t2, t3⟩, _⟩ := hXO6.pool
            have hXR6 := (HXRY.out.below hb6).below hb6a
            obtain ⟨⟨r0, r1, r2, r3⟩, f0, f1, f2, f3⟩ := hXR6.pool
            have hz9 := hXR6.lt
            have HXR6 := hide hXR6
            have HP6 := hide (hp6.below hb6a)
            have HS6 := hide (At.kept kept_flat hs6 hb6a)
            have HB6 := hide (bjoin (bjoin hb6a hb6) HBY.out)
            clear hp6 hs6 hb6 hb6a hXO6 hXR6
            go_wp2_with fail
            refine bodyPost_ret (v := .tuple #[.agg #[.int .i64 R.1.epoch, .int .i64 R.1.next, .slice a6 R.1.conns.length c6, .slice a7 R.1.queue.length c7], .slice a8 R.2.length c8, .int .i64 0]) (by simp [results, Tryd.results9, go_sem, r0, r1, r2, r3, hz9]) rfl ?_
            have h4 := four_blk W6a (w.heap.size + 1 + 1) (.int .i64 R.1.epoch) (.int .i64 R.1.next) (.slice a6 R.1.conns.length c6) (.slice a7 R.1.queue.length c7)
            unfold AskPost
            rw [HAP.out]
            refine ⟨.slice a6 R.1.conns.length c6, .slice a7 R.1.queue.length c7, _, rfl, ?_, ?_, ?_⟩
            · exact PlAt.off (X := _) HP6.out HXR6.out (Nat.le_of_eq h4.2.symm) fun d hd _ => h4.1 d hd
            · exact at_off HS6.out HXR6.out (st_off 0) (Nat.le_of_eq h4.2.symm) fun d hd _ => h4.1 d hd
            · exact (((HB6.out.setCell (by simp; omega) _).setCell (by simp; omega) _).setCell (by simp; omega) _).setCell (by simp; omega) _
end Go.Proofs.YtfdefjdogmhinaaDoor.Msg
