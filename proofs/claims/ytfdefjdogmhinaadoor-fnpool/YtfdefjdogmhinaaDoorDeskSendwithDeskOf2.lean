import Derived.Test.YtfdefjdogmhinaaDoorDeskwithDeskServe
import Derived.Test.YtfdefjdogmhinaaDoorPlCbwithPhase
import Derived.Test.YtfdefjdogmhinaaDoorDeskOfwithDeskPure
namespace Go.Proofs.YtfdefjdogmhinaaDoor.Msg
open Go.ChangeShapes Go.WideShapes Go.ChangeAt Go.RowKit
set_option linter.unusedVariables false
set_option linter.unusedSimpArgs false

set_option maxRecDepth 100000 in
set_option maxHeartbeats 30000000 in
theorem send_any {lo : Nat} {w : World} {D M : Nat} {Ls : List Nat} {s : Ds} {lv fv qv sv : Value} {n : Nat} (h : Desk lo w D M Ls s lv fv qv sv n) (k : Nat) (z : Wn) (hk : k < Ls.length) (hlo : lo ≤ w.heap.size) (hI : Ito lo w)
    (he0 : 0 ≤ s.epoch) (he1 : s.epoch ≤ 1000000) (hn0 : 0 ≤ s.next) (hn1 : s.next ≤ 2000000) (hw0 : 0 ≤ s.now) (hw1 : s.now ≤ 900000000) (hsl : s.sent.length ≤ 1000) (hnn : n ≤ 1000) (hk4 : Ls.length ≤ 100) :
    Calls Tryd.prog 43 #[.pointer (some ⟨D, 0, none⟩), .pointer (some ⟨Ls[k], 0, none⟩), wnV z] w fun en w' => en = .returned (.tuple #[]) ∧ ∃ sv', Desk lo w' D M Ls (sendP s k z) lv fv qv sv' (n + 1) ∧ Below lo w w' ∧ TKeep w w' := by
  obtain ⟨eN, heN⟩ : ∃ eN : Nat, s.epoch = (eN : Int) := ⟨s.epoch.toNat, by omega⟩
  obtain ⟨nN, hnN⟩ : ∃ nN : Nat, s.next = (nN : Int) := ⟨s.next.toNat, by omega⟩
  have hnB : (nN : Int) ≤ 2000000 := by omega
  have hnB2 : (nN : Int) + 1 ≤ 2000001 := by omega
  obtain ⟨C, hC⟩ : ∃ C, ctlOf (eN : Int) (nN : Int) = C := ⟨_, rfl⟩
  have hCz : C.size ≤ 16 := by rw [← hC]; exact ctl_size _ _ (by omega) (by omega)
  have HSD : Hid (sendP s k z = { s with next := (nN : Int) + 1, conns := s.conns.set k ⟨true, C, z, s.now + 30⟩, sent := s.sent ++ [⟨(k : Int), C, z⟩] }) := by unfold sendP; rw [heN, hnN, hC]; exact rfl
  obtain ⟨L, hL⟩ : ∃ L, Ls[k] = L := ⟨_, rfl⟩
  rw [hL]
  show Calls Tryd.prog 43 #[.pointer (some ⟨D, 0, none⟩), .pointer (some ⟨L, 0, none⟩), .agg #[.int .i64 z.client, .string z.tag, .string z.query, .string z.pointer]] w _
  obtain ⟨W0, hW0⟩ : ∃ W0, w.alloc (Obj.cells #[.int .i64 z.client, .string z.tag, .string z.query, .string z.pointer] 33) = W0 := ⟨_, rfl⟩
  have hb0 : Below w.heap.size w W0 := by rw [← hW0]; exact (Below.refl _ _).alloc (Nat.le_refl _) _
  have hBV : Box W0 w.heap.size 33 #[.int .i64 z.client, .string z.tag, .string z.query, .string z.pointer] := by rw [← hW0]; exact Box.new _ _ _
  have hd0 := h.below hb0
  have hkc : k < s.conns.length := by rw [← h.len]; exact hk
  have HD0 := hide hd0
  have HBV := hide hBV
  have HI0 := hide (hI.keep (hb0.mono hlo))
  have HW := hide hb0
  have HUP := hide (fun W hW hlt => upControl_any eN nN W (lo := lo) hW hlt (by omega) (by omega))
  rw [hC] at HUP
  have KS : Hid (∀ X, Below W0.heap.size W0 X → (X.cell? ⟨D, 0, none⟩ = some (.int .i64 (eN : Int)) ∧ X.cell? ⟨D, 1, none⟩ = some (.int .i64 (nN : Int)) ∧ X.cell? ⟨D, 2, none⟩ = some (.int .i64 s.now)) ∧ (X.cell? ⟨w.heap.size, 0, none⟩ = some (.int .i64 z.client) ∧ X.cell? ⟨w.heap.size, 1, none⟩ = some (.string z.tag) ∧ X.cell? ⟨w.heap.size, 2, none⟩ = some (.string z.query) ∧ X.cell? ⟨w.heap.size, 3, none⟩ = some (.string z.pointer))) := fun X hX => by
    have hdX := HD0.out.below hX
    have hv := HBV.out.below hX
    obtain ⟨⟨e0, e1, e2, _⟩, _⟩ := hdX.cells
    rw [heN] at e0
    rw [hnN] at e1
    exact ⟨⟨e0, e1, e2⟩, ⟨hv.cell 0 (by simp), hv.cell 1 (by simp), hv.cell 2 (by simp), hv.cell 3 (by simp)⟩⟩
  have LF : Hid (∀ X, Below W0.heap.size W0 X → (X.cell? ⟨L, 0, none⟩ = some (.bool s.conns[k].busy) ∧ X.cell? ⟨L, 1, none⟩ = some (.string s.conns[k].control) ∧ X.cell? ⟨L, 2, none⟩ = some (.int .i64 s.conns[k].want.client) ∧ X.cell? ⟨L, 3, none⟩ = some (.string s.conns[k].want.tag) ∧ X.cell? ⟨L, 4, none⟩ = some (.string s.conns[k].want.query) ∧ X.cell? ⟨L, 5, none⟩ = some (.string s.conns[k].want.pointer) ∧ X.cell? ⟨L, 6, none⟩ = some (.int .i64 s.conns[k].due)) ∧ (X.frozen? ⟨L, 0, none⟩ = false ∧ X.frozen? ⟨L, 1, none⟩ = false ∧ X.frozen? ⟨L, 2, none⟩ = false ∧ X.frozen? ⟨L, 3, none⟩ = false ∧ X.frozen? ⟨L, 4, none⟩ = false ∧ X.frozen? ⟨L, 5, none⟩ = false ∧ X.frozen? ⟨L, 6, none⟩ = false)) := fun X hX => by
    have hl := ((HD0.out.below hX).line k hk hkc).line7
    rw [hL] at hl
    obtain ⟨⟨l0, l1, l2, l3, l4, l5, l6, _⟩, lf⟩ := hl
    exact ⟨⟨l0, l1, l2, l3, l4, l5, l6⟩, lf⟩
  have nDL : L ≠ D := by
    have := (HD0.out.line k hk hkc).ne HD0.out.box (by decide)
    rw [hL] at this
    exact this
  have nVL : L ≠ w.heap.size := by
    have := (HD0.out.line k hk hkc).ne HBV.out (by decide)
    rw [hL] at this
    exact this
  have KS2 : Hid (∀ X, Below W0.heap.size W0 X → ∀ x0 x1 x2 x3 x4 x5 x6 Y, (((((((X.setCell ⟨L, 0, none⟩ x0).setCell ⟨L, 1, none⟩ x1).setCell ⟨L, 2, none⟩ x2).setCell ⟨L, 3, none⟩ x3).setCell ⟨L, 4, none⟩ x4).setCell ⟨L, 5, none⟩ x5).setCell ⟨L, 6, none⟩ x6) = Y → (Y.cell? ⟨D, 0, none⟩ = some (.int .i64 (eN : Int)) ∧ Y.cell? ⟨D, 1, none⟩ = some (.int .i64 (nN : Int)) ∧ Y.cell? ⟨D, 2, none⟩ = some (.int .i64 s.now)) ∧ (Y.cell? ⟨w.heap.size, 0, none⟩ = some (.int .i64 z.client) ∧ Y.cell? ⟨w.heap.size, 1, none⟩ = some (.string z.tag) ∧ Y.cell? ⟨w.heap.size, 2, none⟩ = some (.string z.query) ∧ Y.cell? ⟨w.heap.size, 3, none⟩ = some (.string z.pointer))) := fun X hX x0 x1 x2 x3 x4 x5 x6 Y hY => by
    have hb : ∀ d, d ≠ L → Y.heap[d]? = X.heap[d]? := fun d hd => by
      rw [← hY, Deep.blk_setCell_other _ _ _ _ hd, Deep.blk_setCell_other _ _ _ _ hd, Deep.blk_setCell_other _ _ _ _ hd, Deep.blk_setCell_other _ _ _ _ hd, Deep.blk_setCell_other _ _ _ _ hd, Deep.blk_setCell_other _ _ _ _ hd, Deep.blk_setCell_other _ _ _ _ hd]
    have h := KS.out X hX
    have b1 := hb D (Ne.symm nDL)
    have b2 := hb w.heap.size (Ne.symm nVL)
    exact ⟨⟨(cellSame b1).trans h.1.1, (cellSame b1).trans h.1.2.1, (cellSame b1).trans h.1.2.2⟩, (cellSame b2).trans h.2.1, (cellSame b2).trans h.2.2.1, (cellSame b2).trans h.2.2.2.1, (cellSame b2).trans h.2.2.2.2⟩
  have hs30 : IntKind.i64.wrap (s.now + 30) = s.now + 30 := by simp [IntKind.wrap, IntKind.signed, IntKind.bits]; omega
  have hd0' : Below W0.heap.size W0 W0.drew := (Below.refl _ _).drew
  obtain ⟨D1, hwd⟩ : ∃ D1, W0.drew = D1 := ⟨_, rfl⟩
  have hD1 : Below W0.heap.size W0 D1 := by rw [← hwd]; exact hd0'
  have hsz0 : lo ≤ W0.heap.size := by have := hb0.size; omega
  have HNX := hide hnN
  clear h hd0 hBV hI hb0 heN hnN
  generalize s.conns[k] = cK at LF
  go_enter Tryd.func43, Tryd.ntmps43
  go_wp2_with fail
  go_region_held3 (fun X => (X.cell? ⟨D, 0, none⟩ = some (.int .i64 (eN : Int)) ∧ X.cell? ⟨D, 1, none⟩ = some (.int .i64 (nN : Int)) ∧ X.cell? ⟨D, 2, none⟩ = some (.int .i64 s.now)) ∧ (X.cell? ⟨w.heap.size, 0, none⟩ = some (.int .i64 z.client) ∧ X.cell? ⟨w.heap.size, 1, none⟩ = some (.string z.tag) ∧ X.cell? ⟨w.heap.size, 2, none⟩ = some (.string z.query) ∧ X.cell? ⟨w.heap.size, 3, none⟩ = some (.string z.pointer)))
    (first | with_reducible exact KS.out _ hd0' | with_reducible exact KS.out _ hD1 | with_reducible exact KS.out _ hS1 | with_reducible exact KS2.out _ hS1 _ _ _ _ _ _ _ _ rfl)
    (first | (go_at_call 54; refine (HUP.out _ (HI0.out.keep (hD1.mono hsz0)) (by have := hD1.size; omega)).mono ?_; rintro e W1 ⟨rfl, hb1⟩; have hS1 : Below W0.heap.size W0 W1 := bjoin hb1 hD1; have hl := LF.out W1 hS1; obtain ⟨⟨l0, l1, l2, l3, l4, l5, l6⟩, lf0, lf1, lf2, lf3, lf4, lf5, lf6⟩ := hl))
  obtain ⟨Y1, hY1⟩ : ∃ Y, lineSet W1 L ⟨true, C, z, s.now + 30⟩ = Y := ⟨_, rfl⟩
  have hY1' : (((((((W1.setCell ⟨L, 0, none⟩ (.bool true)).setCell ⟨L, 1, none⟩ (.string C)).setCell ⟨L, 2, none⟩ (.int .i64 z.client)).setCell ⟨L, 3, none⟩ (.string z.tag)).setCell ⟨L, 4, none⟩ (.string z.query)).setCell ⟨L, 5, none⟩ (.string z.pointer)).setCell ⟨L, 6, none⟩ (.int .i64 (s.now + 30))) = Y1 := hY1
  rw [hY1']
  have hdY1 : Desk lo Y1 D M Ls { s with conns := s.conns.set k ⟨true, C, z, s.now + 30⟩ } lv fv qv sv n := by
    have := (HD0.out.below hS1).lineSet hk ⟨true, C, z, s.now + 30⟩
    rw [hL, hY1] at this
    exact this
  have hBV1 : Box Y1 w.heap.size 33 #[.int .i64 z.client, .string z.tag, .string z.query, .string z.pointer] := by
    rw [← hY1]
    exact (HBV.out.below hS1).only (lineSet_only _ _ _) (by simpa using Ne.symm nVL)
  have hBl1 : Below lo w Y1 := by
    have c1 : Below lo w W1 := (bjoin hS1 HW.out).mono hlo
    have hLlo : lo ≤ L := by rw [← hL]; exact HD0.out.lows.2.2 _ (List.getElem_mem hk)
    rw [← hY1]
    exact c1.trans ((lineSet_only W1 L _).below (by have := c1.size; omega) fun d hd => by simp at hd; omega)
  obtain ⟨Y2, hY2⟩ : ∃ Y, Y1.setCell ⟨D, 1, none⟩ (.int .i64 ((nN : Int) + 1)) = Y := ⟨_, rfl⟩
  have hdY2 : Desk lo Y2 D M Ls { s with next := (nN : Int) + 1, conns := s.conns.set k ⟨true, C, z, s.now + 30⟩ } lv fv qv sv n := by rw [← hY2]; exact hdY1.setNext _
  have hBV2 : Box Y2 w.heap.size 33 #[.int .i64 z.client, .string z.tag, .string z.query, .string z.pointer] := by
    rw [← hY2]
    exact hBV1.other (a := ⟨D, 1, none⟩) (by have := hdY1.box.ne hBV1 (by decide); exact fun e => this e.symm) _
  have hBl2 : Below lo w Y2 := by rw [← hY2]; exact hBl1.setCell (by have := hdY1.lows.1; simp; omega) _
  have d1 : Y1.cell? ⟨D, 1, none⟩ = some (.int .i64 (nN : Int)) := by have := hdY1.cells.1.2.1; rw [HNX.out] at this; exact this
  have df1 := hdY1.cells.2.1
  have HDY2 := hide hdY2
  have HBV2 := hide hBV2
  have HBl2 := hide hBl2
  have HTK2 : Hid (TKeep w Y2) := by
    have k1 : TKeep w W1 := TKeep.below (bjoin hS1 HW.out)
    have k2 : TKeep W1 Y1 := by
      have hb := (HD0.out.below hS1).line k hk hkc
      rw [hL] at hb
      rw [← hY1]
      exact TKeep.line (lineSet_only _ _ _) hb
    have k3 : TKeep Y1 Y2 := by rw [← hY2]; exact TKeep.desk ((Only.refl _ _).setCell (by simp) _) hdY1.box
    exact k1.trans (k2.trans k3)
  have KS3 : Hid (∀ X, Below Y2.heap.size Y2 X → X.cell? ⟨D, 5, none⟩ = some (.map (some M))) := fun X hX => (HDY2.out.below hX).cells.1.2.2.2.2.2.1
  have hD3' : Below Y2.heap.size Y2 Y2.drew := (Below.refl _ _).drew
  obtain ⟨D3, hwd3⟩ : ∃ D3, Y2.drew = D3 := ⟨_, rfl⟩
  have hD3 : Below Y2.heap.size Y2 D3 := by rw [← hwd3]; exact hD3'
  have hkc2 : k < (s.conns.set k ⟨true, C, z, s.now + 30⟩).length := by rw [List.length_set]; exact hkc
  have HLB : Hid (∀ X, Below Y2.heap.size Y2 X → Box X L 68 (lnA ⟨true, C, z, s.now + 30⟩ k)) := fun X hX => by
    have := (HDY2.out.below hX).line k hk hkc2
    rw [hL] at this
    simp only [List.getElem_set_self] at this
    exact this
  have HPUT : Hid (∀ X, Below Y2.heap.size Y2 X → ∃ W', (Instr.mapUpdate 56 (.map (some M)) (.agg #[.int .i64 (k : Int), .string C]) (.pointer (some ⟨L, 0, none⟩))).run Tryd.prog X = .ok () W' ∧ MapO W' M (n + 1) ∧ Only [M] X W') := fun X hX => (HDY2.out.below hX).map.put (by omega) (k : Int) C L (by simp [Lit.wf, IntKind.min, IntKind.max, IntKind.signed, IntKind.bits]; omega) (by omega)
  clear hdY1 hBV1 hBl1 hdY2 hBV2 hBl2 l0 l1 l2 l3 l4 l5 l6 lf0 lf1 lf2 lf3 lf4 lf5 lf6 hY1' hs30
  go_wp2_with fail
  go_region_held3 (fun X => X.cell? ⟨D, 5, none⟩ = some (.map (some M)))
    (first | with_reducible exact KS3.out _ hD3' | with_reducible exact KS3.out _ hD3 | with_reducible exact KS3.out _ hS3 | with_reducible exact hcM4)
    (first | (go_at_call 41; refine (lineKey_any ⟨true, C, z, s.now + 30⟩ k L _ (HLB.out _ hD3)).mono ?_; rintro e W3 ⟨rfl, hb3⟩; have hS3 : Below Y2.heap.size Y2 W3 := bjoin hb3 hD3; obtain ⟨W4, hr4, hm4, ho4⟩ := HPUT.out W3 hS3; have hcM4 : W4.cell? ⟨D, 5, none⟩ = some (.map (some M)) := ((HDY2.out.below hS3).mapSet ho4 hm4).cells.1.2.2.2.2.2.1))
  have hd4 := (HDY2.out.below hS3).mapSet ho4 hm4
  have hbv4 : Box W4 w.heap.size 33 #[.int .i64 z.client, .string z.tag, .string z.query, .string z.pointer] := (HBV2.out.below hS3).only ho4 (by simp; exact (HDY2.out.below hS3).map.ne (HBV2.out.below hS3))
  have hbl4 : Below lo w W4 := by
    have c1 : Below lo w W3 := HBl2.out.trans (hS3.mono (by have := HBl2.out.size; omega))
    exact c1.trans (ho4.below (by have := c1.size; omega) fun d hd => by simp at hd; have := HDY2.out.lows.2.1; omega)
  have HTK4 : Hid (TKeep w W4) := HTK2.out.trans ((TKeep.below hS3).trans (TKeep.map ho4 (HDY2.out.below hS3).map))
  obtain ⟨D5, hwd5⟩ : ∃ D5, W4.drew = D5 := ⟨_, rfl⟩
  have hb5 : Below W4.heap.size W4 D5 := by rw [← hwd5]; exact (Below.refl _ _).drew
  have hd5 := hd4.below hb5
  have hbv5 := hbv4.below hb5
  have hbl5 : Below lo w D5 := hbl4.trans (hb5.mono (by have := hbl4.size; omega))
  have hLB5 : Box D5 L 68 (lnA ⟨true, C, z, s.now + 30⟩ k) := by
    have := hd5.line k hk hkc2
    rw [hL] at this
    simp only [List.getElem_set_self] at this
    exact this
  obtain ⟨v', W6, hr, hF6, o6, hat⟩ := app1 Tryd.underlying30 info_Sent rfl (by decide) stC_len stC_one hd5.sent 30 ⟨(k : Int), C, z⟩ (by have := hbl5.size; omega) (by simp only; omega) (by omega)
  have hd6 := hd5.setSent o6 hF6
  have HFIN : Hid (Desk lo (W6.setCell ⟨D, 7, none⟩ v') D M Ls (sendP s k z) lv fv qv v' (n + 1) ∧ Below lo w (W6.setCell ⟨D, 7, none⟩ v') ∧ TKeep w (W6.setCell ⟨D, 7, none⟩ v')) := by
    rw [HSD.out]
    refine ⟨hd6, ?_, HTK4.out.trans ((TKeep.below hb5).trans ((TKeep.sent hd5.sent o6).trans (TKeep.desk ((Only.refl _ _).setCell (by simp) _) (hd5.box.keepT (TSame.own hd5.sent o6 (by decide))))))⟩
    have c1 := hbl5.trans (o6.below (by have := hbl5.size; omega) fun d hd => (hd5.sent.own d hd).1)
    exact c1.setCell (by have := hd5.lows.1; simp; omega) _
  obtain ⟨av, cv, hsv, _⟩ := hd5.sent.form
  simp only at hsv
  have hr2 : (Builtin.append_ #[30, 30] 30 #[sv, .slice (some ⟨D5.heap.size, 0, none⟩) 1 1]).run Tryd.prog (D5.alloc (.cells #[.int .i64 (k : Int), .string C, .int .i64 z.client, .string z.tag, .string z.query, .string z.pointer] 48)) = .ok v' W6 := hr
  have q7 : D5.cell? ⟨D, 7, none⟩ = some sv := hd5.cells.1.2.2.2.2.2.2.2
  have qL7 : D5.cell? ⟨L, 7, none⟩ = some (.int .i64 (k : Int)) := hLB5.line7.1.2.2.2.2.2.2.2
  have qL1 : D5.cell? ⟨L, 1, none⟩ = some (.string C) := hLB5.line7.1.2.1
  have b0 : D5.cell? ⟨w.heap.size, 0, none⟩ = some (.int .i64 z.client) := hbv5.cell 0 (by simp)
  have b1 : D5.cell? ⟨w.heap.size, 1, none⟩ = some (.string z.tag) := hbv5.cell 1 (by simp)
  have b2 : D5.cell? ⟨w.heap.size, 2, none⟩ = some (.string z.query) := hbv5.cell 2 (by simp)
  have b3 : D5.cell? ⟨w.heap.size, 3, none⟩ = some (.string z.pointer) := hbv5.cell 3 (by simp)
  have tD := hd5.box.lt
  have tL := hLB5.lt
  have tV := hbv5.lt
  have hbx6 : Box W6 D 58 _ := hd5.box.keepT (TSame.own hd5.sent o6 (by decide))
  have r7 : W6.cell? ⟨D, 7, none⟩ = some sv := hbx6.cell 7 (by simp)
  have rf7 := hbx6.frozen 7
  have HS4 : ∀ X : World, X.heap[L]? = D5.heap[L]? → X.heap[w.heap.size]? = D5.heap[w.heap.size]? → X.cell? ⟨L, 7, none⟩ = some (.int .i64 (k : Int)) ∧ X.cell? ⟨L, 1, none⟩ = some (.string C) ∧ X.cell? ⟨w.heap.size, 0, none⟩ = some (.int .i64 z.client) ∧ X.cell? ⟨w.heap.size, 1, none⟩ = some (.string z.tag) ∧ X.cell? ⟨w.heap.size, 2, none⟩ = some (.string z.query) ∧ X.cell? ⟨w.heap.size, 3, none⟩ = some (.string z.pointer) := fun X h1 h2 => ⟨(cellSame h1).trans qL7, (cellSame h1).trans qL1, (cellSame h2).trans b0, (cellSame h2).trans b1, (cellSame h2).trans b2, (cellSame h2).trans b3⟩
  have oL : W6.heap[L]? = D5.heap[L]? := TSame.own hd5.sent o6 (by decide) L _ hLB5
  have oV : W6.heap[w.heap.size]? = D5.heap[w.heap.size]? := TSame.own hd5.sent o6 (by decide) w.heap.size _ hbv5
  have hKd := HS4 W4.drew (by rw [hwd5]) (by rw [hwd5])
  have hK5 := HS4 D5 rfl rfl
  have hK5a := HS4 (D5.alloc (.cells #[.int .i64 (k : Int), .string C, .int .i64 z.client, .string z.tag, .string z.query, .string z.pointer] 48)) (((Below.refl D5.heap.size D5).alloc (Nat.le_refl _) _).block L tL) (((Below.refl D5.heap.size D5).alloc (Nat.le_refl _) _).block w.heap.size tV)
  have hK6 := HS4 W6 oL oV
  have nVD : w.heap.size ≠ D := fun e => (hd5.box.ne hbv5 (by decide)) e.symm
  have hK7 := HS4 (W6.setCell ⟨D, 7, none⟩ v') ((Deep.blk_setCell_other _ _ _ _ nDL).trans oL) ((Deep.blk_setCell_other _ _ _ _ nVD).trans oV)
  clear HS4 oL oV
  obtain ⟨av', cv', hsv', _⟩ := hF6.form
  rw [List.length_append, List.length_singleton] at hsv'
  subst hsv'
  subst hsv
  have hSd : (fun X : World => X.cell? ⟨D, 7, none⟩ = some (.slice av s.sent.length cv) ∧ X.cell? ⟨L, 7, none⟩ = some (.int .i64 (k : Int)) ∧ X.cell? ⟨L, 1, none⟩ = some (.string C) ∧ X.cell? ⟨w.heap.size, 0, none⟩ = some (.int .i64 z.client) ∧ X.cell? ⟨w.heap.size, 1, none⟩ = some (.string z.tag) ∧ X.cell? ⟨w.heap.size, 2, none⟩ = some (.string z.query) ∧ X.cell? ⟨w.heap.size, 3, none⟩ = some (.string z.pointer)) D5 := ⟨q7, hK5⟩
  have hSa : (fun X : World => X.cell? ⟨D, 7, none⟩ = some (.slice av s.sent.length cv) ∧ X.cell? ⟨L, 7, none⟩ = some (.int .i64 (k : Int)) ∧ X.cell? ⟨L, 1, none⟩ = some (.string C) ∧ X.cell? ⟨w.heap.size, 0, none⟩ = some (.int .i64 z.client) ∧ X.cell? ⟨w.heap.size, 1, none⟩ = some (.string z.tag) ∧ X.cell? ⟨w.heap.size, 2, none⟩ = some (.string z.query) ∧ X.cell? ⟨w.heap.size, 3, none⟩ = some (.string z.pointer)) (D5.alloc (.cells #[.int .i64 (k : Int), .string C, .int .i64 z.client, .string z.tag, .string z.query, .string z.pointer] 48)) := ⟨(((Below.refl D5.heap.size D5).alloc (Nat.le_refl _) _).cell (p := ⟨D, 7, none⟩) tD).trans q7, hK5a⟩
  have hS6 : (fun X : World => X.cell? ⟨D, 7, none⟩ = some (.slice av s.sent.length cv) ∧ X.cell? ⟨L, 7, none⟩ = some (.int .i64 (k : Int)) ∧ X.cell? ⟨L, 1, none⟩ = some (.string C) ∧ X.cell? ⟨w.heap.size, 0, none⟩ = some (.int .i64 z.client) ∧ X.cell? ⟨w.heap.size, 1, none⟩ = some (.string z.tag) ∧ X.cell? ⟨w.heap.size, 2, none⟩ = some (.string z.query) ∧ X.cell? ⟨w.heap.size, 3, none⟩ = some (.string z.pointer)) W6 := ⟨r7, hK6⟩
  have hres : ∀ (tmps : Array Value) (W : World), (results Tryd.f43 tmps).run Tryd.prog W = .ok (.tuple #[]) W := fun tmps W => by simp [results, Tryd.results43, go_sem]
  clear hKd hK5 hK5a hK6 hK7 hd4 hbv4 hbl4 hb5 hd5 hbv5 hbl5 hLB5 hr hF6 o6 hat hd6 hbx6 hr4 hm4 ho4 hcM4 hS3 hS1 d1 df1 q7 qL7 qL1 b0 b1 b2 b3
  clear HUP KS KS2 LF HI0 HW HD0 HBV HPUT HLB KS3 HDY2 HBV2 HBl2 HNX HSD HTK2 HTK4
  clear hnB hnB2 hC hL hW0
  go_wp2_with fail
  refine wp_region_two (fun X : World => X.cell? ⟨D, 7, none⟩ = some (.slice av s.sent.length cv) ∧ X.cell? ⟨L, 7, none⟩ = some (.int .i64 (k : Int)) ∧ X.cell? ⟨L, 1, none⟩ = some (.string C) ∧ X.cell? ⟨w.heap.size, 0, none⟩ = some (.int .i64 z.client) ∧ X.cell? ⟨w.heap.size, 1, none⟩ = some (.string z.tag) ∧ X.cell? ⟨w.heap.size, 2, none⟩ = some (.string z.query) ∧ X.cell? ⟨w.heap.size, 3, none⟩ = some (.string z.pointer)) 18 (by kernel_rfl) ?_
  rw [hwd5]
  refine wpTwo_take (i := 0) (some 39) (v := ?v0) rfl rfl (by kernel_rfl) (by kernel_rfl) (by kernel_rfl) (by kernel_rfl) (fun _ _ _ h => h) hSd (Or.inl ⟨by rfl, ?hy0⟩) ?rest0
  case hy0 => (intro w hSw; (try dsimp only at hSw); go_simp; try with_reducible rfl)
  try simp only [Act.put, List.setIfInBounds_toArray, List.set_cons_zero, List.set_cons_succ]
  refine wpTwo_take (i := 1) (some 40) (v := ?v1) rfl rfl (by kernel_rfl) (by kernel_rfl) (by kernel_rfl) (by kernel_rfl) (fun _ _ _ h => h) hSd (Or.inl ⟨by rfl, ?hy1⟩) ?rest1
  case hy1 => (intro w hSw; (try dsimp only at hSw); go_simp; try with_reducible rfl)
  try simp only [Act.put, List.setIfInBounds_toArray, List.set_cons_zero, List.set_cons_succ]
  refine wpTwo_take (i := 2) (some 41) (v := ?v2) rfl rfl (by kernel_rfl) (by kernel_rfl) (by kernel_rfl) (by kernel_rfl) (fun _ _ _ h => h) hSd (Or.inl ⟨by rfl, ?hy2⟩) ?rest2
  case hy2 => (intro w hSw; (try dsimp only at hSw); go_simp; try with_reducible rfl)
  try simp only [Act.put, List.setIfInBounds_toArray, List.set_cons_zero, List.set_cons_succ]
  refine wpTwo_take (i := 3) (some 42) (v := ?v3) rfl rfl (by kernel_rfl) (by kernel_rfl) (by kernel_rfl) (by kernel_rfl) (fun _ _ _ h => h) hSd (Or.inl ⟨by rfl, ?hy3⟩) ?rest3
  case hy3 => (intro w hSw; (try dsimp only at hSw); go_simp; try with_reducible rfl)
  try simp only [Act.put, List.setIfInBounds_toArray, List.set_cons_zero, List.set_cons_succ]
  refine wpTwo_take (i := 4) (some 43) (v := ?v4) rfl rfl (by kernel_rfl) (by kernel_rfl) (by kernel_rfl) (by kernel_rfl) (fun _ _ _ h => h) hSd (Or.inl ⟨by rfl, ?hy4⟩) ?rest4
  case hy4 => (intro w hSw; (try dsimp only at hSw); go_simp; try with_reducible rfl)
  try simp only [Act.put, List.setIfInBounds_toArray, List.set_cons_zero, List.set_cons_succ]
  refine wpTwo_take (i := 5) (some 44) (v := ?v5) rfl rfl (by kernel_rfl) (by kernel_rfl) (by kernel_rfl) (by kernel_rfl) (fun _ _ _ h => h) hSd (Or.inl ⟨by rfl, ?hy5⟩) ?rest5
  case hy5 => (intro w hSw; (try dsimp only at hSw); go_simp; try with_reducible rfl)
  try simp only [Act.put, List.setIfInBounds_toArray, List.set_cons_zero, List.set_cons_succ]
  refine wpTwo_take (i := 6) (some 45) (v := ?v6) rfl rfl (by kernel_rfl) (by kernel_rfl) (by kernel_rfl) (by kernel_rfl) (fun _ _ _ h => h) hSd (Or.inl ⟨by rfl, ?hy6⟩) ?rest6
  case hy6 => (intro w hSw; (try dsimp only at hSw); go_simp; try with_reducible rfl)
  try simp only [Act.put, List.setIfInBounds_toArray, List.set_cons_zero, List.set_cons_succ]
  refine wpTwo_take (i := 7) (some 46) (v := ?v7) rfl rfl (by kernel_rfl) (by kernel_rfl) (by kernel_rfl) (by kernel_rfl) (fun _ _ _ h => h) hSd (Or.inl ⟨by rfl, ?hy7⟩) ?rest7
  case hy7 => (intro w hSw; (try dsimp only at hSw); go_simp; try with_reducible rfl)
  try simp only [Act.put, List.setIfInBounds_toArray, List.set_cons_zero, List.set_cons_succ]
  refine wpTwo_take (i := 8) (some 47) (v := ?v8) rfl rfl (by kernel_rfl) (by kernel_rfl) (by kernel_rfl) (by kernel_rfl) (fun _ _ _ h => h) hSd (Or.inl ⟨by rfl, ?hy8⟩) ?rest8
  case hy8 => (intro w hSw; (try dsimp only at hSw); go_simp; try with_reducible rfl)
  try simp only [Act.put, List.setIfInBounds_toArray, List.set_cons_zero, List.set_cons_succ]
  refine wpTwo_take (i := 9) (some 48) (v := ?v9) rfl rfl (by kernel_rfl) (by kernel_rfl) (by kernel_rfl) (by kernel_rfl) (fun _ _ _ h => h) hSd (Or.inl ⟨by rfl, ?hy9⟩) ?rest9
  case hy9 => (intro w hSw; (try dsimp only at hSw); go_simp; try with_reducible rfl)
  try simp only [Act.put, List.setIfInBounds_toArray, List.set_cons_zero, List.set_cons_succ]
  refine wpTwo_take (i := 10) (some 49) (v := ?v10) rfl rfl (by kernel_rfl) (by kernel_rfl) (by kernel_rfl) (by kernel_rfl) (fun _ _ _ h => h) hSd (Or.inl ⟨by rfl, ?hy10⟩) ?rest10
  case hy10 => (intro w hSw; (try dsimp only at hSw); go_simp; try with_reducible rfl)
  try simp only [Act.put, List.setIfInBounds_toArray, List.set_cons_zero, List.set_cons_succ]
  refine wpTwo_take (i := 11) (some 50) (v := ?v11) rfl rfl (by kernel_rfl) (by kernel_rfl) (by kernel_rfl) (by kernel_rfl) (fun _ _ _ h => h) hSd (Or.inl ⟨by rfl, ?hy11⟩) ?rest11
  case hy11 => (intro w hSw; (try dsimp only at hSw); go_simp; try with_reducible rfl)
  try simp only [Act.put, List.setIfInBounds_toArray, List.set_cons_zero, List.set_cons_succ]
  refine wpTwo_take (i := 12) (some 51) (v := ?v12) rfl rfl (by kernel_rfl) (by kernel_rfl) (by kernel_rfl) (by kernel_rfl) (fun _ _ _ h => h) hSd (Or.inl ⟨by rfl, ?hy12⟩) ?rest12
  case hy12 => (intro w hSw; (try dsimp only at hSw); go_simp; try with_reducible rfl)
  try simp only [Act.put, List.setIfInBounds_toArray, List.set_cons_zero, List.set_cons_succ]
  refine wpTwo_take (i := 13) (some 52) (v := ?v13) rfl rfl (by kernel_rfl) (by kernel_rfl) (by kernel_rfl) (by kernel_rfl) (fun _ _ _ h => h) hSd (Or.inl ⟨by rfl, ?hy13⟩) ?rest13
  case hy13 => (intro w hSw; (try dsimp only at hSw); go_simp; try with_reducible rfl)
  try simp only [Act.put, List.setIfInBounds_toArray, List.set_cons_zero, List.set_cons_succ]
  refine wpTwo_take (i := 14) (some 53) (v := ?v14) rfl rfl (by kernel_rfl) (by kernel_rfl) (by kernel_rfl) (by kernel_rfl) (fun _ _ _ h => h) hSd (Or.inl ⟨by rfl, ?hy14⟩) ?rest14
  case hy14 => (intro w hSw; (try dsimp only at hSw); go_simp; try with_reducible rfl)
  try simp only [Act.put, List.setIfInBounds_toArray, List.set_cons_zero, List.set_cons_succ]
  refine wpTwo_take (i := 15) (some 54) (v := ?v15) rfl rfl (by kernel_rfl) (by kernel_rfl) (by kernel_rfl) (by kernel_rfl) (fun _ _ _ h => h) hSd (Or.inl ⟨by rfl, ?hy15⟩) ?rest15
  case hy15 => (intro w hSw; (try dsimp only at hSw); go_simp; try with_reducible rfl)
  try simp only [Act.put, List.setIfInBounds_toArray, List.set_cons_zero, List.set_cons_succ]
  refine wpTwo_one (j := 16) (by kernel_rfl) rfl (fun K hK => ?_)
  go_simp
  refine hK.out _ _ (fun _ => hSa) ?_
  clear hK K
  try simp only [Act.put, List.setIfInBounds_toArray, List.set_cons_zero, List.set_cons_succ]
  refine wpTwo_one (j := 17) (by kernel_rfl) rfl (fun K hK => ?_)
  refine step_app rfl _ _ 30 rfl hr2 (by first | rfl | simp [Act.eval, Act.put]) (by first | rfl | simp [Act.eval, Act.put]) ?_
  show K (Act.put _ (some 56) _) _
  refine hK.out _ _ (fun _ => hS6) ?_
  clear hK K
  try simp only [Act.put, List.setIfInBounds_toArray, List.set_cons_zero, List.set_cons_succ]
  refine wpTwo_one (j := 18) (by kernel_rfl) rfl (fun K hK => ?_)
  go_simp
  refine hK.out _ _ (fun h => absurd h (by decide)) ?_
  clear hK K
  refine wpTwo_one (j := 19) (by kernel_rfl) rfl (fun K hK => ?_)
  go_simp
  refine hK.out _ _ (fun h => absurd h (by decide)) ?_
  clear hK K
  refine wpTwo_one (j := 20) (by kernel_rfl) rfl (fun K hK => ?_)
  go_simp
  refine hK.out _ _ (fun h => absurd h (by decide)) ?_
  clear hK K
  refine wpTwo_done (by kernel_rfl) ?_ _
  exact bodyPost_end (hres _ _) rfl ⟨rfl, _, HFIN.out.1, HFIN.out.2.1, HFIN.out.2.2⟩
theorem sendOk : SendOk := fun h k z hk hlo hI he0 he1 hn0 hn1 hw0 hw1 hsl hnn hk4 => send_any h k z hk hlo hI he0 he1 hn0 hn1 hw0 hw1 hsl hnn hk4
end Go.Proofs.YtfdefjdogmhinaaDoor.Msg

namespace Go.Proofs.YtfdefjdogmhinaaDoor.Msg
open Go.ChangeShapes Go.WideShapes Go.ChangeAt Go.RowKit
set_option linter.unusedVariables false
set_option linter.unusedSimpArgs false

/-- a piece of the code at which a walk stands still -/
def Stop (c : Code) : Code := c

def OfPost (x : Pl) (now : Int) (w : World) (en : Ending) (w' : World) : Prop :=
  ((okPl x = true ∧ nowB now = true ∧ ∃ D M Ls lv fv qv2 n, en = .returned (.pointer (some ⟨D, 0, none⟩)) ∧ DeskN w.heap.size w' D M Ls ⟨x.epoch, x.next, now, x.conns, freeIdx x.conns, x.queue, []⟩ lv fv qv2 (.slice none 0 0) n ∧ n ≤ x.conns.length) ∨ (¬ (okPl x = true ∧ nowB now = true) ∧ en = .returned (.pointer none))) ∧ Below w.heap.size w w'

set_option maxRecDepth 100000 in
set_option maxHeartbeats 6000000 in
theorem deskOf_any (x : Pl) (cv qv : Value) (now : Int) (w : World) {lo : Nat} (hp : PlAt lo w x cv qv) :
    Calls Tryd.prog 20 #[plV x cv qv, .int .i64 now] w (OfPost x now w) := by
  have HPI := hide (fun W (h : PlAt lo W x cv qv) => poolOkI_any x cv qv W h)
  obtain ⟨a1, c1, hf1, _⟩ := hp.1.form
  obtain ⟨a2, c2, hf2, _⟩ := hp.2.form
  subst hf1 hf2
  unfold plV at HPI ⊢
  obtain ⟨w1, hw1⟩ : ∃ w1, w.alloc (Obj.cells #[.int .i64 x.epoch, .int .i64 x.next, .slice a1 x.conns.length c1, .slice a2 x.queue.length c2] 27) = w1 := ⟨_, rfl⟩
  have HB1 : Hid (Below w.heap.size w w1) := by rw [← hw1]; exact (Below.refl _ _).alloc (Nat.le_refl _) _
  have HX1 : Hid (Box w1 w.heap.size 27 #[.int .i64 x.epoch, .int .i64 x.next, .slice a1 x.conns.length c1, .slice a2 x.queue.length c2]) := by rw [← hw1]; exact Box.new _ _ _
  have HPL := hide hp
  have HBAD : Hid (¬ (okPl x = true ∧ nowB now = true) → ∀ W, Below w.heap.size w W → OfPost x now w (.returned (.pointer none)) W) := fun h W hW => ⟨.inr ⟨h, rfl⟩, hW⟩
  obtain ⟨⟨p0, p1, p2, p3⟩, _⟩ := HX1.out.pool
  clear hp
  cases h1 : okPl x with
  | false =>
    rw [h1] at HPI
    have HG := hide (HBAD.out (by rw [h1]; simp))
    clear h1
    go_enter Tryd.func20, Tryd.ntmps20
    go_wp2_with fail
    refine (HPI.out _ (HPL.out.below HB1.out)).mono ?_
    rintro en W ⟨rfl, hbW⟩
    have HBW := hide (bjoin hbW HB1.out)
    clear hbW
    go_wp2_with fail
    go_ret
    exact HG.out _ HBW.out
  | true =>
    rw [h1] at HPI
    by_cases h2 : now < 0
    · have HG := hide (HBAD.out (fun h => by have := nowB_of h.2; omega))
      clear h1
      go_enter Tryd.func20, Tryd.ntmps20
      go_wp2_with fail
      refine (HPI.out _ (HPL.out.below HB1.out)).mono ?_
      rintro en W ⟨rfl, hbW⟩
      have HBW := hide (bjoin hbW HB1.out)
      clear hbW
      go_wp2_with fail
      go_ret
      exact HG.out _ HBW.out
    · by_cases h3 : 900000000 < now
      · have HG := hide (HBAD.out (fun h => by have := nowB_of h.2; omega))
        clear h1
        go_enter Tryd.func20, Tryd.ntmps20
        go_wp2_with fail
        refine (HPI.out _ (HPL.out.below HB1.out)).mono ?_
        rintro en W ⟨rfl, hbW⟩
        have HBW := hide (bjoin hbW HB1.out)
        clear hbW
        go_wp2_with fail
        go_ret
        exact HG.out _ HBW.out
      · have hnb : nowB now = true := decide_eq_true (by omega)
        have HOK := hide (And.intro h1 hnb)
        obtain ⟨g1, g2, g3, g4, g5, g6, g7⟩ := okPl_head_of h1
        have HCL := hide (fun W (h : WnsAt lo W (.slice a2 x.queue.length c2) x.queue) => clone_any x.queue _ W h (by omega))
        clear h1 hnb HBAD
        have hmm := @run_makeMap Tryd.prog
        go_enter Tryd.func20, Tryd.ntmps20
        go_wp2_with fail
        refine (HPI.out _ (HPL.out.below HB1.out)).mono ?_
        rintro en W ⟨rfl, hbW⟩
        have HBW := hide (bjoin hbW HB1.out)
        have HXW := hide (HX1.out.below hbW)
        have KS : Hid (∀ X, Below W.heap.size W X → X.cell? ⟨w.heap.size, 0, none⟩ = some (.int .i64 x.epoch) ∧ X.cell? ⟨w.heap.size, 1, none⟩ = some (.int .i64 x.next) ∧ X.cell? ⟨w.heap.size, 3, none⟩ = some (.slice a2 x.queue.length c2)) := fun X hX => by
          obtain ⟨⟨e0, e1, e2, e3⟩, _⟩ := (HXW.out.below hX).pool
          exact ⟨e0, e1, e3⟩
        have hk0 : Below W.heap.size W W.drew := (Below.refl _ _).drew
        obtain ⟨D1, hwd⟩ : ∃ D1, W.drew = D1 := ⟨_, rfl⟩
        have hk1 : Below W.heap.size W D1 := by rw [← hwd]; exact hk0
        have hk2 : ∀ o, Below W.heap.size W (D1.alloc o) := fun o => hk1.alloc hk1.size o
        have HQW : Hid (∀ X, Below W.heap.size W X → WnsAt lo X (.slice a2 x.queue.length c2) x.queue) := fun X hX => At.kept kept_flat HPL.out.2 (bjoin hX HBW.out)
        clear hbW p0 p1 p2 p3
        go_wp2_with fail
        go_region_held3 (fun X => X.cell? ⟨w.heap.size, 0, none⟩ = some (.int .i64 x.epoch) ∧ X.cell? ⟨w.heap.size, 1, none⟩ = some (.int .i64 x.next) ∧ X.cell? ⟨w.heap.size, 3, none⟩ = some (.slice a2 x.queue.length c2))
          (first | with_reducible exact KS.out _ hk0 | with_reducible exact KS.out _ hk1 | with_reducible exact KS.out _ (hk2 _) | with_reducible exact KS.out _ hS1 | with_reducible exact KS.out _ (hS2 _) | with_reducible exact KS.out _ (hS3 _ _))
          (first | (go_at_call 40; refine (HCL.out _ (by first | with_reducible exact HQW.out _ hk1 | with_reducible exact HQW.out _ (hk2 _))).mono ?_; rintro e W2 ⟨u, rfl, hu, hb2⟩; have hS1 : Below W.heap.size W W2 := (by first | with_reducible exact bjoin hb2 hk1 | with_reducible exact bjoin hb2 (hk2 _)); obtain ⟨au, cu, hfu, hcu⟩ := hu.form; subst hfu; have hS2 : ∀ o, Below W.heap.size W (W2.alloc o) := fun o => hS1.alloc hS1.size o; have hS3 : ∀ o o2, Below W.heap.size W ((W2.alloc o).alloc o2) := fun o o2 => (hS2 o).alloc (hS2 o).size o2))
        all_goals first
          | (
              have hu0 : FB wnC 4 33 w.heap.size W2 (.slice au x.queue.length cu) x.queue := hu.mono (by have := HBW.out.size; have := hk1.size; first | omega | (rw [Deep.nblk_alloc]; omega))
              have hmo : MapO W2 D1.heap.size 0 := ⟨_, (World.ownsMap_made D1 Tryd.prog 66 ptrElem).kept (row := none) ⟨hb2.os, hb2.tape, hb2.output, hb2.size, fun k hk _ => hb2.block k hk⟩ (by simp)⟩
              have hwn : W.heap.size ≤ D1.heap.size := hk1.size
              have hw0 : w.heap.size ≤ W.heap.size := HBW.out.size
              have hd1 : D1.heap.size ≤ W2.heap.size := by have := hb2.size; first | omega | (rw [Deep.nblk_alloc] at this; omega)
              have hBx : Below W.heap.size W W2 := by first | with_reducible exact hS1 | with_reducible exact hS2 _
              have hu1 : FB wnC 4 33 w.heap.size W2 (.slice au x.queue.length cu) x.queue := by first | with_reducible exact hu0 | exact hu0.below ((Below.refl _ _).alloc (Nat.le_refl _) _)
              have hlM : w.heap.size ≤ D1.heap.size := by omega
              have hlD : w.heap.size ≤ (W2).heap.size := by first | omega | (rw [Deep.nblk_alloc]; omega)
              obtain ⟨M, hM⟩ : ∃ M, D1.heap.size = M := ⟨_, rfl⟩
              obtain ⟨V, hV⟩ : ∃ V, W2 = V := ⟨_, rfl⟩
              obtain ⟨D, hD⟩ : ∃ D, V.heap.size = D := ⟨_, rfl⟩
              obtain ⟨W3, hW3⟩ : ∃ W3, V.alloc (Obj.cells #[.int .i64 x.epoch, .int .i64 x.next, .int .i64 now, .slice none 0 0, .slice none 0 0, .map (some M), .slice au x.queue.length cu, .slice none 0 0] 58) = W3 := ⟨_, rfl⟩
              rw [hM, hV] at hmo
              rw [hV] at hBx hu1 hlD
              rw [hM] at hlM
              rw [hD] at hlD
              have hb3 : Below V.heap.size V W3 := by rw [← hW3]; exact (Below.refl _ _).alloc (Nat.le_refl _) _
              have HN : Hid (DeskN w.heap.size W3 D M [] ⟨x.epoch, x.next, now, [], [], x.queue, []⟩ (.slice none 0 0) (.slice none 0 0) (.slice au x.queue.length cu) (.slice none 0 0) 0) := DeskN.fresh (hmo.keep (hb3.block M hmo.lt)) (hu1.below hb3) (by rw [← hW3, ← hD]; exact Box.new _ _ _) hlM hlD
              have HB3 : Hid (Below w.heap.size w W3) := bjoin (bjoin hb3 hBx) HBW.out
              have p2 : W3.cell? ⟨w.heap.size, 2, none⟩ = some (.slice a1 x.conns.length c1) := (((HXW.out.below hBx).below hb3).pool).1.2.2.1
              first | rw [hM, hV, hD, hW3] | (subst hV; rw [hM, hD, hW3]) | (simp only [hM]; simp only [hV]; simp only [hD]; rw [hW3])
              clear hu hu0 hmo hBx hu1 hb3 hS1 hS2 hS3 hb2 hlM hlD)
          | (
              have hu0 : FB wnC 4 33 w.heap.size W2 (.slice au x.queue.length cu) x.queue := hu.mono (by have := HBW.out.size; have := hk1.size; first | omega | (rw [Deep.nblk_alloc]; omega))
              have hmo : MapO (W2.alloc (Obj.map #[] 0)) W2.heap.size 0 := MapO.new W2
              have hwn : W.heap.size ≤ D1.heap.size := hk1.size
              have hw0 : w.heap.size ≤ W.heap.size := HBW.out.size
              have hd1 : D1.heap.size ≤ W2.heap.size := by have := hb2.size; first | omega | (rw [Deep.nblk_alloc] at this; omega)
              have hBx : Below W.heap.size W (W2.alloc (Obj.map #[] 0)) := by first | with_reducible exact hS1 | with_reducible exact hS2 _
              have hu1 : FB wnC 4 33 w.heap.size (W2.alloc (Obj.map #[] 0)) (.slice au x.queue.length cu) x.queue := by first | with_reducible exact hu0 | exact hu0.below ((Below.refl _ _).alloc (Nat.le_refl _) _)
              have hlM : w.heap.size ≤ W2.heap.size := by omega
              have hlD : w.heap.size ≤ (W2.alloc (Obj.map #[] 0)).heap.size := by first | omega | (rw [Deep.nblk_alloc]; omega)
              obtain ⟨M, hM⟩ : ∃ M, W2.heap.size = M := ⟨_, rfl⟩
              obtain ⟨V, hV⟩ : ∃ V, (W2.alloc (Obj.map #[] 0)) = V := ⟨_, rfl⟩
              obtain ⟨D, hD⟩ : ∃ D, V.heap.size = D := ⟨_, rfl⟩
              obtain ⟨W3, hW3⟩ : ∃ W3, V.alloc (Obj.cells #[.int .i64 x.epoch, .int .i64 x.next, .int .i64 now, .slice none 0 0, .slice none 0 0, .map (some M), .slice au x.queue.length cu, .slice none 0 0] 58) = W3 := ⟨_, rfl⟩
              rw [hM, hV] at hmo
              rw [hV] at hBx hu1 hlD
              rw [hM] at hlM
              rw [hD] at hlD
              have hb3 : Below V.heap.size V W3 := by rw [← hW3]; exact (Below.refl _ _).alloc (Nat.le_refl _) _
              have HN : Hid (DeskN w.heap.size W3 D M [] ⟨x.epoch, x.next, now, [], [], x.queue, []⟩ (.slice none 0 0) (.slice none 0 0) (.slice au x.queue.length cu) (.slice none 0 0) 0) := DeskN.fresh (hmo.keep (hb3.block M hmo.lt)) (hu1.below hb3) (by rw [← hW3, ← hD]; exact Box.new _ _ _) hlM hlD
              have HB3 : Hid (Below w.heap.size w W3) := bjoin (bjoin hb3 hBx) HBW.out
              have p2 : W3.cell? ⟨w.heap.size, 2, none⟩ = some (.slice a1 x.conns.length c1) := (((HXW.out.below hBx).below hb3).pool).1.2.2.1
              have hD2 : W2.heap.size + 1 = D := by rw [← hD, ← hV]; simp
              first | rw [hD2, hM, hV, hW3] | (simp only [hD2, hM, hV]; rw [hW3])
              clear hu hu0 hmo hBx hu1 hb3 hS1 hS2 hS3 hb2 hlM hlD)
        all_goals
          go_wp2_with fail
          go_loopg [34] x.conns.length (fun q i wx => ∃ (k : Nat) (Ls : List Nat) (lv fv : Value) (n : Nat), k ≤ x.conns.length ∧ q = x.conns.length - k ∧ i = .int .i64 k ∧ DeskN w.heap.size wx D M Ls ⟨x.epoch, x.next, now, x.conns.take k, freeIdx (x.conns.take k), x.queue, []⟩ lv fv (.slice au x.queue.length cu) (.slice none 0 0) n ∧ n ≤ k ∧ Below w.heap.size w wx)
          case atStart => exact ⟨0, [], _, _, 0, Nat.zero_le _, rfl, rfl, HN.out, Nat.le_refl _, HB3.out⟩
          case round =>
            obtain ⟨k, Ls, lv, fv, n, hk, rfl, rfl, hdn, hnk, hb⟩ := hrel
            by_cases hlt : k < x.conns.length
            · obtain ⟨b, off, rfl, hbl, hel, hz⟩ := at_place HPL.out.1 hlt
              have hi : (k : Int) < (x.conns.length : Int) := by omega
              obtain ⟨c, hc⟩ : ∃ c, x.conns[k] = c := ⟨_, rfl⟩
              rw [hc] at hel hz
              have hown : ∀ j (hj : j < 7), wr.cell? ⟨b, off + k * 7 + j, none⟩ = some ((cnC c)[j]'(by rw [cnC_len]; exact hj)) := fun j hj => by
                rw [hb.cell (p := ⟨b, off + k * 7 + j, none⟩) hbl]
                exact hel j (by rw [cnC_len]; exact hj)
              have g0 : wr.cell? ⟨b, off + k * 7, none⟩ = some (.bool c.busy) := hown 0 (by omega)
              have g1 : wr.cell? ⟨b, off + k * 7 + 1, none⟩ = some (.string c.control) := hown 1 (by omega)
              have g2 : wr.cell? ⟨b, off + k * 7 + 2, none⟩ = some (.int .i64 c.want.client) := hown 2 (by omega)
              have g3 : wr.cell? ⟨b, off + k * 7 + 3, none⟩ = some (.string c.want.tag) := hown 3 (by omega)
              have g4 : wr.cell? ⟨b, off + k * 7 + 4, none⟩ = some (.string c.want.query) := hown 4 (by omega)
              have g5 : wr.cell? ⟨b, off + k * 7 + 5, none⟩ = some (.string c.want.pointer) := hown 5 (by omega)
              have g6 : wr.cell? ⟨b, off + k * 7 + 6, none⟩ = some (.int .i64 c.due) := hown 6 (by omega)
              have hlen : Ls.length = k := by have := hdn.desk.len; simp only [List.length_take] at this; omega
              obtain ⟨V1, hV1⟩ : ∃ V, wr.alloc (Obj.cells #[.bool c.busy, .string c.control, .int .i64 c.want.client, .string c.want.tag, .string c.want.query, .string c.want.pointer, .int .i64 c.due] 37) = V := ⟨_, rfl⟩
              have hb1 : Below wr.heap.size wr V1 := by rw [← hV1]; exact (Below.refl _ _).alloc (Nat.le_refl _) _
              have hbx1 : Box V1 wr.heap.size 37 #[.bool c.busy, .string c.control, .int .i64 c.want.client, .string c.want.tag, .string c.want.query, .string c.want.pointer, .int .i64 c.due] := by rw [← hV1]; exact Box.new _ _ _
              have m0 : V1.cell? ⟨wr.heap.size, 0, none⟩ = some (.bool c.busy) := hbx1.cell 0 (by simp)
              have m1 : V1.cell? ⟨wr.heap.size, 1, none⟩ = some (.string c.control) := hbx1.cell 1 (by simp)
              have m2 : V1.cell? ⟨wr.heap.size, 2, none⟩ = some (.int .i64 c.want.client) := hbx1.cell 2 (by simp)
              have m3 : V1.cell? ⟨wr.heap.size, 3, none⟩ = some (.string c.want.tag) := hbx1.cell 3 (by simp)
              have m4 : V1.cell? ⟨wr.heap.size, 4, none⟩ = some (.string c.want.query) := hbx1.cell 4 (by simp)
              have m5 : V1.cell? ⟨wr.heap.size, 5, none⟩ = some (.string c.want.pointer) := hbx1.cell 5 (by simp)
              have m6 : V1.cell? ⟨wr.heap.size, 6, none⟩ = some (.int .i64 c.due) := hbx1.cell 6 (by simp)
              obtain ⟨V2, hV2⟩ : ∃ V, V1.alloc (Obj.cells #[.bool c.busy, .string c.control, .int .i64 c.want.client, .string c.want.tag, .string c.want.query, .string c.want.pointer, .int .i64 c.due, .int .i64 (k : Int)] 68) = V := ⟨_, rfl⟩
              have hb2 : Below V1.heap.size V1 V2 := by rw [← hV2]; exact (Below.refl _ _).alloc (Nat.le_refl _) _
              have hbL : Box V2 V1.heap.size 68 (lnA c k) := by rw [← hV2]; exact Box.new _ _ _
              have hbb : Below wr.heap.size wr V2 := bjoin hb2 hb1
              have hd2 := hdn.below hbb
              have hs1 : wr.heap.size ≤ V1.heap.size := hb1.size
              have hs0 : w.heap.size ≤ wr.heap.size := hb.size
              have hsV : V1.heap.size < V2.heap.size := hbL.lt
              obtain ⟨L, hL⟩ : ∃ L, V1.heap.size = L := ⟨_, rfl⟩
              rw [hL] at hbL hs1 hsV
              have hnew : L ∉ Ls := fun h => by
                obtain ⟨i, hi, e⟩ := List.getElem_of_mem h
                have := (hdn.desk.line i hi (by rw [← hdn.desk.len]; exact hi)).lt
                omega
              obtain ⟨v3, V3, hr3, hF3, o3, hat3⟩ := app1 Tryd.underlying55 info_Ptr rfl (by decide) ptrC_len ptrC_one hd2.desk.lrow 55 L (by omega) (by omega) (by omega)
              have hsepF : ∀ d ∈ fv.ownBlock.toList, V3.heap[d]? = V2.heap[d]? := fun d hd => o3.block d (hd2.ffree.own d hd).2 (hd2.sep d hd)
              have hF3f := hd2.ffree.keep hsepF
              have hd4 := hd2.desk.addLine (c := c) (by rw [hlen]; exact hbL) (by omega) hnew o3 hF3 (FV.of_own ptrC_len hF3f (Nat.le_refl _))
              simp only at hd4
              rw [← hc, take_snoc x.conns k hlt] at hd4
              obtain ⟨V4, hV4⟩ : ∃ V, V3.setCell ⟨D, 3, none⟩ v3 = V := ⟨_, rfl⟩
              rw [hV4] at hd4
              have hbox3 : Box V3 D 58 _ := hd2.desk.box.keepT (TSame.own hd2.desk.lrow o3 (by decide))
              have oD4 : Only [D] V3 V4 := by rw [← hV4]; exact (Only.refl _ _).setCell (by simp) _
              have hF4f : FB ptrC 1 64 w.heap.size V4 fv _ := hF3f.keepT (TSame.only oD4 hbox3 (by decide))
              have hQ4 : FB wnC 4 33 w.heap.size V4 (.slice au x.queue.length cu) x.queue := (hd2.fqueue.keepT (TSame.own hd2.desk.lrow o3 (by decide))).keepT (TSame.only oD4 hbox3 (by decide))
              have hbl4 : Below w.heap.size w V4 := by
                have c1 := bjoin hbb hb
                have c2 := c1.trans (o3.below c1.size fun d hd => (hd2.desk.lrow.own d hd).1)
                rw [← hV4]
                exact c2.setCell (by have := hd2.desk.lows.1; simpa using this) _
              have hL4 : Box V4 L 68 (lnA c k) := ((hbL.keepT (TSame.own hd2.desk.lrow o3 (by decide)))).keepT (TSame.only oD4 hbox3 (by decide))
              have hsep4 : ∀ d ∈ fv.ownBlock.toList, d ∉ v3.ownBlock.toList := fun d hd h => by
                rcases hat3 with h3 | ⟨g, h3, hg⟩
                · rw [h3] at h; exact hd2.sep d hd h
                · rw [h3] at h; simp at h; subst h; have := (hd2.ffree.own _ hd).2; omega
              have q3 : V2.cell? ⟨D, 3, none⟩ = some lv := hd2.desk.cells.1.2.2.2.1
              have r3 : V3.cell? ⟨D, 3, none⟩ = some lv := hbox3.cell 3 (by simp)
              have rf3 := hbox3.frozen 3
              have q5 : V4.cell? ⟨L, 0, none⟩ = some (.bool c.busy) := hL4.line7.1.1
              obtain ⟨al, cl, hlf, _⟩ := hd2.desk.lrow.form
              obtain ⟨a3, c3, hf3, _⟩ := hF3.form
              rw [List.length_append, List.length_singleton] at hf3
              have hr3' : (Builtin.append_ #[55, 55] 55 #[lv, .slice (some ⟨V2.heap.size, 0, none⟩) 1 1]).run Tryd.prog (V2.alloc (.cells #[.pointer (some ⟨L, 0, none⟩)] 64)) = .ok v3 V3 := hr3
              subst hlf hf3
              have HD4 := hide hd4
              have HF4 := hide hF4f
              have HQ4 := hide hQ4
              have HL4 := hide hL4
              have HSEP := hide hsep4
              have HBL := hide hbl4
              have HCZ := hide hz
              have HC := hide hc
              have hszb : c.control.size ≤ 9223372036854775807 := hz.1
              have hLlen : (Ls ++ [L]).length = k + 1 := by simp [hlen]
              have hLk : (Ls ++ [L]).getD k 0 = L := by rw [List.getD_eq_getElem?_getD, List.getElem?_append_right (by omega), hlen]; simp
              clear hel hown hb1 hbx1 hb2 hbL hbb hd2 hr3 hF3 o3 hat3 hsepF hF3f hd4 hbox3 oD4 hF4f hQ4 hbl4 hL4 hsep4 hc hz hdn hb
              cases hbz : c.busy with
              | true =>
                have q4 : V4.cell? ⟨D, 5, none⟩ = some (.map (some M)) := HD4.out.cells.1.2.2.2.2.2.1
                have KS5 : Hid (∀ X, Below V4.heap.size V4 X → X.cell? ⟨D, 5, none⟩ = some (.map (some M))) := fun X hX => (HD4.out.below hX).cells.1.2.2.2.2.2.1
                have hD5' : Below V4.heap.size V4 V4.drew := (Below.refl _ _).drew
                obtain ⟨D5, hwd5⟩ : ∃ D5, V4.drew = D5 := ⟨_, rfl⟩
                have hD5 : Below V4.heap.size V4 D5 := by rw [← hwd5]; exact hD5'
                have HPUT : Hid (∀ X, Below V4.heap.size V4 X → ∃ W', (Instr.mapUpdate 56 (.map (some M)) (.agg #[.int .i64 (k : Int), .string c.control]) (.pointer (some ⟨L, 0, none⟩))).run Tryd.prog X = .ok () W' ∧ MapO W' M (n + 1) ∧ Only [M] X W') := fun X hX => (HD4.out.below hX).map.put (by omega) (k : Int) c.control L (by simp [Lit.wf, IntKind.min, IntKind.max, IntKind.signed, IntKind.bits]; omega) hszb
                have hfix : freeIdx (x.conns.take (k + 1)) = freeIdx (x.conns.take k) := by
                  rw [← take_snoc x.conns k hlt, HC.out]
                  unfold freeIdx
                  rw [freeGo_snoc, hbz]
                  simp
                have HFIX := hide hfix
                clear hfix
                rw [hbz] at q5
                have HLEN := hide hlen
                clear hbz hlen hLlen
                go_wp2_with (first | (at_builtin; refine wpList_app rfl _ _ 55 rfl hr3' (by first | rfl | simp [Act.eval, Act.put]) (by first | rfl | simp [Act.eval, Act.put]) ?_))
                go_region_held3 (fun X => X.cell? ⟨D, 5, none⟩ = some (.map (some M)))
                  (first | with_reducible exact KS5.out _ hD5' | with_reducible exact KS5.out _ hD5 | with_reducible exact KS5.out _ hS5 | with_reducible exact hcM6)
                  (first | (go_at_call 41; refine (lineKey_any c k L _ (HL4.out.below hD5)).mono ?_; rintro e V5 ⟨rfl, hb5⟩; have hS5 : Below V4.heap.size V4 V5 := bjoin hb5 hD5; obtain ⟨V6, hr6, hm6, ho6⟩ := HPUT.out V5 hS5; have hcM6 : V6.cell? ⟨D, 5, none⟩ = some (.map (some M)) := ((HD4.out.below hS5).mapSet ho6 hm6).cells.1.2.2.2.2.2.1))
                have hlen := HLEN.out
                have hd6 := (HD4.out.below hS5).mapSet ho6 hm6
                have HNX : Hid (DeskN w.heap.size V6 D M (Ls ++ [L]) ⟨x.epoch, x.next, now, x.conns.take (k + 1), freeIdx (x.conns.take (k + 1)), x.queue, []⟩ (.slice a3 (Ls.length + 1) c3) fv (.slice au x.queue.length cu) (.slice none 0 0) (n + 1) ∧ Below w.heap.size w V6) := by
                  rw [HFIX.out]
                  refine ⟨⟨hd6, ?_, HSEP.out, ?_⟩, ?_⟩
                  · have e : ((freeIdx (x.conns.take k)).map fun i => (Ls ++ [L]).getD i 0) = (freeIdx (x.conns.take k)).map fun i => Ls.getD i 0 := List.map_congr_left fun i hi => getD_snoc (by have := freeGo_lt 0 _ i hi; simp only [List.length_take] at this; omega)
                    simp only [e]
                    exact (HF4.out.below hS5).keepT (TSame.map ho6 (HD4.out.below hS5).map)
                  · exact (HQ4.out.below hS5).keepT (TSame.map ho6 (HD4.out.below hS5).map)
                  · have c1 := bjoin hS5 HBL.out
                    exact c1.trans (ho6.below c1.size fun d hd => by simp at hd; have := HD4.out.lows.2.1; omega)
                clear hd6 hr6 hm6 ho6 hcM6 hb5
                go_wp2_with fail
                go_roundg (x.conns.length - (k + 1))
                case measure => omega
                case rel => exact ⟨k + 1, Ls ++ [L], _, fv, n + 1, by omega, rfl, by go_num, HNX.out.1, by omega, HNX.out.2⟩
              | false =>
                obtain ⟨v5, V5, hr5, hF5, o5, hat5⟩ := app1 Tryd.underlying55 info_Ptr rfl (by decide) ptrC_len ptrC_one HF4.out 55 L HBL.out.size (by have := freeGo_lt 0 (x.conns.take k); rw [List.length_map]; exact Nat.le_trans (freeGo_len 0 _) (by simp only [List.length_take]; omega)) (by omega)
                have HFIX : Hid (freeIdx (x.conns.take (k + 1)) = freeIdx (x.conns.take k) ++ [k]) := by
                  rw [← take_snoc x.conns k hlt, HC.out]
                  unfold freeIdx
                  rw [freeGo_snoc, hbz]
                  simp only [List.length_take]
                  rw [show 0 + min k x.conns.length = k by omega]
                  rfl
                have he : ((freeIdx (x.conns.take k)).map fun i => (Ls ++ [L]).getD i 0) = (freeIdx (x.conns.take k)).map fun i => Ls.getD i 0 := List.map_congr_left fun i hi => getD_snoc (by have := freeGo_lt 0 _ i hi; simp only [List.length_take] at this; omega)
                have hF5' : FB ptrC 1 64 w.heap.size V5 v5 ((freeIdx (x.conns.take k) ++ [k]).map fun i => (Ls ++ [L]).getD i 0) := by
                  rw [List.map_append, he, List.map_cons, List.map_nil, hLk]
                  exact hF5
                have hl5 := HD4.out.lrow.only o5 (fun d hd h => HSEP.out d h hd)
                have hd6 := HD4.out.addFree (k := k) (by omega) HF4.out o5 hF5' hl5
                obtain ⟨V6, hV6⟩ : ∃ V, V5.setCell ⟨D, 4, none⟩ v5 = V := ⟨_, rfl⟩
                have hbox5 : Box V5 D 58 _ := HD4.out.box.keepT (TSame.own HF4.out o5 (by decide))
                have oD6 : Only [D] V5 V6 := by rw [← hV6]; exact (Only.refl _ _).setCell (by simp) _
                have HNX : Hid (DeskN w.heap.size V6 D M (Ls ++ [L]) ⟨x.epoch, x.next, now, x.conns.take (k + 1), freeIdx (x.conns.take (k + 1)), x.queue, []⟩ (.slice a3 (Ls.length + 1) c3) v5 (.slice au x.queue.length cu) (.slice none 0 0) n ∧ Below w.heap.size w V6) := by
                  rw [HFIX.out]
                  refine ⟨⟨by rw [← hV6]; exact hd6, hF5'.keepT (TSame.only oD6 hbox5 (by decide)), fun d hd h => ?_, (HQ4.out.keepT (TSame.own HF4.out o5 (by decide))).keepT (TSame.only oD6 hbox5 (by decide))⟩, ?_⟩
                  · rcases hat5 with h5 | ⟨g, h5, hg⟩
                    · rw [h5] at hd; exact HSEP.out d hd h
                    · rw [h5] at hd; simp at hd; subst hd; have := (HD4.out.lrow.own _ h).2; omega
                  · have c2 := HBL.out.trans (o5.below HBL.out.size fun d hd => (HF4.out.own d hd).1)
                    rw [← hV6]
                    exact c2.setCell (by have := HD4.out.lows.1; simpa using this) _
                have q6 : V4.cell? ⟨D, 4, none⟩ = some fv := HD4.out.cells.1.2.2.2.2.1
                have r6 : V5.cell? ⟨D, 4, none⟩ = some fv := hbox5.cell 4 (by simp)
                have rf6 := hbox5.frozen 4
                have hr5' : (Builtin.append_ #[55, 55] 55 #[fv, .slice (some ⟨V4.heap.size, 0, none⟩) 1 1]).run Tryd.prog (V4.alloc (.cells #[.pointer (some ⟨L, 0, none⟩)] 64)) = .ok v5 V5 := hr5
                obtain ⟨a5, c5, hf5, _⟩ := HF4.out.form
                rw [List.length_map] at hf5
                obtain ⟨fl, hfl⟩ : ∃ fl, (freeIdx (x.conns.take k)).length = fl := ⟨_, rfl⟩
                rw [hfl] at hf5
                obtain ⟨a6, c6, hf6, _⟩ := hF5.form
                rw [List.length_append, List.length_singleton, List.length_map] at hf6
                rw [hfl] at hf6
                clear hfl
                subst hf5 hf6
                rw [hbz] at q5
                have HLEN := hide hlen
                clear hbz hlen hLlen
                have HR5 := hide hr5'
                have Q6 := hide (And.intro q6 (And.intro r6 rf6))
                clear hr5 hF5 o5 hat5 hF5' hl5 hd6 hbox5 oD6 he hr5' q6 r6 rf6
                clear hLk hnew
                conv in (Code.region 11 _ _) => change Stop _
                go_wp2_with (first | (at_builtin; refine wpList_app rfl _ _ 55 rfl hr3' (by first | rfl | simp [Act.eval, Act.put]) (by first | rfl | simp [Act.eval, Act.put]) ?_))
                have hr5' := HR5.out
                obtain ⟨q6, r6, rf6⟩ := Q6.out
                clear hr3' q3 r3 rf3 q5 g0 g1 g2 g3 g4 g5 g6 m0 m1 m2 m3 m4 m5 m6
                unfold Stop
                go_wp2_with (first | (at_builtin; refine wpList_app rfl _ _ 55 rfl hr5' (by first | rfl | simp [Act.eval, Act.put]) (by first | rfl | simp [Act.eval, Act.put]) ?_))
                go_roundg (x.conns.length - (k + 1))
                case measure => omega
                case rel => exact ⟨k + 1, Ls ++ [L], _, _, n, by omega, rfl, by go_num, HNX.out.1, by omega, HNX.out.2⟩
            · obtain rfl : k = x.conns.length := by omega
              rw [List.take_length] at hdn
              have HDN := hide hdn
              have HB := hide hb
              clear hdn hb
              go_wp2_with fail
              go_ret
              exact ⟨.inl ⟨HOK.out.1, HOK.out.2, D, M, Ls, lv, fv, _, n, rfl, HDN.out, hnk⟩, HB.out⟩
end Go.Proofs.YtfdefjdogmhinaaDoor.Msg
