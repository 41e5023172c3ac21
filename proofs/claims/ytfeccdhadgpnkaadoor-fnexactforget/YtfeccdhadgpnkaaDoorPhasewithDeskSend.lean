import Derived.Test.YtfeccdhadgpnkaaDoorMarkDatawithFlatKit
import Derived.Deep.RegionHeld3
import Derived.Test.YtfeccdhadgpnkaaDoorDeskwithDeskServe
namespace Go.Proofs.YtfeccdhadgpnkaaDoor.Msg
open Go
set_option linter.unusedVariables false
set_option linter.unusedSimpArgs false
section
variable {P : Program} {ops : Array Oper} {Q : Exit → Act → World → Prop} {md : Region.Mode} {S : World → Prop} {n1 : Nat}
/-- in any order, and S is there behind each of the operations ahead of number n1 -/
def wpTwo (P : Program) (md : Region.Mode) (ops : Array Oper) (Q : Exit → Act → World → Prop) (S : World → Prop) (n1 : Nat) : Nat → Array Bool → Act → World → Prop
  | 0, done, a, w => Region.ready md ops done = [] ∧ Q .normal a w
  | f + 1, done, a, w => (Region.ready md ops done = [] → Q .normal a w) ∧ ∀ j ∈ Region.ready md ops done, wpOp P ops Q j (fun b v => (j < n1 → S v) ∧ wpTwo P md ops Q S n1 f (done.setIfInBounds j true) b v) a w
theorem wpTwo_any : ∀ (f : Nat) (done : Array Bool) (a : Act) (w : World), wpTwo P md ops Q S n1 f done a w → wpAny P md ops Q f done a w
  | 0, _, _, _, h => h
  | f + 1, done, a, w, h => ⟨h.1, fun j hj => wpOp_mono (fun b v hv => wpTwo_any f (done.setIfInBounds j true) b v hv.2) (h.2 j hj)⟩
/-- each of the later operations waits for number i -/
def lateWait (md : Region.Mode) (ops : Array Oper) (n1 i : Nat) : Bool := (ops.toList.drop n1).all fun o => o.after.any fun e => Region.binds md e && e.on == i
theorem lateWait_of {i j : Nat} {o : Oper} (h : lateWait md ops n1 i = true) (hj : ops[j]? = some o) (hn : ¬ ∃ e ∈ o.after, Region.binds md e = true ∧ e.on = i) : j < n1 := by
  refine Nat.lt_of_not_le fun hle => hn ?_
  have hm : o ∈ ops.toList.drop n1 := by
    rw [List.mem_iff_getElem?]
    exact ⟨j - n1, by rw [List.getElem?_drop, show n1 + (j - n1) = j by omega, Array.getElem?_toList]; exact hj⟩
  have h1 := List.all_eq_true.1 h o hm
  rw [Array.any_eq_true'] at h1
  obtain ⟨e, he, hb⟩ := h1
  simp only [Bool.and_eq_true, beq_iff_eq] at hb
  exact ⟨e, he, hb.1, hb.2⟩
theorem wpTwo_first {i : Nat} {oi : Oper} {v : Value} (hi : ops[i]? = some oi) (hlate : lateWait md ops n1 i = true) (hsel : ∀ (j : Nat) (o : Oper) cs b, ops[j]? = some o → o.op ≠ .select cs b) (hQ : ∀ c a w, Q (.panic c) (a.put oi.dst v) w → Q (.panic c) a w) :
    ∀ (f : Nat) (done : Array Bool) (a : Act) (w : World),
      (∀ j oj, ops[j]? = some oj → j ≠ i → done.getD j true = false → (∀ e ∈ oj.after, Region.binds md e = true → e.on ≠ i) → oi.apart ops oj = true) →
      i ∈ Region.ready md ops done → YieldsIf P ops S oi v a → S w →
      wpTwo P md ops Q S n1 f (done.setIfInBounds i true) (a.put oi.dst v) w → wpTwo P md ops Q S n1 (f + 1) done a w
  | 0, done, a, w, _, hr, hy, hS, H => by
    refine ⟨fun h => (by rw [h] at hr; cases hr), fun j hj => ?_⟩
    by_cases hji : j = i
    · subst hji
      exact hy.wpOp hi hS ⟨fun _ => hS, H⟩
    · have h1 := ready_mono hj hji
      rw [H.1] at h1
      cases h1
  | f + 1, done, a, w, hfree, hr, hy, hS, H => by
    refine ⟨fun h => (by rw [h] at hr; cases hr), fun j hj => ?_⟩
    by_cases hji : j = i
    · subst hji
      exact hy.wpOp hi hS ⟨fun _ => hS, H⟩
    · have h1 := H.2 j (ready_mono hj hji)
      obtain ⟨hun, oj, hoj, hall⟩ := mem_ready.1 hj
      have hnot : ∀ e ∈ oj.after, Region.binds md e = true → e.on ≠ i := fun e he hb heq => by
        have hd := hall e he hb
        have h0 := (mem_ready.1 hr).1
        rw [heq] at hd
        rcases Nat.lt_or_ge i done.size with h' | h'
        · simp [h'] at h0 hd; rw [h0] at hd; cases hd
        · simp [Array.getElem?_eq_none h'] at hd
      have hjn : j < n1 := lateWait_of hlate hoj fun ⟨e, he, hb, hei⟩ => hnot e he hb hei
      have h2 := wpOp_putIf hoj (hfree j oj hoj hji hun hnot) (fun cs b => hsel i oi cs b hi) (fun cs b => hsel j oj cs b hoj) hQ hy h1
      refine wpOp_mono (fun b u h3 => ?_) h2
      obtain ⟨hyb, hSu, hK⟩ := h3
      refine ⟨hSu, wpTwo_first hi hlate hsel hQ f (done.setIfInBounds j true) b u (fun k ok hk hki hku hno => hfree k ok hk hki ?_ hno) (ready_mono hr (Ne.symm hji)) hyb (hSu hjn) ?_⟩
      · by_cases hjk : j = k
        · subst hjk; exact hun
        · rw [getD_set_ne true hjk] at hku; exact hku
      · rw [Array.setIfInBounds_comm _ _ hji]
        exact hK
theorem wpTwo_take {i : Nat} (d : Option Tmp) {oi : Oper} {v : Value} {f : Nat} {done : Array Bool} {a : Act} {w : World} (hi : ops[i]? = some oi) (hd : oi.dst = d) (hl : lateWait md ops n1 i = true) (hs : Region.noSelect ops = true) (hf : Region.free md ops done i = true) (hr : (Region.ready md ops done).contains i = true)
    (hQ : ∀ c a w, Q (.panic c) (a.put d v) w → Q (.panic c) a w) (hS : S w) (hy : YieldsIf P ops S oi v a)
    (h : wpTwo P md ops Q S n1 f (done.setIfInBounds i true) (a.put d v) w) : wpTwo P md ops Q S n1 (f + 1) done a w := by
  subst hd
  exact wpTwo_first hi hl (Region.noSelect_spec hs) hQ f done a w (Region.free_spec hi hf) (by simpa using hr) hy hS h
theorem wpTwo_one {j : Nat} {o : Oper} {f : Nat} {done : Array Bool} {a : Act} {w : World} (hr : Region.ready md ops done = [j]) (ho : ops[j]? = some o)
    (h : ∀ K : Act → World → Prop, Shut (∀ b v, (j < n1 → S v) → wpTwo P md ops Q S n1 f (done.setIfInBounds j true) b v → K b v) → if Region.wanted o (yielded ops a.tmps) = true then Oper.wp P o a w K Q else K (a.put o.dst undef) w) :
    wpTwo P md ops Q S n1 (f + 1) done a w :=
  ⟨fun h0 => (by rw [hr] at h0; cases h0), fun k hk => by
    rw [hr] at hk
    simp at hk
    subst hk
    exact wpOp_step ho fun K hK => h K fun b v h1 h2 => hK b v ⟨h1, h2⟩⟩
theorem wpTwo_done {done : Array Bool} {a : Act} {w : World} (hr : Region.ready md ops done = []) (h : Q .normal a w) : ∀ f, wpTwo P md ops Q S n1 f done a w
  | 0 => ⟨hr, h⟩
  | _ + 1 => ⟨fun _ => h, by rw [hr]; simp⟩
theorem wp_region_two {id : Nat} {a : Act} {w : World} (S : World → Prop) (n1 : Nat) (hm : P.follows .mixedOrders = true) (h : wpTwo P .any ops Q S n1 ops.size (Array.replicate ops.size false) a w.drew) : (Code.region id ops true).wp P Q a w :=
  wp_region_any hm (wpTwo_any _ _ _ _ h)
end
end Go.Proofs.YtfeccdhadgpnkaaDoor.Msg

namespace Go.Proofs.YtfeccdhadgpnkaaDoor.Msg
open Go.ChangeShapes Go.WideShapes Go.ChangeAt Go.RowKit
set_option linter.unusedVariables false
set_option linter.unusedSimpArgs false

set_option maxRecDepth 100000 in
set_option maxHeartbeats 30000000 in
theorem send_any {lo : Nat} {w : World} {D M : Nat} {Ls : List Nat} {s : Ds} {lv fv qv sv : Value} {n : Nat} (h : Desk lo w D M Ls s lv fv qv sv n) (k : Nat) (z : Wn) (hk : k < Ls.length) (hlo : lo ≤ w.heap.size) (hI : Ito lo w)
    (he0 : 0 ≤ s.epoch) (he1 : s.epoch ≤ 1000000) (hn0 : 0 ≤ s.next) (hn1 : s.next ≤ 2000000) (hw0 : 0 ≤ s.now) (hw1 : s.now ≤ 900000000) (hsl : s.sent.length ≤ 1000) (hnn : n ≤ 1000) (hk4 : Ls.length ≤ 100) :
    Calls Tryd.prog 70 #[.pointer (some ⟨D, 0, none⟩), .pointer (some ⟨Ls[k], 0, none⟩), wnV z] w fun en w' => en = .returned (.tuple #[]) ∧ ∃ sv', Desk lo w' D M Ls (sendP s k z) lv fv qv sv' (n + 1) ∧ Below lo w w' ∧ TKeep w w' := by
  obtain ⟨eN, heN⟩ : ∃ eN : Nat, s.epoch = (eN : Int) := ⟨s.epoch.toNat, by omega⟩
  obtain ⟨nN, hnN⟩ : ∃ nN : Nat, s.next = (nN : Int) := ⟨s.next.toNat, by omega⟩
  have hnB : (nN : Int) ≤ 2000000 := by omega
  have hnB2 : (nN : Int) + 1 ≤ 2000001 := by omega
  obtain ⟨C, hC⟩ : ∃ C, ctlOf (eN : Int) (nN : Int) = C := ⟨_, rfl⟩
  have hCz : C.size ≤ 16 := by rw [← hC]; exact ctl_size _ _ (by omega) (by omega)
  have HSD : Hid (sendP s k z = { s with next := (nN : Int) + 1, conns := s.conns.set k ⟨true, C, z, s.now + 30⟩, sent := s.sent ++ [⟨(k : Int), C, z⟩] }) := by unfold sendP; rw [heN, hnN, hC]; exact rfl
  obtain ⟨L, hL⟩ : ∃ L, Ls[k] = L := ⟨_, rfl⟩
  rw [hL]
  show Calls Tryd.prog 70 #[.pointer (some ⟨D, 0, none⟩), .pointer (some ⟨L, 0, none⟩), .agg #[.int .i64 z.client, .string z.tag, .string z.query, .string z.pointer]] w _
  obtain ⟨W0, hW0⟩ : ∃ W0, w.alloc (Obj.cells #[.int .i64 z.client, .string z.tag, .string z.query, .string z.pointer] 38) = W0 := ⟨_, rfl⟩
  have hb0 : Below w.heap.size w W0 := by rw [← hW0]; exact (Below.refl _ _).alloc (Nat.le_refl _) _
  have hBV : Box W0 w.heap.size 38 #[.int .i64 z.client, .string z.tag, .string z.query, .string z.pointer] := by rw [← hW0]; exact Box.new _ _ _
  have hd0 := h.below hb0
  have hkc : k < s.conns.length := by rw [← h.len]; exact hk
  have HD0 := hide hd0
  have HBV := hide hBV
  have HI0 := hide (hI.keep (hb0.mono hlo))
  have HW := hide hb0
  have HUP := hide (fun W hW hlt => upControl_any eN nN W (lo := lo) hW hlt (by omega) (by omega))
  rw [hC] at HUP
  have KS : Hid (∀ X, Below W0.heap.size W0 X → (X.cell? ⟨D, 0, none⟩ = some (.int .i64 (eN : Int)) ∧ X.cell? ⟨D, 1, none⟩ = some (.int .i64 (nN : Int)) ∧ X.cell? ⟨D, 2, none⟩ = some (.int .i64 s.now)) ∧ (X.cell? ⟨w.heap.size, 0, none⟩ = some (.int .i64 z.client) ∧ X.cell? ⟨w.heap.size, 1, none⟩ = some (.string z.tag) ∧ X.cell? ⟨w.heap.size, 2, none⟩ = some (.string z.query) ∧ X.cell? ⟨w.heap.size, 3, none⟩ = some (.string z.pointer))) := fun X hX => by
    have hdX := HD0.out.below hX
    have hv := HBV.out.below hX
    obtain ⟨⟨e0, e1, e2, _⟩, _⟩ := hdX.cells
    rw [heN] at e0
    rw [hnN] at e1
    exact ⟨⟨e0, e1, e2⟩, ⟨hv.cell 0 (by simp), hv.cell 1 (by simp), hv.cell 2 (by simp), hv.cell 3 (by simp)⟩⟩
  have LF : Hid (∀ X, Below W0.heap.size W0 X → (X.cell? ⟨L, 0, none⟩ = some (.bool s.conns[k].busy) ∧ X.cell? ⟨L, 1, none⟩ = some (.string s.conns[k].control) ∧ X.cell? ⟨L, 2, none⟩ = some (.int .i64 s.conns[k].want.client) ∧ X.cell? ⟨L, 3, none⟩ = some (.string s.conns[k].want.tag) ∧ X.cell? ⟨L, 4, none⟩ = some (.string s.conns[k].want.query) ∧ X.cell? ⟨L, 5, none⟩ = some (.string s.conns[k].want.pointer) ∧ X.cell? ⟨L, 6, none⟩ = some (.int .i64 s.conns[k].due)) ∧ (X.frozen? ⟨L, 0, none⟩ = false ∧ X.frozen? ⟨L, 1, none⟩ = false ∧ X.frozen? ⟨L, 2, none⟩ = false ∧ X.frozen? ⟨L, 3, none⟩ = false ∧ X.frozen? ⟨L, 4, none⟩ = false ∧ X.frozen? ⟨L, 5, none⟩ = false ∧ X.frozen? ⟨L, 6, none⟩ = false)) := fun X hX => by
    have hl := ((HD0.out.below hX).line k hk hkc).line7
    rw [hL] at hl
    obtain ⟨⟨l0, l1, l2, l3, l4, l5, l6, _⟩, lf⟩ := hl
    exact ⟨⟨l0, l1, l2, l3, l4, l5, l6⟩, lf⟩
  have nDL : L ≠ D := by
    have := (HD0.out.line k hk hkc).ne HD0.out.box (by decide)
    rw [hL] at this
    exact this
  have nVL : L ≠ w.heap.size := by
    have := (HD0.out.line k hk hkc).ne HBV.out (by decide)
    rw [hL] at this
    exact this
  have KS2 : Hid (∀ X, Below W0.heap.size W0 X → ∀ x0 x1 x2 x3 x4 x5 x6 Y, (((((((X.setCell ⟨L, 0, none⟩ x0).setCell ⟨L, 1, none⟩ x1).setCell ⟨L, 2, none⟩ x2).setCell ⟨L, 3, none⟩ x3).setCell ⟨L, 4, none⟩ x4).setCell ⟨L, 5, none⟩ x5).setCell ⟨L, 6, none⟩ x6) = Y → (Y.cell? ⟨D, 0, none⟩ = some (.int .i64 (eN : Int)) ∧ Y.cell? ⟨D, 1, none⟩ = some (.int .i64 (nN : Int)) ∧ Y.cell? ⟨D, 2, none⟩ = some (.int .i64 s.now)) ∧ (Y.cell? ⟨w.heap.size, 0, none⟩ = some (.int .i64 z.client) ∧ Y.cell? ⟨w.heap.size, 1, none⟩ = some (.string z.tag) ∧ Y.cell? ⟨w.heap.size, 2, none⟩ = some (.string z.query) ∧ Y.cell? ⟨w.heap.size, 3, none⟩ = some (.string z.pointer))) := fun X hX x0 x1 x2 x3 x4 x5 x6 Y hY => by
    have hb : ∀ d, d ≠ L → Y.heap[d]? = X.heap[d]? := fun d hd => by
      rw [← hY, Deep.blk_setCell_other _ _ _ _ hd, Deep.blk_setCell_other _ _ _ _ hd, Deep.blk_setCell_other _ _ _ _ hd, Deep.blk_setCell_other _ _ _ _ hd, Deep.blk_setCell_other _ _ _ _ hd, Deep.blk_setCell_other _ _ _ _ hd, Deep.blk_setCell_other _ _ _ _ hd]
    have h := KS.out X hX
    have b1 := hb D (Ne.symm nDL)
    have b2 := hb w.heap.size (Ne.symm nVL)
    exact ⟨⟨(cellSame b1).trans h.1.1, (cellSame b1).trans h.1.2.1, (cellSame b1).trans h.1.2.2⟩, (cellSame b2).trans h.2.1, (cellSame b2).trans h.2.2.1, (cellSame b2).trans h.2.2.2.1, (cellSame b2).trans h.2.2.2.2⟩
  have hs30 : IntKind.i64.wrap (s.now + 30) = s.now + 30 := by simp [IntKind.wrap, IntKind.signed, IntKind.bits]; omega
  have hd0' : Below W0.heap.size W0 W0.drew := (Below.refl _ _).drew
  obtain ⟨D1, hwd⟩ : ∃ D1, W0.drew = D1 := ⟨_, rfl⟩
  have hD1 : Below W0.heap.size W0 D1 := by rw [← hwd]; exact hd0'
  have hsz0 : lo ≤ W0.heap.size := by have := hb0.size; omega
  have HNX := hide hnN
  clear h hd0 hBV hI hb0 heN hnN
  generalize s.conns[k] = cK at LF
  go_enter Tryd.func70, Tryd.ntmps70
  go_wp2_with fail
  go_region_held3 (fun X => (X.cell? ⟨D, 0, none⟩ = some (.int .i64 (eN : Int)) ∧ X.cell? ⟨D, 1, none⟩ = some (.int .i64 (nN : Int)) ∧ X.cell? ⟨D, 2, none⟩ = some (.int .i64 s.now)) ∧ (X.cell? ⟨w.heap.size, 0, none⟩ = some (.int .i64 z.client) ∧ X.cell? ⟨w.heap.size, 1, none⟩ = some (.string z.tag) ∧ X.cell? ⟨w.heap.size, 2, none⟩ = some (.string z.query) ∧ X.cell? ⟨w.heap.size, 3, none⟩ = some (.string z.pointer)))
    (first | with_reducible exact KS.out _ hd0' | with_reducible exact KS.out _ hD1 | with_reducible exact KS.out _ hS1 | with_reducible exact KS2.out _ hS1 _ _ _ _ _ _ _ _ rfl)
    (first | (go_at_call 80; refine (HUP.out _ (HI0.out.keep (hD1.mono hsz0)) (by have := hD1.size; omega)).mono ?_; rintro e W1 ⟨rfl, hb1⟩; have hS1 : Below W0.heap.size W0 W1 := bjoin hb1 hD1; have hl := LF.out W1 hS1; obtain ⟨⟨l0, l1, l2, l3, l4, l5, l6⟩, lf0, lf1, lf2, lf3, lf4, lf5, lf6⟩ := hl))
  obtain ⟨Y1, hY1⟩ : ∃ Y, lineSet W1 L ⟨true, C, z, s.now + 30⟩ = Y := ⟨_, rfl⟩
  have hY1' : (((((((W1.setCell ⟨L, 0, none⟩ (.bool true)).setCell ⟨L, 1, none⟩ (.string C)).setCell ⟨L, 2, none⟩ (.int .i64 z.client)).setCell ⟨L, 3, none⟩ (.string z.tag)).setCell ⟨L, 4, none⟩ (.string z.query)).setCell ⟨L, 5, none⟩ (.string z.pointer)).setCell ⟨L, 6, none⟩ (.int .i64 (s.now + 30))) = Y1 := hY1
  rw [hY1']
  have hdY1 : Desk lo Y1 D M Ls { s with conns := s.conns.set k ⟨true, C, z, s.now + 30⟩ } lv fv qv sv n := by
    have := (HD0.out.below hS1).lineSet hk ⟨true, C, z, s.now + 30⟩
    rw [hL, hY1] at this
    exact this
  have hBV1 : Box Y1 w.heap.size 38 #[.int .i64 z.client, .string z.tag, .string z.query, .string z.pointer] := by
    rw [← hY1]
    exact (HBV.out.below hS1).only (lineSet_only _ _ _) (by simpa using Ne.symm nVL)
  have hBl1 : Below lo w Y1 := by
    have c1 : Below lo w W1 := (bjoin hS1 HW.out).mono hlo
    have hLlo : lo ≤ L := by rw [← hL]; exact HD0.out.lows.2.2 _ (List.getElem_mem hk)
    rw [← hY1]
    exact c1.trans ((lineSet_only W1 L _).below (by have := c1.size; omega) fun d hd => by simp at hd; omega)
  obtain ⟨Y2, hY2⟩ : ∃ Y, Y1.setCell ⟨D, 1, none⟩ (.int .i64 ((nN : Int) + 1)) = Y := ⟨_, rfl⟩
  have hdY2 : Desk lo Y2 D M Ls { s with next := (nN : Int) + 1, conns := s.conns.set k ⟨true, C, z, s.now + 30⟩ } lv fv qv sv n := by rw [← hY2]; exact hdY1.setNext _
  have hBV2 : Box Y2 w.heap.size 38 #[.int .i64 z.client, .string z.tag, .string z.query, .string z.pointer] := by
    rw [← hY2]
    exact hBV1.other (a := ⟨D, 1, none⟩) (by have := hdY1.box.ne hBV1 (by decide); exact fun e => this e.symm) _
  have hBl2 : Below lo w Y2 := by rw [← hY2]; exact hBl1.setCell (by have := hdY1.lows.1; simp; omega) _
  have d1 : Y1.cell? ⟨D, 1, none⟩ = some (.int .i64 (nN : Int)) := by have := hdY1.cells.1.2.1; rw [HNX.out] at this; exact this
  have df1 := hdY1.cells.2.1
  have HDY2 := hide hdY2
  have HBV2 := hide hBV2
  have HBl2 := hide hBl2
  have HTK2 : Hid (TKeep w Y2) := by
    have k1 : TKeep w W1 := TKeep.below (bjoin hS1 HW.out)
    have k2 : TKeep W1 Y1 := by
      have hb := (HD0.out.below hS1).line k hk hkc
      rw [hL] at hb
      rw [← hY1]
      exact TKeep.line (lineSet_only _ _ _) hb
    have k3 : TKeep Y1 Y2 := by rw [← hY2]; exact TKeep.desk ((Only.refl _ _).setCell (by simp) _) hdY1.box
    exact k1.trans (k2.trans k3)
  have KS3 : Hid (∀ X, Below Y2.heap.size Y2 X → X.cell? ⟨D, 5, none⟩ = some (.map (some M))) := fun X hX => (HDY2.out.below hX).cells.1.2.2.2.2.2.1
  have hD3' : Below Y2.heap.size Y2 Y2.drew := (Below.refl _ _).drew
  obtain ⟨D3, hwd3⟩ : ∃ D3, Y2.drew = D3 := ⟨_, rfl⟩
  have hD3 : Below Y2.heap.size Y2 D3 := by rw [← hwd3]; exact hD3'
  have hkc2 : k < (s.conns.set k ⟨true, C, z, s.now + 30⟩).length := by rw [List.length_set]; exact hkc
  have HLB : Hid (∀ X, Below Y2.heap.size Y2 X → Box X L 90 (lnA ⟨true, C, z, s.now + 30⟩ k)) := fun X hX => by
    have := (HDY2.out.below hX).line k hk hkc2
    rw [hL] at this
    simp only [List.getElem_set_self] at this
    exact this
  have HPUT : Hid (∀ X, Below Y2.heap.size Y2 X → ∃ W', (Instr.mapUpdate 74 (.map (some M)) (.agg #[.int .i64 (k : Int), .string C]) (.pointer (some ⟨L, 0, none⟩))).run Tryd.prog X = .ok () W' ∧ MapO W' M (n + 1) ∧ Only [M] X W') := fun X hX => (HDY2.out.below hX).map.put (by omega) (k : Int) C L (by simp [Lit.wf, IntKind.min, IntKind.max, IntKind.signed, IntKind.bits]; omega) (by omega)
  clear hdY1 hBV1 hBl1 hdY2 hBV2 hBl2 l0 l1 l2 l3 l4 l5 l6 lf0 lf1 lf2 lf3 lf4 lf5 lf6 hY1' hs30
  go_wp2_with fail
  go_region_held3 (fun X => X.cell? ⟨D, 5, none⟩ = some (.map (some M)))
    (first | with_reducible exact KS3.out _ hD3' | with_reducible exact KS3.out _ hD3 | with_reducible exact KS3.out _ hS3 | with_reducible exact hcM4)
    (first | (go_at_call 68; refine (lineKey_any ⟨true, C, z, s.now + 30⟩ k L _ (HLB.out _ hD3)).mono ?_; rintro e W3 ⟨rfl, hb3⟩; have hS3 : Below Y2.heap.size Y2 W3 := bjoin hb3 hD3; obtain ⟨W4, hr4, hm4, ho4⟩ := HPUT.out W3 hS3; have hcM4 : W4.cell? ⟨D, 5, none⟩ = some (.map (some M)) := ((HDY2.out.below hS3).mapSet ho4 hm4).cells.1.2.2.2.2.2.1))
  have hd4 := (HDY2.out.below hS3).mapSet ho4 hm4
  have hbv4 : Box W4 w.heap.size 38 #[.int .i64 z.client, .string z.tag, .string z.query, .string z.pointer] := (HBV2.out.below hS3).only ho4 (by simp; exact (HDY2.out.below hS3).map.ne (HBV2.out.below hS3))
  have hbl4 : Below lo w W4 := by
    have c1 : Below lo w W3 := HBl2.out.trans (hS3.mono (by have := HBl2.out.size; omega))
    exact c1.trans (ho4.below (by have := c1.size; omega) fun d hd => by simp at hd; have := HDY2.out.lows.2.1; omega)
  have HTK4 : Hid (TKeep w W4) := HTK2.out.trans ((TKeep.below hS3).trans (TKeep.map ho4 (HDY2.out.below hS3).map))
  obtain ⟨D5, hwd5⟩ : ∃ D5, W4.drew = D5 := ⟨_, rfl⟩
  have hb5 : Below W4.heap.size W4 D5 := by rw [← hwd5]; exact (Below.refl _ _).drew
  have hd5 := hd4.below hb5
  have hbv5 := hbv4.below hb5
  have hbl5 : Below lo w D5 := hbl4.trans (hb5.mono (by have := hbl4.size; omega))
  have hLB5 : Box D5 L 90 (lnA ⟨true, C, z, s.now + 30⟩ k) := by
    have := hd5.line k hk hkc2
    rw [hL] at this
    simp only [List.getElem_set_self] at this
    exact this
  obtain ⟨v', W6, hr, hF6, o6, hat⟩ := app1 Tryd.underlying34 info_Sent rfl (by decide) stC_len stC_one hd5.sent 34 ⟨(k : Int), C, z⟩ (by have := hbl5.size; omega) (by simp only; omega) (by omega)
  have hd6 := hd5.setSent o6 hF6
  have HFIN : Hid (Desk lo (W6.setCell ⟨D, 7, none⟩ v') D M Ls (sendP s k z) lv fv qv v' (n + 1) ∧ Below lo w (W6.setCell ⟨D, 7, none⟩ v') ∧ TKeep w (W6.setCell ⟨D, 7, none⟩ v')) := by
    rw [HSD.out]
    refine ⟨hd6, ?_, HTK4.out.trans ((TKeep.below hb5).trans ((TKeep.sent hd5.sent o6).trans (TKeep.desk ((Only.refl _ _).setCell (by simp) _) (hd5.box.keepT (TSame.own hd5.sent o6 (by decide))))))⟩
    have c1 := hbl5.trans (o6.below (by have := hbl5.size; omega) fun d hd => (hd5.sent.own d hd).1)
    exact c1.setCell (by have := hd5.lows.1; simp; omega) _
  obtain ⟨av, cv, hsv, _⟩ := hd5.sent.form
  simp only at hsv
  have hr2 : (Builtin.append_ #[34, 34] 34 #[sv, .slice (some ⟨D5.heap.size, 0, none⟩) 1 1]).run Tryd.prog (D5.alloc (.cells #[.int .i64 (k : Int), .string C, .int .i64 z.client, .string z.tag, .string z.query, .string z.pointer] 81)) = .ok v' W6 := hr
  have q7 : D5.cell? ⟨D, 7, none⟩ = some sv := hd5.cells.1.2.2.2.2.2.2.2
  have qL7 : D5.cell? ⟨L, 7, none⟩ = some (.int .i64 (k : Int)) := hLB5.line7.1.2.2.2.2.2.2.2
  have qL1 : D5.cell? ⟨L, 1, none⟩ = some (.string C) := hLB5.line7.1.2.1
  have b0 : D5.cell? ⟨w.heap.size, 0, none⟩ = some (.int .i64 z.client) := hbv5.cell 0 (by simp)
  have b1 : D5.cell? ⟨w.heap.size, 1, none⟩ = some (.string z.tag) := hbv5.cell 1 (by simp)
  have b2 : D5.cell? ⟨w.heap.size, 2, none⟩ = some (.string z.query) := hbv5.cell 2 (by simp)
  have b3 : D5.cell? ⟨w.heap.size, 3, none⟩ = some (.string z.pointer) := hbv5.cell 3 (by simp)
  have tD := hd5.box.lt
  have tL := hLB5.lt
  have tV := hbv5.lt
  have hbx6 : Box W6 D 76 _ := hd5.box.keepT (TSame.own hd5.sent o6 (by decide))
  have r7 : W6.cell? ⟨D, 7, none⟩ = some sv := hbx6.cell 7 (by simp)
  have rf7 := hbx6.frozen 7
  have HS4 : ∀ X : World, X.heap[L]? = D5.heap[L]? → X.heap[w.heap.size]? = D5.heap[w.heap.size]? → X.cell? ⟨L, 7, none⟩ = some (.int .i64 (k : Int)) ∧ X.cell? ⟨L, 1, none⟩ = some (.string C) ∧ X.cell? ⟨w.heap.size, 0, none⟩ = some (.int .i64 z.client) ∧ X.cell? ⟨w.heap.size, 1, none⟩ = some (.string z.tag) ∧ X.cell? ⟨w.heap.size, 2, none⟩ = some (.string z.query) ∧ X.cell? ⟨w.heap.size, 3, none⟩ = some (.string z.pointer) := fun X h1 h2 => ⟨(cellSame h1).trans qL7, (cellSame h1).trans qL1, (cellSame h2).trans b0, (cellSame h2).trans b1, (cellSame h2).trans b2, (cellSame h2).trans b3⟩
  have oL : W6.heap[L]? = D5.heap[L]? := TSame.own hd5.sent o6 (by decide) L _ hLB5
  have oV : W6.heap[w.heap.size]? = D5.heap[w.heap.size]? := TSame.own hd5.sent o6 (by decide) w.heap.size _ hbv5
  have hKd := HS4 W4.drew (by rw [hwd5]) (by rw [hwd5])
  have hK5 := HS4 D5 rfl rfl
  have hK5a := HS4 (D5.alloc (.cells #[.int .i64 (k : Int), .string C, .int .i64 z.client, .string z.tag, .string z.query, .string z.pointer] 81)) (((Below.refl D5.heap.size D5).alloc (Nat.le_refl _) _).block L tL) (((Below.refl D5.heap.size D5).alloc (Nat.le_refl _) _).block w.heap.size tV)
  have hK6 := HS4 W6 oL oV
  have nVD : w.heap.size ≠ D := fun e => (hd5.box.ne hbv5 (by decide)) e.symm
  have hK7 := HS4 (W6.setCell ⟨D, 7, none⟩ v') ((Deep.blk_setCell_other _ _ _ _ nDL).trans oL) ((Deep.blk_setCell_other _ _ _ _ nVD).trans oV)
  clear HS4 oL oV
  obtain ⟨av', cv', hsv', _⟩ := hF6.form
  rw [List.length_append, List.length_singleton] at hsv'
  subst hsv'
  subst hsv
  have hSd : (fun X : World => X.cell? ⟨D, 7, none⟩ = some (.slice av s.sent.length cv) ∧ X.cell? ⟨L, 7, none⟩ = some (.int .i64 (k : Int)) ∧ X.cell? ⟨L, 1, none⟩ = some (.string C) ∧ X.cell? ⟨w.heap.size, 0, none⟩ = some (.int .i64 z.client) ∧ X.cell? ⟨w.heap.size, 1, none⟩ = some (.string z.tag) ∧ X.cell? ⟨w.heap.size, 2, none⟩ = some (.string z.query) ∧ X.cell? ⟨w.heap.size, 3, none⟩ = some (.string z.pointer)) D5 := ⟨q7, hK5⟩
  have hSa : (fun X : World => X.cell? ⟨D, 7, none⟩ = some (.slice av s.sent.length cv) ∧ X.cell? ⟨L, 7, none⟩ = some (.int .i64 (k : Int)) ∧ X.cell? ⟨L, 1, none⟩ = some (.string C) ∧ X.cell? ⟨w.heap.size, 0, none⟩ = some (.int .i64 z.client) ∧ X.cell? ⟨w.heap.size, 1, none⟩ = some (.string z.tag) ∧ X.cell? ⟨w.heap.size, 2, none⟩ = some (.string z.query) ∧ X.cell? ⟨w.heap.size, 3, none⟩ = some (.string z.pointer)) (D5.alloc (.cells #[.int .i64 (k : Int), .string C, .int .i64 z.client, .string z.tag, .string z.query, .string z.pointer] 81)) := ⟨(((Below.refl D5.heap.size D5).alloc (Nat.le_refl _) _).cell (p := ⟨D, 7, none⟩) tD).trans q7, hK5a⟩
  have hS6 : (fun X : World => X.cell? ⟨D, 7, none⟩ = some (.slice av s.sent.length cv) ∧ X.cell? ⟨L, 7, none⟩ = some (.int .i64 (k : Int)) ∧ X.cell? ⟨L, 1, none⟩ = some (.string C) ∧ X.cell? ⟨w.heap.size, 0, none⟩ = some (.int .i64 z.client) ∧ X.cell? ⟨w.heap.size, 1, none⟩ = some (.string z.tag) ∧ X.cell? ⟨w.heap.size, 2, none⟩ = some (.string z.query) ∧ X.cell? ⟨w.heap.size, 3, none⟩ = some (.string z.pointer)) W6 := ⟨r7, hK6⟩
  have hres : ∀ (tmps : Array Value) (W : World), (results Tryd.f70 tmps).run Tryd.prog W = .ok (.tuple #[]) W := fun tmps W => by simp [results, Tryd.results70, go_sem]
  clear hKd hK5 hK5a hK6 hK7 hd4 hbv4 hbl4 hb5 hd5 hbv5 hbl5 hLB5 hr hF6 o6 hat hd6 hbx6 hr4 hm4 ho4 hcM4 hS3 hS1 d1 df1 q7 qL7 qL1 b0 b1 b2 b3
  clear HUP KS KS2 LF HI0 HW HD0 HBV HPUT HLB KS3 HDY2 HBV2 HBl2 HNX HSD HTK2 HTK4
  clear hnB hnB2 hC hL hW0
  go_wp2_with fail
  refine wp_region_two (fun X : World => X.cell? ⟨D, 7, none⟩ = some (.slice av s.sent.length cv) ∧ X.cell? ⟨L, 7, none⟩ = some (.int .i64 (k : Int)) ∧ X.cell? ⟨L, 1, none⟩ = some (.string C) ∧ X.cell? ⟨w.heap.size, 0, none⟩ = some (.int .i64 z.client) ∧ X.cell? ⟨w.heap.size, 1, none⟩ = some (.string z.tag) ∧ X.cell? ⟨w.heap.size, 2, none⟩ = some (.string z.query) ∧ X.cell? ⟨w.heap.size, 3, none⟩ = some (.string z.pointer)) 18 (by kernel_rfl) ?_
  rw [hwd5]
  refine wpTwo_take (i := 0) (some 39) (v := ?v0) rfl rfl (by kernel_rfl) (by kernel_rfl) (by kernel_rfl) (by kernel_rfl) (fun _ _ _ h => h) hSd (Or.inl ⟨by rfl, ?hy0⟩) ?rest0
  case hy0 => (intro w hSw; (try dsimp only at hSw); go_simp; try with_reducible rfl)
  try simp only [Act.put, List.setIfInBounds_toArray, List.set_cons_zero, List.set_cons_succ]
  refine wpTwo_take (i := 1) (some 40) (v := ?v1) rfl rfl (by kernel_rfl) (by kernel_rfl) (by kernel_rfl) (by kernel_rfl) (fun _ _ _ h => h) hSd (Or.inl ⟨by rfl, ?hy1⟩) ?rest1
  case hy1 => (intro w hSw; (try dsimp only at hSw); go_simp; try with_reducible rfl)
  try simp only [Act.put, List.setIfInBounds_toArray, List.set_cons_zero, List.set_cons_succ]
  refine wpTwo_take (i := 2) (some 41) (v := ?v2) rfl rfl (by kernel_rfl) (by kernel_rfl) (by kernel_rfl) (by kernel_rfl) (fun _ _ _ h => h) hSd (Or.inl ⟨by rfl, ?hy2⟩) ?rest2
  case hy2 => (intro w hSw; (try dsimp only at hSw); go_simp; try with_reducible rfl)
  try simp only [Act.put, List.setIfInBounds_toArray, List.set_cons_zero, List.set_cons_succ]
  refine wpTwo_take (i := 3) (some 42) (v := ?v3) rfl rfl (by kernel_rfl) (by kernel_rfl) (by kernel_rfl) (by kernel_rfl) (fun _ _ _ h => h) hSd (Or.inl ⟨by rfl, ?hy3⟩) ?rest3
  case hy3 => (intro w hSw; (try dsimp only at hSw); go_simp; try with_reducible rfl)
  try simp only [Act.put, List.setIfInBounds_toArray, List.set_cons_zero, List.set_cons_succ]
  refine wpTwo_take (i := 4) (some 43) (v := ?v4) rfl rfl (by kernel_rfl) (by kernel_rfl) (by kernel_rfl) (by kernel_rfl) (fun _ _ _ h => h) hSd (Or.inl ⟨by rfl, ?hy4⟩) ?rest4
  case hy4 => (intro w hSw; (try dsimp only at hSw); go_simp; try with_reducible rfl)
  try simp only [Act.put, List.setIfInBounds_toArray, List.set_cons_zero, List.set_cons_succ]
  refine wpTwo_take (i := 5) (some 44) (v := ?v5) rfl rfl (by kernel_rfl) (by kernel_rfl) (by kernel_rfl) (by kernel_rfl) (fun _ _ _ h => h) hSd (Or.inl ⟨by rfl, ?hy5⟩) ?rest5
  case hy5 => (intro w hSw; (try dsimp only at hSw); go_simp; try with_reducible rfl)
  try simp only [Act.put, List.setIfInBounds_toArray, List.set_cons_zero, List.set_cons_succ]
  refine wpTwo_take (i := 6) (some 45) (v := ?v6) rfl rfl (by kernel_rfl) (by kernel_rfl) (by kernel_rfl) (by kernel_rfl) (fun _ _ _ h => h) hSd (Or.inl ⟨by rfl, ?hy6⟩) ?rest6
  case hy6 => (intro w hSw; (try dsimp only at hSw); go_simp; try with_reducible rfl)
  try simp only [Act.put, List.setIfInBounds_toArray, List.set_cons_zero, List.set_cons_succ]
  refine wpTwo_take (i := 7) (some 46) (v := ?v7) rfl rfl (by kernel_rfl) (by kernel_rfl) (by kernel_rfl) (by kernel_rfl) (fun _ _ _ h => h) hSd (Or.inl ⟨by rfl, ?hy7⟩) ?rest7
  case hy7 => (intro w hSw; (try dsimp only at hSw); go_simp; try with_reducible rfl)
  try simp only [Act.put, List.setIfInBounds_toArray, List.set_cons_zero, List.set_cons_succ]
  refine wpTwo_take (i := 8) (some 47) (v := ?v8) rfl rfl (by kernel_rfl) (by kernel_rfl) (by kernel_rfl) (by kernel_rfl) (fun _ _ _ h => h) hSd (Or.inl ⟨by rfl, ?hy8⟩) ?rest8
  case hy8 => (intro w hSw; (try dsimp only at hSw); go_simp; try with_reducible rfl)
  try simp only [Act.put, List.setIfInBounds_toArray, List.set_cons_zero, List.set_cons_succ]
  refine wpTwo_take (i := 9) (some 48) (v := ?v9) rfl rfl (by kernel_rfl) (by kernel_rfl) (by kernel_rfl) (by kernel_rfl) (fun _ _ _ h => h) hSd (Or.inl ⟨by rfl, ?hy9⟩) ?rest9
  case hy9 => (intro w hSw; (try dsimp only at hSw); go_simp; try with_reducible rfl)
  try simp only [Act.put, List.setIfInBounds_toArray, List.set_cons_zero, List.set_cons_succ]
  refine wpTwo_take (i := 10) (some 49) (v := ?v10) rfl rfl (by kernel_rfl) (by kernel_rfl) (by kernel_rfl) (by kernel_rfl) (fun _ _ _ h => h) hSd (Or.inl ⟨by rfl, ?hy10⟩) ?rest10
  case hy10 => (intro w hSw; (try dsimp only at hSw); go_simp; try with_reducible rfl)
  try simp only [Act.put, List.setIfInBounds_toArray, List.set_cons_zero, List.set_cons_succ]
  refine wpTwo_take (i := 11) (some 50) (v := ?v11) rfl rfl (by kernel_rfl) (by kernel_rfl) (by kernel_rfl) (by kernel_rfl) (fun _ _ _ h => h) hSd (Or.inl ⟨by rfl, ?hy11⟩) ?rest11
  case hy11 => (intro w hSw; (try dsimp only at hSw); go_simp; try with_reducible rfl)
  try simp only [Act.put, List.setIfInBounds_toArray, List.set_cons_zero, List.set_cons_succ]
  refine wpTwo_take (i := 12) (some 51) (v := ?v12) rfl rfl (by kernel_rfl) (by kernel_rfl) (by kernel_rfl) (by kernel_rfl) (fun _ _ _ h => h) hSd (Or.inl ⟨by rfl, ?hy12⟩) ?rest12
  case hy12 => (intro w hSw; (try dsimp only at hSw); go_simp; try with_reducible rfl)
  try simp only [Act.put, List.setIfInBounds_toArray, List.set_cons_zero, List.set_cons_succ]
  refine wpTwo_take (i := 13) (some 52) (v := ?v13) rfl rfl (by kernel_rfl) (by kernel_rfl) (by kernel_rfl) (by kernel_rfl) (fun _ _ _ h => h) hSd (Or.inl ⟨by rfl, ?hy13⟩) ?rest13
  case hy13 => (intro w hSw; (try dsimp only at hSw); go_simp; try with_reducible rfl)
  try simp only [Act.put, List.setIfInBounds_toArray, List.set_cons_zero, List.set_cons_succ]
  refine wpTwo_take (i := 14) (some 53) (v := ?v14) rfl rfl (by kernel_rfl) (by kernel_rfl) (by kernel_rfl) (by kernel_rfl) (fun _ _ _ h => h) hSd (Or.inl ⟨by rfl, ?hy14⟩) ?rest14
  case hy14 => (intro w hSw; (try dsimp only at hSw); go_simp; try with_reducible rfl)
  try simp only [Act.put, List.setIfInBounds_toArray, List.set_cons_zero, List.set_cons_succ]
  refine wpTwo_take (i := 15) (some 54) (v := ?v15) rfl rfl (by kernel_rfl) (by kernel_rfl) (by kernel_rfl) (by kernel_rfl) (fun _ _ _ h => h) hSd (Or.inl ⟨by rfl, ?hy15⟩) ?rest15
  case hy15 => (intro w hSw; (try dsimp only at hSw); go_simp; try with_reducible rfl)
  try simp only [Act.put, List.setIfInBounds_toArray, List.set_cons_zero, List.set_cons_succ]
  refine wpTwo_one (j := 16) (by kernel_rfl) rfl (fun K hK => ?_)
  go_simp
  refine hK.out _ _ (fun _ => hSa) ?_
  clear hK K
  try simp only [Act.put, List.setIfInBounds_toArray, List.set_cons_zero, List.set_cons_succ]
  refine wpTwo_one (j := 17) (by kernel_rfl) rfl (fun K hK => ?_)
  refine step_app rfl _ _ 34 rfl hr2 (by first | rfl | simp [Act.eval, Act.put]) (by first | rfl | simp [Act.eval, Act.put]) ?_
  show K (Act.put _ (some 56) _) _
  refine hK.out _ _ (fun _ => hS6) ?_
  clear hK K
  try simp only [Act.put, List.setIfInBounds_toArray, List.set_cons_zero, List.set_cons_succ]
  refine wpTwo_one (j := 18) (by kernel_rfl) rfl (fun K hK => ?_)
  go_simp
  refine hK.out _ _ (fun h => absurd h (by decide)) ?_
  clear hK K
  refine wpTwo_one (j := 19) (by kernel_rfl) rfl (fun K hK => ?_)
  go_simp
  refine hK.out _ _ (fun h => absurd h (by decide)) ?_
  clear hK K
  refine wpTwo_one (j := 20) (by kernel_rfl) rfl (fun K hK => ?_)
  go_simp
  refine hK.out _ _ (fun h => absurd h (by decide)) ?_
  clear hK K
  refine wpTwo_done (by kernel_rfl) ?_ _
  exact bodyPost_end (hres _ _) rfl ⟨rfl, _, HFIN.out.1, HFIN.out.2.1, HFIN.out.2.2⟩
theorem sendOk : SendOk := fun h k z hk hlo hI he0 he1 hn0 hn1 hw0 hw1 hsl hnn hk4 => send_any h k z hk hlo hI he0 he1 hn0 hn1 hw0 hw1 hsl hnn hk4
end Go.Proofs.YtfeccdhadgpnkaaDoor.Msg
