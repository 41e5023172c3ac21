import Derived.Test.YtfdefjdogmhinaaDoorPoolOkSwithPoolCopy
import Derived.Test.YtfdefjdogmhinaaDoorMarkWantwithMarkConn
import Derived.Test.YtfdefjdogmhinaaDoorMsgTowithMarkStr
import Derived.Deep.RegionHeld3
import Derived.Test.YtfdefjdogmhinaaDoorMsgEqwithMsgEq2
namespace Go.Proofs.YtfdefjdogmhinaaDoor.Msg
open Go.ChangeShapes Go.WideShapes Go.ChangeAt Go.RowKit
set_option linter.unusedVariables false
set_option linter.unusedSimpArgs false

def freeN (cs : List Cn) : Nat := cs.findIdx (fun c => !c.busy)
def freeI (cs : List Cn) : Int := if freeN cs < cs.length then (freeN cs : Int) else -1
theorem freeN_at {cs : List Cn} {k : Nat} (h : k < cs.length) (hb : cs[k].busy = false) (ha : ∀ i (hi : i < cs.length), i < k → cs[i].busy = true) : freeN cs = k := by
  unfold freeN
  rw [List.findIdx_eq h]
  exact ⟨by simp [hb], fun j hj => by have := ha j (by omega) hj; simp [this]⟩
theorem freeN_all {cs : List Cn} (ha : ∀ i (hi : i < cs.length), cs[i].busy = true) : freeN cs = cs.length := by
  unfold freeN
  rw [List.findIdx_eq_length]
  intro x hx
  obtain ⟨i, hi, rfl⟩ := List.getElem_of_mem hx
  simp [ha i hi]

set_option maxRecDepth 100000 in
set_option maxHeartbeats 4000000 in
theorem free_any (x : Pl) (cv qv : Value) (w : World) {lo : Nat} (hp : PlAt lo w x cv qv) :
    Calls Tryd.prog 28 #[plV x cv qv] w fun en w' => en = .returned (.int .i64 (freeI x.conns)) ∧ Below w.heap.size w w' := by
  obtain ⟨e, n, cs, qs⟩ := x
  obtain ⟨hc, hq⟩ := hp
  simp only at hc hq
  have hl := hc.1
  obtain ⟨a1, c1, rfl, _⟩ := hc.form
  obtain ⟨a2, c2, rfl, _⟩ := hq.form
  show Calls Tryd.prog 28 #[.agg #[.int .i64 e, .int .i64 n, .slice a1 cs.length c1, .slice a2 qs.length c2]] w fun en w' => en = .returned (.int .i64 (freeI cs)) ∧ Below w.heap.size w w'
  have HB0 := hide ((Below.refl w.heap.size w).alloc (Nat.le_refl _) (Obj.cells #[.int .i64 e, .int .i64 n, .slice a1 cs.length c1, .slice a2 qs.length c2] 27))
  have HCV := hide hc
  clear hc hq
  go_enter Tryd.func28, Tryd.ntmps28
  go_wp2_with fail
  go_loop [3] (fun i => ∃ k : Nat, k ≤ cs.length ∧ i = .int .i64 k ∧ ∀ i (hi : i < cs.length), i < k → cs[i].busy = true) (fun i => cs.length - (intOf i).toNat)
  case atStart => exact ⟨0, Nat.zero_le _, rfl, fun i hi h => absurd h (by omega)⟩
  case round =>
    obtain ⟨k, hk, rfl, hall⟩ := hrel
    by_cases hlt : k < cs.length
    · obtain ⟨b, off, rfl, hbl, hel, _⟩ := at_place HCV.out hlt
      have hi : (k : Int) < (cs.length : Int) := by omega
      have g0 : w.cell? ⟨b, off + k * 7, none⟩ = some (.bool cs[k].busy) := hel 0 (by simp [cnC])
      cases hbz : cs[k].busy with
      | true =>
        rw [hbz] at g0
        have HN : Hid (∀ i (hi : i < cs.length), i < k + 1 → cs[i].busy = true) := fun i hi h => by
          by_cases e1 : i = k
          · subst e1; exact hbz
          · exact hall i hi (by omega)
        clear hall hbz hel
        go_wp2_with fail
        go_round
        case rel => exact ⟨k + 1, by omega, by go_num, HN.out⟩
        case measure => simp [intOf]; omega
      | false =>
        rw [hbz] at g0
        have HN : Hid (freeI cs = (k : Int)) := by
          have := freeN_at hlt hbz hall
          unfold freeI
          rw [this, if_pos hlt]
          exact rfl
        clear hall hbz hel
        go_wp2_with fail
        go_ret
        exact ⟨ret_int HN.out.symm, HB0.out⟩
    · have HN : Hid (freeI cs = -1) := by
        have := freeN_all (cs := cs) fun i hi => hall i hi (by omega)
        unfold freeI
        rw [this, if_neg (by omega)]
        exact rfl
      clear hall
      go_wp2_with fail
      go_ret
      exact ⟨ret_int HN.out.symm, HB0.out⟩

/-! a pool in order -/
def headB (x : Pl) : Bool := cntB x.epoch && cntB x.next && decide (1 ≤ x.conns.length ∧ x.conns.length ≤ 4) && decide (x.queue.length ≤ 16)
theorem okPl_def (x : Pl) : okPl x = (headB x && (x.queue.all okWn && (x.conns.all okCn && (x.queue.isEmpty || x.conns.all (·.busy))))) := rfl
theorem okPl_head {x : Pl} (h : headB x = false) : okPl x = false := by rw [okPl_def, h]; rfl
theorem okPl_queue {x : Pl} {k : Nat} (hk : k < x.queue.length) (h : okWn x.queue[k] = false) : okPl x = false := by
  rw [okPl_def]
  have : x.queue.all okWn = false := List.all_eq_false.2 ⟨x.queue[k], List.getElem_mem hk, by simp [h]⟩
  rw [this, Bool.false_and, Bool.and_false]
theorem okPl_conn {x : Pl} {k : Nat} (hk : k < x.conns.length) (h : okCn x.conns[k] = false) : okPl x = false := by
  rw [okPl_def]
  have : x.conns.all okCn = false := List.all_eq_false.2 ⟨x.conns[k], List.getElem_mem hk, by simp [h]⟩
  rw [this, Bool.false_and, Bool.and_false, Bool.and_false]
theorem okPl_free {x : Pl} {k : Nat} (hk : k < x.conns.length) (h : x.conns[k].busy = false) (hq : 0 < x.queue.length) : okPl x = false := by
  rw [okPl_def]
  have : x.conns.all (·.busy) = false := List.all_eq_false.2 ⟨x.conns[k], List.getElem_mem hk, by simp [h]⟩
  have h2 : x.queue.isEmpty = false := by
    cases hx : x.queue with
    | nil => rw [hx] at hq; simp at hq
    | cons a l => rfl
  rw [this, h2]
  simp
theorem okPl_yes {x : Pl} (h : headB x = true) (hq : ∀ i (h : i < x.queue.length), okWn x.queue[i] = true) (hc : ∀ i (h : i < x.conns.length), okCn x.conns[i] = true) (hf : x.queue.length = 0 ∨ ∀ i (h : i < x.conns.length), x.conns[i].busy = true) : okPl x = true := by
  rw [okPl_def, h]
  have h1 : x.queue.all okWn = true := List.all_eq_true.2 fun y hy => by obtain ⟨i, hi, rfl⟩ := List.getElem_of_mem hy; exact hq i hi
  have h2 : x.conns.all okCn = true := List.all_eq_true.2 fun y hy => by obtain ⟨i, hi, rfl⟩ := List.getElem_of_mem hy; exact hc i hi
  rw [h1, h2]
  rcases hf with hf | hf
  · rw [List.length_eq_zero_iff.1 hf]; rfl
  · have h3 : x.conns.all (·.busy) = true := List.all_eq_true.2 fun y hy => by obtain ⟨i, hi, rfl⟩ := List.getElem_of_mem hy; exact hf i hi
    rw [h3]; simp
theorem headB_no {x : Pl} (h : ¬ (0 ≤ x.epoch ∧ x.epoch ≤ 1000000 ∧ 0 ≤ x.next ∧ x.next ≤ 1000000 ∧ 1 ≤ x.conns.length ∧ x.conns.length ≤ 4 ∧ x.queue.length ≤ 16)) : headB x = false := by
  rw [← Bool.not_eq_true]
  intro h2
  unfold headB cntB at h2
  simp only [Bool.and_eq_true, decide_eq_true_eq] at h2
  exact h ⟨h2.1.1.1.1, h2.1.1.1.2, h2.1.1.2.1, h2.1.1.2.2, h2.1.2.1, h2.1.2.2, h2.2⟩
theorem headB_yes {x : Pl} (h : 0 ≤ x.epoch ∧ x.epoch ≤ 1000000 ∧ 0 ≤ x.next ∧ x.next ≤ 1000000 ∧ 1 ≤ x.conns.length ∧ x.conns.length ≤ 4 ∧ x.queue.length ≤ 16) : headB x = true := by
  unfold headB cntB
  simp only [Bool.and_eq_true, decide_eq_true_eq]
  exact ⟨⟨⟨⟨h.1, h.2.1⟩, h.2.2.1, h.2.2.2.1⟩, h.2.2.2.2.1, h.2.2.2.2.2.1⟩, h.2.2.2.2.2.2⟩

set_option maxRecDepth 100000 in
set_option maxHeartbeats 8000000 in
theorem poolOkS_any (x : Pl) (cv qv : Value) (w : World) {lo : Nat} (hp : PlAt lo w x cv qv) :
    Calls Tryd.prog 24 #[plV x cv qv] w fun en w' => en = .returned (.bool (okPl x)) ∧ Below w.heap.size w w' := by
  have HNO := hide (@okPl_head x)
  have HQ := hide (fun k hk h => @okPl_queue x k hk h)
  have HCN := hide (fun k hk h => @okPl_conn x k hk h)
  have HFR := hide (fun k hk h hq => @okPl_free x k hk h hq)
  have HYES := hide (@okPl_yes x)
  have HN := hide (@headB_no x)
  have HY := hide (@headB_yes x)
  obtain ⟨P, hP⟩ : ∃ P, okPl x = P := ⟨_, rfl⟩
  rw [hP] at HNO HQ HCN HFR HYES ⊢
  clear hP
  obtain ⟨e, n, cs, qs⟩ := x
  obtain ⟨hc, hq⟩ := hp
  simp only at hc hq HQ HCN HFR HYES HN HY
  have hl := hc.1
  have HZ1 := hide (cns_z hc)
  have HZ2 := hide (wns_z hq)
  obtain ⟨a1, c1, rfl, _⟩ := hc.form
  obtain ⟨a2, c2, rfl, _⟩ := hq.form
  have hlq := hq.1
  show Calls Tryd.prog 24 #[.agg #[.int .i64 e, .int .i64 n, .slice a1 cs.length c1, .slice a2 qs.length c2]] w fun en w' => en = .returned (.bool P) ∧ Below w.heap.size w w'
  obtain ⟨w1, hw1⟩ : ∃ w1, w.alloc (Obj.cells #[.int .i64 e, .int .i64 n, .slice a1 cs.length c1, .slice a2 qs.length c2] 27) = w1 := ⟨_, rfl⟩
  have HB0 : Hid (Below w.heap.size w w1) := by rw [← hw1]; exact (Below.refl w.heap.size w).alloc (Nat.le_refl _) _
  have HX : Hid (Box w1 w.heap.size 27 #[.int .i64 e, .int .i64 n, .slice a1 cs.length c1, .slice a2 qs.length c2]) := by rw [← hw1]; exact Box.new _ _ _
  have KS : Hid (∀ W, Below w1.heap.size w1 W → W.cell? ⟨w.heap.size, 2, none⟩ = some (.slice a1 cs.length c1) ∧ W.cell? ⟨w.heap.size, 3, none⟩ = some (.slice a2 qs.length c2)) := fun W hW => by
    have h := HX.out.below hW
    exact ⟨h.cell 2 (by simp), h.cell 3 (by simp)⟩
  have p0 : w1.cell? ⟨w.heap.size, 0, none⟩ = some (.int .i64 e) := HX.out.cell 0 (by simp)
  have p1 : w1.cell? ⟨w.heap.size, 1, none⟩ = some (.int .i64 n) := HX.out.cell 1 (by simp)
  obtain ⟨p2, p3⟩ := KS.out w1 (Below.refl _ _)
  have HCV := hide hc
  have HQV := hide hq
  clear hc hq
  by_cases hhd : 0 ≤ e ∧ e ≤ 1000000 ∧ 0 ≤ n ∧ n ≤ 1000000 ∧ 1 ≤ cs.length ∧ cs.length ≤ 4 ∧ qs.length ≤ 16
  · have HHD := hide (HY.out hhd)
    obtain ⟨k1, k2, k3, k4, k5, k6, k7⟩ := hhd
    have j1 : ¬ e < 0 := by omega
    have j2 : ¬ (1000000 : Int) < e := by omega
    have j3 : ¬ n < 0 := by omega
    have j4 : ¬ (1000000 : Int) < n := by omega
    have j5 : ¬ (cs.length : Int) < 1 := by omega
    have j6 : ¬ (4 : Int) < (cs.length : Int) := by omega
    have j7 : ¬ (16 : Int) < (qs.length : Int) := by omega
    clear k1 k2 k3 k4 k5
    go_enter Tryd.func24, Tryd.ntmps24
    go_wp2_with fail
    go_loopw [3] (fun i wx => ∃ k : Nat, k ≤ qs.length ∧ i = .int .i64 k ∧ (∀ i (h : i < qs.length), i < k → okWn qs[i] = true) ∧ Below w1.heap.size w1 wx) (fun i _ => qs.length - (intOf i).toNat)
    case atStart => exact ⟨0, Nat.zero_le _, rfl, fun i hi h => absurd h (by omega), Below.refl _ _⟩
    case round =>
      obtain ⟨k, hk, rfl, hall, hb⟩ := hrel
      obtain ⟨q2, q3⟩ := KS.out _ hb
      by_cases hlt : k < qs.length
      · obtain ⟨b, off, rfl, hbl, hel, hz⟩ := at_place HQV.out hlt
        have hi : (k : Int) < (qs.length : Int) := by omega
        have hbx := bjoin hb HB0.out
        obtain ⟨x, hx⟩ : ∃ x, qs[k] = x := ⟨_, rfl⟩
        rw [hx] at hel hz
        have g0 : wr.cell? ⟨b, off + k * 4, none⟩ = some (.int .i64 x.client) := by rw [hbx.cell (p := ⟨b, off + k * 4, none⟩) hbl]; exact hel 0 (by simp [wnC])
        have g1 : wr.cell? ⟨b, off + k * 4 + 1, none⟩ = some (.string x.tag) := by rw [hbx.cell (p := ⟨b, off + k * 4 + 1, none⟩) hbl]; exact hel 1 (by simp [wnC])
        have g2 : wr.cell? ⟨b, off + k * 4 + 2, none⟩ = some (.string x.query) := by rw [hbx.cell (p := ⟨b, off + k * 4 + 2, none⟩) hbl]; exact hel 2 (by simp [wnC])
        have g3 : wr.cell? ⟨b, off + k * 4 + 3, none⟩ = some (.string x.pointer) := by rw [hbx.cell (p := ⟨b, off + k * 4 + 3, none⟩) hbl]; exact hel 3 (by simp [wnC])
        have HWS := hide (fun W => wantS_any x W hz)
        unfold wnV at HWS
        have HB := hide hb
        cases hw : okWn x with
        | true =>
          have HN : Hid (∀ i (h : i < qs.length), i < k + 1 → okWn qs[i] = true) := fun i hi h => by
            by_cases e1 : i = k
            · subst e1; rw [hx]; exact hw
            · exact hall i hi (by omega)
          rw [hw] at HWS
          clear hel hz hx hbx hall hb hw
          go_wp2_with fail
          refine (HWS.out _).mono ?_
          rintro en W2 ⟨rfl, hb2⟩
          have HB2 := hide (bjoin hb2 HB.out)
          clear hb2
          go_wp2_with fail
          go_roundw
          case rel => exact ⟨k + 1, by omega, by go_num, HN.out, HB2.out⟩
          case measure => simp [intOf]; omega
        | false =>
          have HN : Hid (P = false) := HQ.out _ hlt (by rw [hx]; exact hw)
          rw [hw] at HWS
          clear hel hz hx hbx hall hb hw
          go_wp2_with fail
          refine (HWS.out _).mono ?_
          rintro en W2 ⟨rfl, hb2⟩
          have HB2 := hide (bjoin (bjoin hb2 HB.out) HB0.out)
          clear hb2
          go_wp2_with fail
          go_ret
          exact ⟨ret_bool HN.out.symm, HB2.out⟩
      · have HALL : Hid (∀ i (h : i < qs.length), okWn qs[i] = true) := fun i hi => hall i hi (by omega)
        have HB1 := hide hb
        clear hall hb
        go_wp2_with fail
        go_loopw [4] (fun i wx => ∃ k : Nat, k ≤ cs.length ∧ i = .int .i64 k ∧ (∀ i (h : i < cs.length), i < k → okCn cs[i] = true ∧ (qs.length = 0 ∨ cs[i].busy = true)) ∧ Below w1.heap.size w1 wx) (fun i _ => cs.length - (intOf i).toNat)
        case atStart => exact ⟨0, Nat.zero_le _, rfl, fun i hi h => absurd h (by omega), HB1.out⟩
        case round =>
          obtain ⟨k, hk, rfl, hall, hb⟩ := hrel
          obtain ⟨q2, q3⟩ := KS.out _ hb
          by_cases hlt : k < cs.length
          · obtain ⟨b, off, rfl, hbl, hel, hz⟩ := at_place HCV.out hlt
            have hi : (k : Int) < (cs.length : Int) := by omega
            have hbx := bjoin hb HB0.out
            obtain ⟨x, hx⟩ : ∃ x, cs[k] = x := ⟨_, rfl⟩
            rw [hx] at hel hz
            have hown : ∀ j (hj : j < 7), wr.cell? ⟨b, off + k * 7 + j, none⟩ = some ((cnC x)[j]'(by rw [cnC_len]; exact hj)) := fun j hj => by
              rw [hbx.cell (p := ⟨b, off + k * 7 + j, none⟩) hbl]
              exact hel j (by rw [cnC_len]; exact hj)
            have g0 : wr.cell? ⟨b, off + k * 7, none⟩ = some (.bool x.busy) := hown 0 (by omega)
            have g1 : wr.cell? ⟨b, off + k * 7 + 1, none⟩ = some (.string x.control) := hown 1 (by omega)
            have g2 : wr.cell? ⟨b, off + k * 7 + 2, none⟩ = some (.int .i64 x.want.client) := hown 2 (by omega)
            have g3 : wr.cell? ⟨b, off + k * 7 + 3, none⟩ = some (.string x.want.tag) := hown 3 (by omega)
            have g4 : wr.cell? ⟨b, off + k * 7 + 4, none⟩ = some (.string x.want.query) := hown 4 (by omega)
            have g5 : wr.cell? ⟨b, off + k * 7 + 5, none⟩ = some (.string x.want.pointer) := hown 5 (by omega)
            have g6 : wr.cell? ⟨b, off + k * 7 + 6, none⟩ = some (.int .i64 x.due) := hown 6 (by omega)
            have HBAD : Hid (okCn x = false → P = false) := fun h => HCN.out _ hlt (by rw [hx]; exact h)
            have HBAD2 : Hid (x.busy = false → 0 < qs.length → P = false) := fun h h2 => HFR.out _ hlt (by rw [hx]; exact h) h2
            have HN : Hid (okCn x = true → (qs.length = 0 ∨ x.busy = true) → ∀ i (h : i < cs.length), i < k + 1 → okCn cs[i] = true ∧ (qs.length = 0 ∨ cs[i].busy = true)) := fun h1 h2 i hi h => by
              by_cases e1 : i = k
              · subst e1; rw [hx]; exact ⟨h1, h2⟩
              · exact hall i hi (by omega)
            have HZ := hide hz
            clear hel hz hx hbx hall hown
            obtain ⟨busy, control, ⟨client, tag, query, pointer⟩, due⟩ := x
            simp only at g0 g1 g2 g3 g4 g5 g6
            have z1 : control.size ≤ 9223372036854775807 := HZ.out.1
            have HWS := hide (fun W => wantS_any ⟨client, tag, query, pointer⟩ W HZ.out.2)
            unfold wnV at HWS
            obtain ⟨w2, hw2⟩ : ∃ w2, wr.alloc (Obj.cells #[.bool busy, .string control, .int .i64 client, .string tag, .string query, .string pointer, .int .i64 due] 37) = w2 := ⟨_, rfl⟩
            have hb2 : Below wr.heap.size wr w2 := by rw [← hw2]; exact (Below.refl _ _).alloc (Nat.le_refl _) _
            have HX2 : Hid (Box w2 wr.heap.size 37 #[.bool busy, .string control, .int .i64 client, .string tag, .string query, .string pointer, .int .i64 due]) := by rw [← hw2]; exact Box.new _ _ _
            have HB2 := hide (bjoin hb2 hb)
            have KC : Hid (∀ W, Below w2.heap.size w2 W → (W.cell? ⟨wr.heap.size, 0, none⟩ = some (.bool busy) ∧ W.cell? ⟨wr.heap.size, 1, none⟩ = some (.string control) ∧ W.cell? ⟨wr.heap.size, 2, none⟩ = some (.int .i64 client) ∧ W.cell? ⟨wr.heap.size, 3, none⟩ = some (.string tag) ∧ W.cell? ⟨wr.heap.size, 4, none⟩ = some (.string query) ∧ W.cell? ⟨wr.heap.size, 5, none⟩ = some (.string pointer) ∧ W.cell? ⟨wr.heap.size, 6, none⟩ = some (.int .i64 due)) ∧ W.cell? ⟨w.heap.size, 3, none⟩ = some (.slice a2 qs.length c2) ∧ Below w1.heap.size w1 W) := fun W hW => by
              have h := HX2.out.below hW
              have hB := bjoin hW HB2.out
              exact ⟨⟨h.cell 0 (by simp), h.cell 1 (by simp), h.cell 2 (by simp), h.cell 3 (by simp), h.cell 4 (by simp), h.cell 5 (by simp), h.cell 6 (by simp)⟩, (KS.out W hB).2, hB⟩
            have r := KC.out w2 (Below.refl _ _)
            obtain ⟨⟨r0, r1, r2, r3, r4, r5, r6⟩, r7, _⟩ := r
            clear hb hb2
            cases busy with
            | true =>
              have HOK : Hid (okCn ⟨true, control, ⟨client, tag, query, pointer⟩, due⟩ = (controlB control && (okWn ⟨client, tag, query, pointer⟩ && decide (0 ≤ due ∧ due ≤ 1000000000)))) := rfl
              have HC1 := hide (fun W => controlSpec_any control W z1)
              cases hc : controlB control with
              | false =>
                have HR : Hid (P = false) := HBAD.out (by rw [HOK.out, hc]; rfl)
                rw [hc] at HC1
                clear hc
                go_wp2_with fail
                refine (HC1.out _).mono ?_
                rintro en W ⟨rfl, hW⟩
                rw [hW]
                clear hW W
                go_wp2_with fail
                go_ret
                exact ⟨ret_bool HR.out.symm, bjoin HB2.out HB0.out⟩
              | true =>
                rw [hc] at HC1
                cases hw : okWn ⟨client, tag, query, pointer⟩ with
                | false =>
                  have HR : Hid (P = false) := HBAD.out (by rw [HOK.out, hc, hw]; rfl)
                  rw [hw] at HWS
                  clear hc hw
                  go_wp2_with fail
                  refine (HC1.out _).mono ?_
                  rintro en W ⟨rfl, hW⟩
                  rw [hW]
                  clear hW W
                  go_wp2_with fail
                  refine (HWS.out _).mono ?_
                  rintro en W3 ⟨rfl, hb3⟩
                  have HB3 := hide (bjoin (bjoin hb3 HB2.out) HB0.out)
                  clear hb3
                  go_wp2_with fail
                  go_ret
                  exact ⟨ret_bool HR.out.symm, HB3.out⟩
                | true =>
                  rw [hw] at HWS
                  have HD : Hid (okCn ⟨true, control, ⟨client, tag, query, pointer⟩, due⟩ = decide (0 ≤ due ∧ due ≤ 1000000000)) := by rw [HOK.out, hc, hw]; exact rfl
                  clear hc hw
                  have hcase : (¬ due < 0 ∧ ¬ 1000000000 < due) ∨ due < 0 ∨ (¬ due < 0 ∧ 1000000000 < due) := by omega
                  rcases hcase with ⟨d1, d2⟩ | d1 | ⟨d1, d2⟩
                  · have HNX := hide (HN.out (by rw [HD.out, decide_eq_true_eq]; omega) (.inr rfl))
                    go_wp2_with fail
                    refine (HC1.out _).mono ?_
                    rintro en W ⟨rfl, hW⟩
                    rw [hW]
                    clear hW W
                    go_wp2_with fail
                    refine (HWS.out _).mono ?_
                    rintro en W3 ⟨rfl, hb3⟩
                    obtain ⟨⟨s0, s1, s2, s3, s4, s5, s6⟩, s7, hbW⟩ := KC.out W3 hb3
                    have HB3 := hide hbW
                    clear hb3 hbW
                    go_wp2_with fail
                    go_roundw
                    case rel => exact ⟨k + 1, by omega, by go_num, HNX.out, HB3.out⟩
                    case measure => simp [intOf]; omega
                  all_goals
                    have HR : Hid (P = false) := HBAD.out (by rw [HD.out, decide_eq_false_iff_not]; omega)
                    go_wp2_with fail
                    refine (HC1.out _).mono ?_
                    rintro en W ⟨rfl, hW⟩
                    rw [hW]
                    clear hW W
                    go_wp2_with fail
                    refine (HWS.out _).mono ?_
                    rintro en W3 ⟨rfl, hb3⟩
                    obtain ⟨⟨s0, s1, s2, s3, s4, s5, s6⟩, s7, hbW⟩ := KC.out W3 hb3
                    have HB3 := hide (bjoin hbW HB0.out)
                    clear hb3 hbW
                    go_wp2_with fail
                    go_ret
                    exact ⟨ret_bool HR.out.symm, HB3.out⟩
            | false =>
              have HZS := hide (fun W => zeroS_any ⟨false, control, ⟨client, tag, query, pointer⟩, due⟩ W HZ.out rfl)
              unfold cnV at HZS
              have HOK : Hid (okCn ⟨false, control, ⟨client, tag, query, pointer⟩, due⟩ = zeroB ⟨false, control, ⟨client, tag, query, pointer⟩, due⟩) := rfl
              cases hz : zeroB ⟨false, control, ⟨client, tag, query, pointer⟩, due⟩ with
              | false =>
                have HR : Hid (P = false) := HBAD.out (by rw [HOK.out, hz])
                rw [hz] at HZS
                clear hz
                go_wp2_with fail
                refine (HZS.out _).mono ?_
                rintro en W3 ⟨rfl, hb3⟩
                have HB3 := hide (bjoin (bjoin hb3 HB2.out) HB0.out)
                clear hb3
                go_wp2_with fail
                go_ret
                exact ⟨ret_bool HR.out.symm, HB3.out⟩
              | true =>
                have HD : Hid (okCn ⟨false, control, ⟨client, tag, query, pointer⟩, due⟩ = true) := by rw [HOK.out, hz]; exact rfl
                rw [hz] at HZS
                clear hz
                by_cases hq0 : (0 : Int) < (qs.length : Int)
                · have HR : Hid (P = false) := HBAD2.out rfl (by omega)
                  go_wp2_with fail
                  refine (HZS.out _).mono ?_
                  rintro en W3 ⟨rfl, hb3⟩
                  obtain ⟨⟨s0, s1, s2, s3, s4, s5, s6⟩, s7, hbW⟩ := KC.out W3 hb3
                  have HB3 := hide (bjoin hbW HB0.out)
                  clear hb3 hbW
                  go_wp2_with fail
                  go_ret
                  exact ⟨ret_bool HR.out.symm, HB3.out⟩
                · have HNX := hide (HN.out HD.out (.inl (by omega)))
                  go_wp2_with fail
                  refine (HZS.out _).mono ?_
                  rintro en W3 ⟨rfl, hb3⟩
                  obtain ⟨⟨s0, s1, s2, s3, s4, s5, s6⟩, s7, hbW⟩ := KC.out W3 hb3
                  have HB3 := hide hbW
                  clear hb3 hbW
                  go_wp2_with fail
                  go_roundw
                  case rel => exact ⟨k + 1, by omega, by go_num, HNX.out, HB3.out⟩
                  case measure => simp [intOf]; omega
          · have HR : Hid (P = true) := HYES.out HHD.out HALL.out (fun i hi => (hall i hi (by omega)).1) (by
              by_cases h0 : qs.length = 0
              · exact .inl h0
              · exact .inr fun i hi => (hall i hi (by omega)).2.resolve_left h0)
            have HB3 := hide (bjoin hb HB0.out)
            clear hall hb
            go_wp2_with fail
            go_ret
            exact ⟨ret_bool HR.out.symm, HB3.out⟩
  · have HR : Hid (P = false) := HNO.out (HN.out hhd)
    have hbad : e < 0 ∨ (¬ e < 0 ∧ 1000000 < e) ∨ (¬ e < 0 ∧ ¬ 1000000 < e ∧ n < 0) ∨ (¬ e < 0 ∧ ¬ 1000000 < e ∧ ¬ n < 0 ∧ 1000000 < n) ∨ (¬ e < 0 ∧ ¬ 1000000 < e ∧ ¬ n < 0 ∧ ¬ 1000000 < n ∧ (cs.length : Int) < 1) ∨ (¬ e < 0 ∧ ¬ 1000000 < e ∧ ¬ n < 0 ∧ ¬ 1000000 < n ∧ ¬ (cs.length : Int) < 1 ∧ 4 < (cs.length : Int)) ∨ (¬ e < 0 ∧ ¬ 1000000 < e ∧ ¬ n < 0 ∧ ¬ 1000000 < n ∧ ¬ (cs.length : Int) < 1 ∧ ¬ 4 < (cs.length : Int) ∧ 16 < (qs.length : Int)) := by omega
    clear hhd
    rcases hbad with h1 | ⟨h1, h2⟩ | ⟨h1, h2, h3⟩ | ⟨h1, h2, h3, h4⟩ | ⟨h1, h2, h3, h4, h5⟩ | ⟨h1, h2, h3, h4, h5, h6⟩ | ⟨h1, h2, h3, h4, h5, h6, h7⟩
    all_goals
      go_enter Tryd.func24, Tryd.ntmps24
      go_wp2_with fail
      go_ret
      exact ⟨ret_bool HR.out.symm, HB0.out⟩
end Go.Proofs.YtfdefjdogmhinaaDoor.Msg

namespace Go.Proofs.YtfdefjdogmhinaaDoor.Msg
open Go.ChangeShapes Go.WideShapes Go.ChangeAt Go.RowKit
set_option linter.unusedVariables false
set_option linter.unusedSimpArgs false


def mvSent (k i : Nat) : Value :=
  if i % 6 = 0 then .int .i64 ((k + i : Nat) : Int) else if i % 6 = 1 then .string (markT (k + i)) else if i % 6 = 2 then .int .i64 ((k + i : Nat) : Int) else if i % 6 = 3 then .string (markT (k + i)) else if i % 6 = 4 then .string (markT (k + i)) else .string (markT (k + i))
theorem mvSent_0 (k j : Nat) : mvSent k (j * 6 + 0) = .int .i64 ((k + (j * 6 + 0) : Nat) : Int) := by
  unfold mvSent
  rw [if_pos (by omega)]
theorem mvSent_1 (k j : Nat) : mvSent k (j * 6 + 1) = .string (markT (k + (j * 6 + 1))) := by
  unfold mvSent
  rw [if_neg (by omega), if_pos (by omega)]
theorem mvSent_2 (k j : Nat) : mvSent k (j * 6 + 2) = .int .i64 ((k + (j * 6 + 2) : Nat) : Int) := by
  unfold mvSent
  rw [if_neg (by omega), if_neg (by omega), if_pos (by omega)]
theorem mvSent_3 (k j : Nat) : mvSent k (j * 6 + 3) = .string (markT (k + (j * 6 + 3))) := by
  unfold mvSent
  rw [if_neg (by omega), if_neg (by omega), if_neg (by omega), if_pos (by omega)]
theorem mvSent_4 (k j : Nat) : mvSent k (j * 6 + 4) = .string (markT (k + (j * 6 + 4))) := by
  unfold mvSent
  rw [if_neg (by omega), if_neg (by omega), if_neg (by omega), if_neg (by omega), if_pos (by omega)]
theorem mvSent_5 (k j : Nat) : mvSent k (j * 6 + 5) = .string (markT (k + (j * 6 + 5))) := by
  unfold mvSent
  rw [if_neg (by omega), if_neg (by omega), if_neg (by omega), if_neg (by omega), if_neg (by omega)]
end Go.Proofs.YtfdefjdogmhinaaDoor.Msg
