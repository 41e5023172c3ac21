import Derived.Test.YtfdefjdogmhinaaDoorMsgTo2withEqPool
import Derived.Test.YtfdefjdogmhinaaDoorFlatAppwithDeskKey
import Derived.Test.YtfdefjdogmhinaaDoorMsgTowithMarkStr
import Derived.Deep.LoopGhost
namespace Go.Proofs.YtfdefjdogmhinaaDoor.Msg
open Go.ChangeShapes Go.WideShapes Go.ChangeAt Go.RowKit
set_option linter.unusedVariables false
set_option linter.unusedSimpArgs false

abbrev newOk (e c : Int) : Prop := 0 ≤ e ∧ e ≤ 1000000 ∧ 1 ≤ c ∧ c ≤ 4
def newP (e c : Int) : Pl := if newOk e c then ⟨e, 0, List.replicate c.toNat cn0, []⟩ else ⟨0, 0, [], []⟩
theorem rep_snoc (k : Nat) (x : Cn) : List.replicate k x ++ [x] = List.replicate (k + 1) x := by rw [List.replicate_succ']

/-- a pool that a call gives: its lists may be read -/
def PlAt (lo : Nat) (w : World) (x : Pl) (cv qv : Value) : Prop := CnsAt lo w cv x.conns ∧ WnsAt lo w qv x.queue
/-- .. and are in blocks of its own -/
def PlO (lo : Nat) (w : World) (x : Pl) (cv qv : Value) (b1 b2 : List Nat) : Prop :=
  FO cnC 7 w cv x.conns b1 ∧ FO wnC 4 w qv x.queue b2 ∧ (∀ d ∈ b1, d ∉ b2) ∧ (∀ d ∈ b1, lo ≤ d) ∧ (∀ d ∈ b2, lo ≤ d) ∧ (∀ i (h : i < x.conns.length), cnZ x.conns[i]) ∧ (∀ i (h : i < x.queue.length), wnZ x.queue[i])
theorem PlO.at {lo : Nat} {w : World} {x : Pl} {cv qv : Value} {b1 b2 : List Nat} (h : PlO lo w x cv qv b1 b2) : PlAt lo w x cv qv :=
  ⟨h.1.at cnC_len h.2.2.2.2.2.1 h.2.2.2.1, h.2.1.at wnC_len h.2.2.2.2.2.2 h.2.2.2.2.1⟩
theorem PlO.none (lo : Nat) (w : World) (e n : Int) (a1 a2 : Option Addr) (c1 c2 : Nat) : PlO lo w ⟨e, n, [], []⟩ (.slice a1 0 c1) (.slice a2 0 c2) [] [] :=
  ⟨⟨by simp, .inl ⟨_, _, rfl, rfl, rfl⟩⟩, ⟨by simp, .inl ⟨_, _, rfl, rfl, rfl⟩⟩, by simp, by simp, by simp, by simp, by simp⟩

set_option maxRecDepth 100000 in
set_option maxHeartbeats 4000000 in
theorem newS_any (e c : Int) (w : World) : Calls Tryd.prog 6 #[.int .i64 e, .int .i64 c] w fun en w' => ∃ cv qv, en = .returned (plV (newP e c) cv qv) ∧ PlAt w.heap.size w' (newP e c) cv qv ∧ Below w.heap.size w w' := by
  by_cases hok : newOk e c
  · have hE : newP e c = ⟨e, 0, List.replicate c.toNat cn0, []⟩ := if_pos hok
    rw [hE]
    obtain ⟨h1, h2, h3, h4⟩ := hok
    obtain ⟨n, rfl⟩ : ∃ n : Nat, c = (n : Int) := ⟨c.toNat, by omega⟩
    have hn4 : n ≤ 4 := by omega
    have hn1 : 1 ≤ n := by omega
    have g1 : ¬ e < 0 := by omega
    have g2 : ¬ (1000000 : Int) < e := by omega
    have g3 : ¬ (n : Int) < 1 := by omega
    have g4 : ¬ (4 : Int) < (n : Int) := by omega
    rw [Int.toNat_natCast]
    clear hE
    obtain ⟨w1, hw1⟩ : ∃ w1, (w.alloc (Obj.cells #[.int .i64 0, .int .i64 0, .slice none 0 0, .slice none 0 0] 27)).alloc (Obj.cells #[.int .i64 e, .int .i64 0, .slice none 0 0, .slice none 0 0] 27) = w1 := ⟨_, rfl⟩
    have HB0 : Hid (Below w.heap.size w w1) := by rw [← hw1]; exact ((Below.refl w.heap.size w).alloc (Nat.le_refl _) _).alloc (by simp) _
    have HX0 : Hid (Box w1 w.heap.size 27 #[.int .i64 0, .int .i64 0, .slice none 0 0, .slice none 0 0]) := by rw [← hw1]; exact (Box.new w _ _).alloc _
    have HX1 : Hid (Box w1 (w.heap.size + 1) 27 #[.int .i64 e, .int .i64 0, .slice none 0 0, .slice none 0 0]) := by
      rw [← hw1]
      have := Box.new (w.alloc (Obj.cells #[.int .i64 0, .int .i64 0, .slice none 0 0, .slice none 0 0] 27)) 27 #[.int .i64 e, .int .i64 0, .slice none 0 0, .slice none 0 0]
      rw [Deep.nblk_alloc] at this
      exact this
    have hs1 : w.heap.size + 2 ≤ w1.heap.size := by rw [← hw1]; simp
    have HW1 := hide hw1
    clear hw1
    go_enter Tryd.func6, Tryd.ntmps6
    go_wp2_with fail
    rw [HW1.out]
    go_loopg [23] 4 (fun q _ wx => ∃ (k : Nat) (v : Value), k ≤ n ∧ q = 4 - k ∧ FB cnC 7 37 (w.heap.size + 2) wx v (List.replicate k cn0) ∧
      Box wx w.heap.size 27 #[.int .i64 0, .int .i64 0, .slice none 0 0, .slice none 0 0] ∧ Box wx (w.heap.size + 1) 27 #[.int .i64 e, .int .i64 0, v, .slice none 0 0] ∧ w.heap.size + 2 ≤ wx.heap.size ∧ Below w.heap.size w wx)
    case atStart => exact ⟨0, .slice none 0 0, Nat.zero_le _, rfl, FB.nil _ _ _ _ _, HX0.out, HX1.out, hs1, HB0.out⟩
    case round =>
      obtain ⟨k, v, hk, rfl, hF, hX0, hX1, hsz, hb⟩ := hrel
      obtain ⟨a, cap, rfl, _⟩ := hF.form
      rw [List.length_replicate] at *
      have c2 : wr.cell? ⟨w.heap.size + 1, 2, none⟩ = some (.slice a k cap) := hX1.cell 2 (by simp)
      by_cases hlt : k < n
      · obtain ⟨v', w', hr, hF', hO, hat⟩ := app1 Tryd.underlying24 info_Conn rfl (by decide) cnC_len cnC_one hF 24 cn0 hsz (by rw [List.length_replicate]; omega) (by omega)
        have hnin : ∀ d, d < w.heap.size + 2 → d ∉ (Value.slice a k cap).ownBlock.toList := fun d hd h => by have := (hF.own d h).1; omega
        have hX0' := hX0.only hO (hnin _ (by omega))
        have hX1' := hX1.only hO (hnin _ (by omega))
        rw [rep_snoc] at hF'
        have d2 : w'.cell? ⟨w.heap.size + 1, 2, none⟩ = some (.slice a k cap) := hX1'.cell 2 (by simp)
        have f2 := hX1'.frozen 2
        have HR : Hid (FB cnC 7 37 (w.heap.size + 2) (w'.setCell ⟨w.heap.size + 1, 2, none⟩ v') v' (List.replicate (k + 1) cn0) ∧ Box (w'.setCell ⟨w.heap.size + 1, 2, none⟩ v') w.heap.size 27 #[.int .i64 0, .int .i64 0, .slice none 0 0, .slice none 0 0] ∧ Box (w'.setCell ⟨w.heap.size + 1, 2, none⟩ v') (w.heap.size + 1) 27 #[.int .i64 e, .int .i64 0, v', .slice none 0 0] ∧ w.heap.size + 2 ≤ (w'.setCell ⟨w.heap.size + 1, 2, none⟩ v').heap.size ∧ Below w.heap.size w (w'.setCell ⟨w.heap.size + 1, 2, none⟩ v')) := by
          refine ⟨hF'.keep fun d hd => Deep.blk_setCell_other _ _ _ _ (fun h => ?_), hX0'.other (by simp) _, hX1'.set 2 _, ?_, ?_⟩
          · have := (hF'.own d hd).1; simp at h; omega
          · rw [Deep.nblk_setCell]; have := hO.size; omega
          · exact (hb.trans (hO.below (by omega) fun d hd => by have := (hF.own d hd).1; omega)).setCell (by simp) _
        obtain ⟨a', cap', hfv, _⟩ := hF'.form
        subst hfv
        rw [List.length_replicate] at *
        clear hF hX0 hX1 hF' hO hX0' hX1' hat hb hnin
        go_wp2_with (first | (at_builtin; refine wpList_app rfl _ _ 24 rfl hr (by first | rfl | simp [Act.eval, Act.put]) (by first | rfl | simp [Act.eval, Act.put]) ?_))
        go_roundg (4 - (k + 1))
        case measure => omega
        case rel => exact ⟨k + 1, _, by omega, rfl, HR.out.1, HR.out.2.1, HR.out.2.2.1, HR.out.2.2.2.1, HR.out.2.2.2.2⟩
      · obtain rfl : k = n := by omega
        have c0 : wr.cell? ⟨w.heap.size + 1, 0, none⟩ = some (.int .i64 e) := hX1.cell 0 (by simp)
        have c1 : wr.cell? ⟨w.heap.size + 1, 1, none⟩ = some (.int .i64 0) := hX1.cell 1 (by simp)
        have c3 : wr.cell? ⟨w.heap.size + 1, 3, none⟩ = some (.slice none 0 0) := hX1.cell 3 (by simp)
        have e0 : wr.cell? ⟨w.heap.size, 0, none⟩ = some (.int .i64 0) := hX0.cell 0 (by simp)
        have e1 : wr.cell? ⟨w.heap.size, 1, none⟩ = some (.int .i64 0) := hX0.cell 1 (by simp)
        have e2 : wr.cell? ⟨w.heap.size, 2, none⟩ = some (.slice none 0 0) := hX0.cell 2 (by simp)
        have e3 : wr.cell? ⟨w.heap.size, 3, none⟩ = some (.slice none 0 0) := hX0.cell 3 (by simp)
        have f0 := hX0.frozen 0
        have f1 := hX0.frozen 1
        have f2 := hX0.frozen 2
        have f3 := hX0.frozen 3
        have HR : Hid (∀ x0 x1 x2 x3, PlAt w.heap.size ((((wr.setCell ⟨w.heap.size, 0, none⟩ x0).setCell ⟨w.heap.size, 1, none⟩ x1).setCell ⟨w.heap.size, 2, none⟩ x2).setCell ⟨w.heap.size, 3, none⟩ x3) ⟨e, 0, List.replicate k cn0, []⟩ (.slice a k cap) (.slice none 0 0) ∧ Below w.heap.size w ((((wr.setCell ⟨w.heap.size, 0, none⟩ x0).setCell ⟨w.heap.size, 1, none⟩ x1).setCell ⟨w.heap.size, 2, none⟩ x2).setCell ⟨w.heap.size, 3, none⟩ x3)) := fun x0 x1 x2 x3 => by
          refine ⟨⟨?_, ⟨by simp, .inl ⟨_, _, rfl, rfl⟩⟩⟩, (((hb.setCell (by simp) _).setCell (by simp) _).setCell (by simp) _).setCell (by simp) _⟩
          refine At.mono mono_flat (FB.at (e := 37) (base := w.heap.size + 2) cnC_len (hF.keep fun d hd => ?_) (by simp; omega) (fun i hi => by simp only [List.getElem_replicate]; exact cn0Z)) (by omega)
          have := (hF.own d hd).1
          rw [Deep.blk_setCell_other _ _ _ _ (by simp; omega), Deep.blk_setCell_other _ _ _ _ (by simp; omega), Deep.blk_setCell_other _ _ _ _ (by simp; omega), Deep.blk_setCell_other _ _ _ _ (by simp; omega)]
        have hz : w.heap.size < wr.heap.size := by omega
        clear hF hX0 hX1 hb
        go_wp2_with fail
        refine bodyPost_ret (v := .agg #[.int .i64 e, .int .i64 0, .slice a k cap, .slice none 0 0]) (by simp [results, Tryd.results6, go_sem, e0, e1, e2, e3, hz]) rfl ⟨.slice a k cap, .slice none 0 0, rfl, ?_, ?_⟩
        · exact (HR.out _ _ _ _).1
        · exact (HR.out _ _ _ _).2
  · have hE : newP e c = ⟨0, 0, [], []⟩ := if_neg hok
    rw [hE]
    have hbad : e < 0 ∨ (¬ e < 0 ∧ 1000000 < e) ∨ (¬ e < 0 ∧ ¬ 1000000 < e ∧ c < 1) ∨ (¬ e < 0 ∧ ¬ 1000000 < e ∧ ¬ c < 1 ∧ 4 < c) := by
      unfold newOk at hok
      omega
    clear hok hE
    rcases hbad with h1 | ⟨h1, h2⟩ | ⟨h1, h2, h3⟩ | ⟨h1, h2, h3, h4⟩
    all_goals
      go_enter Tryd.func6, Tryd.ntmps6
      go_wp2_with fail
      refine bodyPost_ret (v := .agg #[.int .i64 0, .int .i64 0, .slice none 0 0, .slice none 0 0]) (by simp [results, Tryd.results6, go_sem]) rfl ⟨.slice none 0 0, .slice none 0 0, rfl, ⟨⟨by simp, .inl ⟨_, _, rfl, rfl⟩⟩, ⟨by simp, .inl ⟨_, _, rfl, rfl⟩⟩⟩, ?_⟩
      repeat refine Below.setCell ?_ (by simp) _
      exact ((Below.refl w.heap.size w).alloc (Nat.le_refl _) _).alloc (by simp) _
end Go.Proofs.YtfdefjdogmhinaaDoor.Msg

namespace Go.Proofs.YtfdefjdogmhinaaDoor.Msg
open Go.ChangeShapes Go.WideShapes Go.ChangeAt Go.RowKit
set_option linter.unusedVariables false
set_option linter.unusedSimpArgs false

def cntB (e : Int) : Bool := decide (0 ≤ e ∧ e ≤ 1000000)
theorem isCount_any (e : Int) (w : World) : Calls Tryd.prog 19 #[.int .i64 e] w fun en w' => en = .returned (.bool (cntB e)) ∧ w' = w := by
  by_cases h1 : 0 ≤ e
  · by_cases h2 : e ≤ 1000000
    · have HE : Hid (cntB e = true) := decide_eq_true ⟨h1, h2⟩
      go_enter Tryd.func19, Tryd.ntmps19
      go_wp2_with fail
      go_ret
      exact ⟨ret_bool HE.out.symm, rfl⟩
    · have HE : Hid (cntB e = false) := decide_eq_false (by omega)
      go_enter Tryd.func19, Tryd.ntmps19
      go_wp2_with fail
      go_ret
      exact ⟨ret_bool HE.out.symm, rfl⟩
  · have HE : Hid (cntB e = false) := decide_eq_false (by omega)
    go_enter Tryd.func19, Tryd.ntmps19
    go_wp2_with fail
    go_ret
    exact ⟨ret_bool HE.out.symm, rfl⟩

theorem cn0_at : ∀ (m : Nat) (h : m < 7), (cnC cn0)[m]'h = (#[Value.bool false, .string ByteArray.empty, .int .i64 0, .string ByteArray.empty, .string ByteArray.empty, .string ByteArray.empty, .int .i64 0])[m]!
  | 0, _ => rfl
  | 1, _ => rfl
  | 2, _ => rfl
  | 3, _ => rfl
  | 4, _ => rfl
  | 5, _ => rfl
  | 6, _ => rfl
set_option maxRecDepth 100000 in
set_option maxHeartbeats 4000000 in
theorem newI_any (e c : Int) (w : World) : Calls Tryd.prog 5 #[.int .i64 e, .int .i64 c] w fun en w' => ∃ cv qv b1 b2, en = .returned (plV (newP e c) cv qv) ∧ PlO w.heap.size w' (newP e c) cv qv b1 b2 ∧ Below w.heap.size w w' := by
  by_cases hok : newOk e c
  · have hE : newP e c = ⟨e, 0, List.replicate c.toNat cn0, []⟩ := if_pos hok
    rw [hE]
    obtain ⟨h1, h2, h3, h4⟩ := hok
    obtain ⟨n, rfl⟩ : ∃ n : Nat, c = (n : Int) := ⟨c.toNat, by omega⟩
    have hn4 : n ≤ 4 := by omega
    have g3 : ¬ (n : Int) < 1 := by omega
    have g4 : ¬ (4 : Int) < (n : Int) := by omega
    rw [Int.toNat_natCast]
    have HCT : Hid (cntB e = true) := decide_eq_true ⟨h1, h2⟩
    have hmk := make_rows (P := Tryd.prog) 24 37 (.agg #[.bool false, .string ByteArray.empty, .int .i64 0, .string ByteArray.empty, .string ByteArray.empty, .string ByteArray.empty, .int .i64 0]) #[.bool false, .string ByteArray.empty, .int .i64 0, .string ByteArray.empty, .string ByteArray.empty, .string ByteArray.empty, .int .i64 0] 7 88 Tryd.underlying24 info_Conn rfl n (by omega) (by omega)
    clear hE
    go_enter Tryd.func5, Tryd.ntmps5
    go_wp2_with fail
    refine (isCount_any e _).mono ?_
    rintro en W ⟨rfl, rfl⟩
    rw [HCT.out]
    go_wp2_with fail
    refine bodyPost_ret (v := .agg #[.int .i64 e, .int .i64 0, .slice (some ⟨w.heap.size + 1, 0, none⟩) n n, .slice none 0 0]) (by simp [results, Tryd.results5, go_sem]) rfl ⟨.slice (some ⟨w.heap.size + 1, 0, none⟩) n n, .slice none 0 0, [w.heap.size + 1], [], rfl, ?_, ?_⟩
    · have hrow := made_row (w.alloc (Obj.cells #[.int .i64 0, .int .i64 0, .slice none 0 0, .slice none 0 0] 27)) #[.bool false, .string ByteArray.empty, .int .i64 0, .string ByteArray.empty, .string ByteArray.empty, .string ByteArray.empty, .int .i64 0] (n * 7) 37 (by decide)
      rw [Deep.nblk_alloc] at hrow
      refine ⟨⟨by simp; omega, .inr ⟨w.heap.size + 1, 0, n, by simp, ?_, rfl, fun i hi => ?_⟩⟩, ⟨by simp, .inl ⟨_, _, rfl, rfl, rfl⟩⟩, by simp, by simp, by simp, fun i hi => by simp only [List.getElem_replicate]; exact cn0Z, by simp⟩
      · simp
      · rw [List.length_replicate] at hi
        have hi7 : i / 7 < n := by omega
        have hget : (flat cnC (List.replicate n cn0)).getD i (.int .i64 0) = (#[Value.bool false, .string ByteArray.empty, .int .i64 0, .string ByteArray.empty, .string ByteArray.empty, .string ByteArray.empty, .int .i64 0])[i % 7]! := by
          have := flat_get cnC_len (List.replicate n cn0) (i / 7) (i % 7) (by rw [List.length_replicate]; exact hi7) (by omega)
          rw [show i / 7 * 7 + i % 7 = i by omega] at this
          rw [List.getD_eq_getElem?_getD, this]
          simp only [List.getElem_replicate, Option.getD_some]
          exact cn0_at _ (by omega)
        have hcell := hrow.cell hi
        have hfz := hrow.frozen i
        simp only [hget]
        refine ⟨?_, ?_⟩
        · simp only [Nat.zero_add]
          first | exact hcell | simpa using hcell
        · simp only [Nat.zero_add]
          first | exact hfz | simp
    · repeat refine Below.setCell ?_ (by simp) _
      exact ((Below.refl w.heap.size w).alloc (Nat.le_refl _) _).alloc (by simp) _
  · have hE : newP e c = ⟨0, 0, [], []⟩ := if_neg hok
    rw [hE]
    have hfin : ∀ W, Below w.heap.size w W → ∃ cv qv b1 b2, Ending.returned (.agg #[.int .i64 0, .int .i64 0, .slice none 0 0, .slice none 0 0]) = .returned (plV ⟨0, 0, [], []⟩ cv qv) ∧ PlO w.heap.size W ⟨0, 0, [], []⟩ cv qv b1 b2 ∧ Below w.heap.size w W := fun W h => ⟨_, _, [], [], rfl, PlO.none _ _ _ _ _ _ _ _, h⟩
    have HF := hide hfin
    clear hE hfin
    by_cases hc : cntB e = true
    · have hbad : c < 1 ∨ (¬ c < 1 ∧ 4 < c) := by
        have := of_decide_eq_true hc
        unfold newOk at hok
        omega
      have HCT := hide hc
      clear hok hc
      rcases hbad with h1 | ⟨h1, h2⟩
      all_goals
        go_enter Tryd.func5, Tryd.ntmps5
        go_wp2_with fail
        refine (isCount_any e _).mono ?_
        rintro en W ⟨rfl, rfl⟩
        rw [HCT.out]
        go_wp2_with fail
        refine bodyPost_ret (v := .agg #[.int .i64 0, .int .i64 0, .slice none 0 0, .slice none 0 0]) (by simp [results, Tryd.results5, go_sem]) rfl (HF.out _ ?_)
        repeat refine Below.setCell ?_ (by simp) _
        exact ((Below.refl w.heap.size w).alloc (Nat.le_refl _) _)
    · have HCT : Hid (cntB e = false) := Bool.eq_false_iff.2 hc
      clear hok hc
      go_enter Tryd.func5, Tryd.ntmps5
      go_wp2_with fail
      refine (isCount_any e _).mono ?_
      rintro en W ⟨rfl, rfl⟩
      rw [HCT.out]
      go_wp2_with fail
      refine bodyPost_ret (v := .agg #[.int .i64 0, .int .i64 0, .slice none 0 0, .slice none 0 0]) (by simp [results, Tryd.results5, go_sem]) rfl (HF.out _ ?_)
      repeat refine Below.setCell ?_ (by simp) _
      exact ((Below.refl w.heap.size w).alloc (Nat.le_refl _) _)
end Go.Proofs.YtfdefjdogmhinaaDoor.Msg
