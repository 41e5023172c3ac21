import Derived.Test.YtfdefjdogmhinaaDoorDeskwithDeskServe
import Derived.Test.YtfdefjdogmhinaaDoorServeSwithAskS
import Derived.Test.YtfdefjdogmhinaaDoorPoolOk2withMarkSent
namespace Go.Proofs.YtfdefjdogmhinaaDoor.Msg
open Go.ChangeShapes Go.WideShapes Go.ChangeAt Go.RowKit
set_option linter.unusedVariables false
set_option linter.unusedSimpArgs false

theorem flat_one {xs : List Wn} : ∀ u ∈ flat wnC xs, u.oneCell' = true := fun u hu => by
  simp only [flat, List.mem_flatten, List.mem_map] at hu
  obtain ⟨l, ⟨x, _, rfl⟩, hu⟩ := hu
  exact wnC_one x u hu
/-- many elements more, behind one another as they lie -/
theorem appW {w : World} {xs : List Wn} {a : Addr} {cap lo : Nat} (hv : WnsAt lo w (.slice (some a) xs.length cap) xs) (hl : xs.length ≤ 1000) (ty : TypeId) :
    ∃ v' w', (Builtin.append_ #[25, 25] ty #[.slice (some ⟨w.heap.size, 0, none⟩) 0 0, .slice (some a) xs.length cap]).run Tryd.prog (w.alloc (.cells #[] 33)) = .ok v' w' ∧ FB wnC 4 33 w.heap.size w' v' xs ∧ Below w.heap.size w w' := by
  obtain ⟨i0, hi, hz0, hz1, hz2⟩ := info_parts info_Want
  have hb : Below w.heap.size w (w.alloc (.cells #[] 33)) := (Below.refl _ _).alloc (Nat.le_refl _) _
  have hnews : ∀ j u, (flat wnC xs)[j]? = some u → (w.alloc (.cells #[] 33)).cell? (a.add j) = some u := fun j u hu => by
    have hj : j < xs.length * 4 := by
      by_cases hj : j < (flat wnC xs).length
      · rw [flat_len wnC_len] at hj; exact hj
      · rw [List.getElem?_eq_none (by omega)] at hu; cases hu
    obtain ⟨b, off, e, hlt, hel, _⟩ := at_place hv (k := j / 4) (by omega)
    have e9 := Option.some.inj e
    clear e
    subst e9
    have h2 := flat_get wnC_len xs (j / 4) (j % 4) (by omega) (by omega)
    rw [show j / 4 * 4 + j % 4 = j by omega, hu] at h2
    have h2 := Option.some.inj h2
    have h3 := hel (j % 4) (by rw [wnC_len]; omega)
    rw [show off + j / 4 * 4 + j % 4 = off + j by omega, ← h2] at h3
    have e2 : ((⟨b, off, none⟩ : Addr).add j) = ⟨b, off + j, none⟩ := by
      simp only [Addr.add]
      by_cases h0 : j = 0
      · subst h0; simp
      · rw [if_neg h0]
    rw [e2, hb.cell (p := ⟨b, off + j, none⟩) hlt]
    exact h3
  obtain ⟨v', w', hr, ho, hg, _, _⟩ := run_append_own_at (P := Tryd.prog) (w := w.alloc (.cells #[] 33)) w.heap.size 25 ty 33 i0 _ 4 56 Tryd.underlying25 hi hz0 hz1 hz2 rfl (by decide) (.slice (some ⟨w.heap.size, 0, none⟩) 0 0) 0 [] (FB.lit wnC 4 33 w) a xs.length cap (flat wnC xs) (flat_len wnC_len xs) hnews flat_one (by unfold maxLen; omega) (by omega) (by rw [Deep.nblk_alloc]; omega)
  refine ⟨v', w', hr, ?_, hb.trans ⟨hg.os, hg.tape, hg.output, hg.size, fun k hk => hg.block k (by rw [Deep.nblk_alloc]; omega) fun e => ?_⟩⟩
  · unfold FB
    rw [Nat.zero_add, List.nil_append] at ho
    exact ho
  · simp [Value.ownBlock] at e
    omega

set_option maxRecDepth 100000 in
set_option maxHeartbeats 2000000 in
theorem clone_any (xs : List Wn) (v : Value) (w : World) {lo : Nat} (hv : WnsAt lo w v xs) (hl : xs.length ≤ 1000) :
    Calls Tryd.prog 40 #[v] w fun en w' => ∃ u, en = .returned u ∧ FB wnC 4 33 w.heap.size w' u xs ∧ Below w.heap.size w w' := by
  obtain ⟨a, cap, rfl, hc⟩ := hv.form
  cases a with
  | none =>
    have : xs = [] := by
      cases xs with
      | nil => rfl
      | cons x l => obtain ⟨b, off, e, _⟩ := hc 0 (by simp); cases e
    subst this
    clear hc hv
    have he : ∀ w : World, (binOp .eql 25 (.slice none 0 cap) (.slice none 0 0)).run Tryd.prog w = .ok (.bool true) w := fun _ => rfl
    simp only [List.length_nil]
    go_enter Tryd.func40, Tryd.ntmps40
    go_wp2_with fail
    go_ret
    exact ⟨_, rfl, FB.nil _ _ _ _ _, Below.refl _ _⟩
  | some a =>
    obtain ⟨v', w', hr, hF, hb⟩ := appW hv hl 25
    have HF := hide (And.intro hF hb)
    clear hc hv hF hb
    have he : ∀ w : World, (binOp .eql 25 (.slice (some a) xs.length cap) (.slice none 0 0)).run Tryd.prog w = .ok (.bool false) w := fun _ => rfl
    go_enter Tryd.func40, Tryd.ntmps40
    go_wp2_with (first | (at_builtin; refine wpList_app rfl _ _ 25 rfl hr (by first | rfl | simp [Act.eval, Act.put]) (by first | rfl | simp [Act.eval, Act.put]) ?_))
    go_ret
    exact ⟨_, rfl, HF.out.1, HF.out.2⟩
end Go.Proofs.YtfdefjdogmhinaaDoor.Msg

namespace Go.Proofs.YtfdefjdogmhinaaDoor.Msg
open Go.ChangeShapes Go.WideShapes Go.ChangeAt Go.RowKit
set_option linter.unusedVariables false
set_option linter.unusedSimpArgs false

theorem connI_any (x : Cn) (w : World) (hz : cnZ x) : Calls Tryd.prog 51 #[cnV x] w fun e w' => e = .returned (.bool (okCn x)) ∧ Below w.heap.size w w' := by
  cases hb : x.busy with
  | true => exact connB_any x w hz hb
  | false =>
    have : okCn x = zeroB x := by unfold okCn; rw [hb]; rfl
    rw [this]
    exact connZ_any x w hz hb

set_option maxRecDepth 100000 in
set_option maxHeartbeats 4000000 in
theorem indexFree_any (cs : List Cn) (cv : Value) (w : World) {lo : Nat} (hc : CnsAt lo w cv cs) :
    Calls Tryd.prog 57 #[cv, .func (.func 53) #[] #[]] w fun en w' => en = .returned (.int .i64 (freeI cs)) ∧ Below w.heap.size w w' := by
  have hl := hc.1
  obtain ⟨a1, c1, rfl, _⟩ := hc.form
  have HCV := hide hc
  clear hc
  go_enter Tryd.func57, Tryd.ntmps57
  go_wp2_with fail
  go_loopw [8] (fun i wx => ∃ k : Nat, k ≤ cs.length ∧ i = .int .i64 k ∧ (∀ i (hi : i < cs.length), i < k → cs[i].busy = true) ∧ Below w.heap.size w wx) (fun i _ => cs.length - (intOf i).toNat)
  case atStart => exact ⟨0, Nat.zero_le _, rfl, fun i hi h => absurd h (by omega), Below.refl _ _⟩
  case round =>
    obtain ⟨k, hk, rfl, hall, hb⟩ := hrel
    by_cases hlt : k < cs.length
    · obtain ⟨b, off, rfl, hbl, hel, _⟩ := at_place HCV.out hlt
      have hi : (k : Int) < (cs.length : Int) := by omega
      obtain ⟨x, hx⟩ : ∃ x, cs[k] = x := ⟨_, rfl⟩
      rw [hx] at hel
      have hown : ∀ j (hj : j < 7), wr.cell? ⟨b, off + k * 7 + j, none⟩ = some ((cnC x)[j]'(by rw [cnC_len]; exact hj)) := fun j hj => by
        rw [hb.cell (p := ⟨b, off + k * 7 + j, none⟩) hbl]
        exact hel j (by rw [cnC_len]; exact hj)
      have g0 : wr.cell? ⟨b, off + k * 7, none⟩ = some (.bool x.busy) := hown 0 (by omega)
      have g1 : wr.cell? ⟨b, off + k * 7 + 1, none⟩ = some (.string x.control) := hown 1 (by omega)
      have g2 : wr.cell? ⟨b, off + k * 7 + 2, none⟩ = some (.int .i64 x.want.client) := hown 2 (by omega)
      have g3 : wr.cell? ⟨b, off + k * 7 + 3, none⟩ = some (.string x.want.tag) := hown 3 (by omega)
      have g4 : wr.cell? ⟨b, off + k * 7 + 4, none⟩ = some (.string x.want.query) := hown 4 (by omega)
      have g5 : wr.cell? ⟨b, off + k * 7 + 5, none⟩ = some (.string x.want.pointer) := hown 5 (by omega)
      have g6 : wr.cell? ⟨b, off + k * 7 + 6, none⟩ = some (.int .i64 x.due) := hown 6 (by omega)
      have HIF := hide (fun W => isFree_any x W)
      unfold cnV at HIF
      have HB := hide hb
      cases hbz : x.busy with
      | true =>
        have HN : Hid (∀ i (hi : i < cs.length), i < k + 1 → cs[i].busy = true) := fun i hi h => by
          by_cases e1 : i = k
          · subst e1; rw [hx]; exact hbz
          · exact hall i hi (by omega)
        rw [hbz] at HIF g0
        clear hall hbz hel hown hx hb
        go_wp2_with (go_at_call 53; refine (HIF.out _).mono ?_; rintro en W2 ⟨rfl, hb2⟩)
        go_roundw
        case rel => exact ⟨k + 1, by omega, by go_num, HN.out, bjoin hb2 HB.out⟩
        case measure => simp [intOf]; omega
      | false =>
        have HN : Hid (freeI cs = (k : Int)) := by
          have := freeN_at hlt (by rw [hx]; exact hbz) hall
          unfold freeI
          rw [this, if_pos hlt]
          exact rfl
        rw [hbz] at HIF g0
        clear hall hbz hel hown hx hb
        go_wp2_with (go_at_call 53; refine (HIF.out _).mono ?_; rintro en W2 ⟨rfl, hb2⟩)
        go_ret
        exact ⟨ret_int HN.out.symm, bjoin hb2 HB.out⟩
    · have HN : Hid (freeI cs = -1) := by
        have := freeN_all (cs := cs) fun i hi => hall i hi (by omega)
        unfold freeI
        rw [this, if_neg (by omega)]
        exact rfl
      have HB := hide hb
      clear hall hb
      go_wp2_with fail
      go_ret
      exact ⟨ret_int HN.out.symm, HB.out⟩

set_option maxHeartbeats 2000000 in
theorem containsFree_any (cs : List Cn) (cv : Value) (w : World) {lo : Nat} (hc : CnsAt lo w cv cs) :
    Calls Tryd.prog 52 #[cv, .func (.func 53) #[] #[]] w fun en w' => en = .returned (.bool (decide (0 ≤ freeI cs))) ∧ Below w.heap.size w w' := by
  have HI := hide (indexFree_any cs cv w hc)
  obtain ⟨a1, c1, rfl, _⟩ := hc.form
  clear hc
  by_cases h : 0 ≤ freeI cs
  · have HE : Hid (decide (0 ≤ freeI cs) = true) := decide_eq_true h
    go_enter Tryd.func52, Tryd.ntmps52
    go_wp2_with fail
    refine HI.out.mono ?_
    rintro en W2 ⟨rfl, hb2⟩
    go_wp2_with fail
    go_ret
    exact ⟨ret_bool HE.out.symm, hb2⟩
  · have HE : Hid (decide (0 ≤ freeI cs) = false) := decide_eq_false h
    go_enter Tryd.func52, Tryd.ntmps52
    go_wp2_with fail
    refine HI.out.mono ?_
    rintro en W2 ⟨rfl, hb2⟩
    go_wp2_with fail
    go_ret
    first | exact ⟨rfl, hb2⟩ | exact ⟨ret_bool HE.out.symm, hb2⟩
theorem freeI_all {cs : List Cn} (h : ¬ 0 ≤ freeI cs) : ∀ i (hi : i < cs.length), cs[i].busy = true := fun i hi => by
  have hn : freeN cs = cs.length := by
    by_cases hlt : freeN cs < cs.length
    · exfalso; apply h; unfold freeI; rw [if_pos hlt]; omega
    · have := List.findIdx_le_length (p := fun c : Cn => !c.busy) (xs := cs); unfold freeN at *; omega
  unfold freeN at hn
  rw [List.findIdx_eq_length] at hn
  have := hn cs[i] (List.getElem_mem hi)
  simpa using this
theorem freeI_some {cs : List Cn} (h : 0 ≤ freeI cs) : ∃ k, ∃ hk : k < cs.length, cs[k].busy = false := by
  unfold freeI at h
  by_cases hlt : freeN cs < cs.length
  · refine ⟨freeN cs, hlt, ?_⟩
    have : (!(cs[freeN cs]).busy) = true := List.findIdx_getElem (p := fun c : Cn => !c.busy) (xs := cs) (w := hlt)
    simpa using this
  · rw [if_neg hlt] at h; omega

set_option maxRecDepth 100000 in
set_option maxHeartbeats 8000000 in
theorem poolOkI_any (x : Pl) (cv qv : Value) (w : World) {lo : Nat} (hp : PlAt lo w x cv qv) :
    Calls Tryd.prog 39 #[plV x cv qv] w fun en w' => en = .returned (.bool (okPl x)) ∧ Below w.heap.size w w' := by
  have HNO := hide (@okPl_head x)
  have HQ := hide (fun k hk h => @okPl_queue x k hk h)
  have HCN := hide (fun k hk h => @okPl_conn x k hk h)
  have HFR := hide (fun k hk h hq => @okPl_free x k hk h hq)
  have HYES := hide (@okPl_yes x)
  have HN := hide (@headB_no x)
  have HY := hide (@headB_yes x)
  obtain ⟨P, hP⟩ : ∃ P, okPl x = P := ⟨_, rfl⟩
  rw [hP] at HNO HQ HCN HFR HYES ⊢
  clear hP
  obtain ⟨e, n, cs, qs⟩ := x
  obtain ⟨hc, hq⟩ := hp
  simp only at hc hq HQ HCN HFR HYES HN HY
  have hl := hc.1
  have HZ1 := hide (cns_z hc)
  have HZ2 := hide (wns_z hq)
  obtain ⟨a1, c1, rfl, _⟩ := hc.form
  obtain ⟨a2, c2, rfl, _⟩ := hq.form
  have hlq := hq.1
  show Calls Tryd.prog 39 #[.agg #[.int .i64 e, .int .i64 n, .slice a1 cs.length c1, .slice a2 qs.length c2]] w fun en w' => en = .returned (.bool P) ∧ Below w.heap.size w w'
  obtain ⟨w1, hw1⟩ : ∃ w1, w.alloc (Obj.cells #[.int .i64 e, .int .i64 n, .slice a1 cs.length c1, .slice a2 qs.length c2] 27) = w1 := ⟨_, rfl⟩
  have HB0 : Hid (Below w.heap.size w w1) := by rw [← hw1]; exact (Below.refl w.heap.size w).alloc (Nat.le_refl _) _
  have HX : Hid (Box w1 w.heap.size 27 #[.int .i64 e, .int .i64 n, .slice a1 cs.length c1, .slice a2 qs.length c2]) := by rw [← hw1]; exact Box.new _ _ _
  have KS : Hid (∀ W, Below w1.heap.size w1 W → W.cell? ⟨w.heap.size, 0, none⟩ = some (.int .i64 e) ∧ W.cell? ⟨w.heap.size, 1, none⟩ = some (.int .i64 n) ∧ W.cell? ⟨w.heap.size, 2, none⟩ = some (.slice a1 cs.length c1) ∧ W.cell? ⟨w.heap.size, 3, none⟩ = some (.slice a2 qs.length c2)) := fun W hW => by
    have h := HX.out.below hW
    exact ⟨h.cell 0 (by simp), h.cell 1 (by simp), h.cell 2 (by simp), h.cell 3 (by simp)⟩
  obtain ⟨p0, p1, p2, p3⟩ := KS.out w1 (Below.refl _ _)
  have HCV := hide hc
  have HQV := hide hq
  have HCT := hide (fun z W => isCount_any z W)
  clear hc hq
  by_cases h1 : (cs.length : Int) < 1
  · have HR : Hid (P = false) := HNO.out (HN.out (by omega))
    go_enter Tryd.func39, Tryd.ntmps39
    go_wp2_with fail
    go_ret
    exact ⟨ret_bool HR.out.symm, HB0.out⟩
  by_cases h2 : (4 : Int) < (cs.length : Int)
  · have HR : Hid (P = false) := HNO.out (HN.out (by omega))
    go_enter Tryd.func39, Tryd.ntmps39
    go_wp2_with fail
    go_ret
    exact ⟨ret_bool HR.out.symm, HB0.out⟩
  have HCT1 := hide (fun W => isCount_any e W)
  have HCT2 := hide (fun W => isCount_any n W)
  cases h3 : cntB e with
  | false =>
    have HR : Hid (P = false) := HNO.out (HN.out (by have := of_decide_eq_false h3; omega))
    rw [h3] at HCT1
    clear h3
    go_enter Tryd.func39, Tryd.ntmps39
    go_wp2_with fail
    refine (HCT1.out _).mono ?_
    rintro en W ⟨rfl, hW⟩
    rw [hW]
    clear hW W
    go_wp2_with fail
    go_ret
    exact ⟨ret_bool HR.out.symm, HB0.out⟩
  | true =>
    rw [h3] at HCT1
    have h3' := of_decide_eq_true h3
    clear h3
    cases h4 : cntB n with
    | false =>
      have HR : Hid (P = false) := HNO.out (HN.out (by have := of_decide_eq_false h4; omega))
      rw [h4] at HCT2
      clear h4
      go_enter Tryd.func39, Tryd.ntmps39
      go_wp2_with fail
      refine (HCT1.out _).mono ?_
      rintro en W ⟨rfl, hW⟩
      rw [hW]
      clear hW W
      go_wp2_with fail
      refine (HCT2.out _).mono ?_
      rintro en W ⟨rfl, hW⟩
      rw [hW]
      clear hW W
      go_wp2_with fail
      go_ret
      exact ⟨ret_bool HR.out.symm, HB0.out⟩
    | true =>
      rw [h4] at HCT2
      have h4' := of_decide_eq_true h4
      clear h4
      by_cases h5 : (16 : Int) < (qs.length : Int)
      · have HR : Hid (P = false) := HNO.out (HN.out (by omega))
        go_enter Tryd.func39, Tryd.ntmps39
        go_wp2_with fail
        refine (HCT1.out _).mono ?_
        rintro en W ⟨rfl, hW⟩
        rw [hW]
        clear hW W
        go_wp2_with fail
        refine (HCT2.out _).mono ?_
        rintro en W ⟨rfl, hW⟩
        rw [hW]
        clear hW W
        go_wp2_with fail
        go_ret
        exact ⟨ret_bool HR.out.symm, HB0.out⟩
      have HHD := hide (HY.out (by omega))
      clear h3' h4'
      go_enter Tryd.func39, Tryd.ntmps39
      go_wp2_with fail
      refine (HCT1.out _).mono ?_
      rintro en W ⟨rfl, hW⟩
      rw [hW]
      clear hW W
      go_wp2_with fail
      refine (HCT2.out _).mono ?_
      rintro en W ⟨rfl, hW⟩
      rw [hW]
      clear hW W
      go_wp2_with fail
      go_loopw [38] (fun i wx => ∃ k : Nat, k ≤ cs.length ∧ i = .int .i64 k ∧ (∀ i (h : i < cs.length), i < k → okCn cs[i] = true) ∧ Below w1.heap.size w1 wx) (fun i _ => cs.length - (intOf i).toNat)
      case atStart => exact ⟨0, Nat.zero_le _, rfl, fun i hi h => absurd h (by omega), Below.refl _ _⟩
      case round =>
        obtain ⟨k, hk, rfl, hall, hb⟩ := hrel
        by_cases hlt : k < cs.length
        · obtain ⟨b, off, rfl, hbl, hel, hz⟩ := at_place HCV.out hlt
          have hi : (k : Int) < (cs.length : Int) := by omega
          have hbx := bjoin hb HB0.out
          obtain ⟨x, hx⟩ : ∃ x, cs[k] = x := ⟨_, rfl⟩
          rw [hx] at hel hz
          have hown : ∀ j (hj : j < 7), wr.cell? ⟨b, off + k * 7 + j, none⟩ = some ((cnC x)[j]'(by rw [cnC_len]; exact hj)) := fun j hj => by
            rw [hbx.cell (p := ⟨b, off + k * 7 + j, none⟩) hbl]
            exact hel j (by rw [cnC_len]; exact hj)
          have g0 : wr.cell? ⟨b, off + k * 7, none⟩ = some (.bool x.busy) := hown 0 (by omega)
          have g1 : wr.cell? ⟨b, off + k * 7 + 1, none⟩ = some (.string x.control) := hown 1 (by omega)
          have g2 : wr.cell? ⟨b, off + k * 7 + 2, none⟩ = some (.int .i64 x.want.client) := hown 2 (by omega)
          have g3 : wr.cell? ⟨b, off + k * 7 + 3, none⟩ = some (.string x.want.tag) := hown 3 (by omega)
          have g4 : wr.cell? ⟨b, off + k * 7 + 4, none⟩ = some (.string x.want.query) := hown 4 (by omega)
          have g5 : wr.cell? ⟨b, off + k * 7 + 5, none⟩ = some (.string x.want.pointer) := hown 5 (by omega)
          have g6 : wr.cell? ⟨b, off + k * 7 + 6, none⟩ = some (.int .i64 x.due) := hown 6 (by omega)
          have HCI := hide (fun W => connI_any x W hz)
          unfold cnV at HCI
          have HB := hide (hb.alloc hb.size (Obj.cells #[.bool x.busy, .string x.control, .int .i64 x.want.client, .string x.want.tag, .string x.want.query, .string x.want.pointer, .int .i64 x.due] 37))
          cases hw : okCn x with
          | true =>
            have HNX : Hid (∀ i (h : i < cs.length), i < k + 1 → okCn cs[i] = true) := fun i hi h => by
              by_cases e1 : i = k
              · subst e1; rw [hx]; exact hw
              · exact hall i hi (by omega)
            rw [hw] at HCI
            clear hel hz hx hbx hall hb hw hown
            go_wp2_with fail
            refine (HCI.out _).mono ?_
            rintro en W2 ⟨rfl, hb2⟩
            have HB2 := hide (bjoin hb2 HB.out)
            clear hb2
            go_wp2_with fail
            go_roundw
            case rel => exact ⟨k + 1, by omega, by go_num, HNX.out, HB2.out⟩
            case measure => simp [intOf]; omega
          | false =>
            have HR : Hid (P = false) := HCN.out _ hlt (by rw [hx]; exact hw)
            rw [hw] at HCI
            clear hel hz hx hbx hall hb hw hown
            go_wp2_with fail
            refine (HCI.out _).mono ?_
            rintro en W2 ⟨rfl, hb2⟩
            have HB2 := hide (bjoin (bjoin hb2 HB.out) HB0.out)
            clear hb2
            go_wp2_with fail
            go_ret
            exact ⟨ret_bool HR.out.symm, HB2.out⟩
        · have HALL : Hid (∀ i (h : i < cs.length), okCn cs[i] = true) := fun i hi => hall i hi (by omega)
          obtain ⟨q0, q1, q2, q3⟩ := KS.out _ hb
          have HB1 := hide hb
          clear hall hb
          go_wp2_with fail
          go_loopw [49] (fun i wx => ∃ k : Nat, k ≤ qs.length ∧ i = .int .i64 k ∧ (∀ i (h : i < qs.length), i < k → okWn qs[i] = true) ∧ Below w1.heap.size w1 wx) (fun i _ => qs.length - (intOf i).toNat)
          case atStart => exact ⟨0, Nat.zero_le _, rfl, fun i hi h => absurd h (by omega), HB1.out⟩
          case round =>
            obtain ⟨k, hk, rfl, hall, hb⟩ := hrel
            by_cases hlt : k < qs.length
            · obtain ⟨b, off, rfl, hbl, hel, hz⟩ := at_place HQV.out hlt
              have hi : (k : Int) < (qs.length : Int) := by omega
              have hbx := bjoin hb HB0.out
              obtain ⟨x, hx⟩ : ∃ x, qs[k] = x := ⟨_, rfl⟩
              rw [hx] at hel hz
              have g0 : wr.cell? ⟨b, off + k * 4, none⟩ = some (.int .i64 x.client) := by rw [hbx.cell (p := ⟨b, off + k * 4, none⟩) hbl]; exact hel 0 (by simp [wnC])
              have g1 : wr.cell? ⟨b, off + k * 4 + 1, none⟩ = some (.string x.tag) := by rw [hbx.cell (p := ⟨b, off + k * 4 + 1, none⟩) hbl]; exact hel 1 (by simp [wnC])
              have g2 : wr.cell? ⟨b, off + k * 4 + 2, none⟩ = some (.string x.query) := by rw [hbx.cell (p := ⟨b, off + k * 4 + 2, none⟩) hbl]; exact hel 2 (by simp [wnC])
              have g3 : wr.cell? ⟨b, off + k * 4 + 3, none⟩ = some (.string x.pointer) := by rw [hbx.cell (p := ⟨b, off + k * 4 + 3, none⟩) hbl]; exact hel 3 (by simp [wnC])
              have HWS := hide (fun W => wantI_any x W hz)
              unfold wnV at HWS
              have HB := hide (hb.alloc hb.size (Obj.cells #[.int .i64 x.client, .string x.tag, .string x.query, .string x.pointer] 33))
              cases hw : okWn x with
              | true =>
                have HNX : Hid (∀ i (h : i < qs.length), i < k + 1 → okWn qs[i] = true) := fun i hi h => by
                  by_cases e1 : i = k
                  · subst e1; rw [hx]; exact hw
                  · exact hall i hi (by omega)
                rw [hw] at HWS
                clear hel hz hx hbx hall hb hw
                go_wp2_with fail
                refine (HWS.out _).mono ?_
                rintro en W2 ⟨rfl, hb2⟩
                have HB2 := hide (bjoin hb2 HB.out)
                clear hb2
                go_wp2_with fail
                go_roundw
                case rel => exact ⟨k + 1, by omega, by go_num, HNX.out, HB2.out⟩
                case measure => simp [intOf]; omega
              | false =>
                have HR : Hid (P = false) := HQ.out _ hlt (by rw [hx]; exact hw)
                rw [hw] at HWS
                clear hel hz hx hbx hall hb hw
                go_wp2_with fail
                refine (HWS.out _).mono ?_
                rintro en W2 ⟨rfl, hb2⟩
                have HB2 := hide (bjoin (bjoin hb2 HB.out) HB0.out)
                clear hb2
                go_wp2_with fail
                go_ret
                exact ⟨ret_bool HR.out.symm, HB2.out⟩
            · have HALQ : Hid (∀ i (h : i < qs.length), okWn qs[i] = true) := fun i hi => hall i hi (by omega)
              obtain ⟨q0, q1, q2, q3⟩ := KS.out _ hb
              have HB2 := hide hb
              have HCF := hide (containsFree_any cs (.slice a1 cs.length c1) wr (At.kept kept_flat HCV.out (bjoin hb HB0.out)))
              clear hall hb
              by_cases hq0 : (qs.length : Int) = 0
              · have HR : Hid (P = true) := HYES.out HHD.out HALQ.out HALL.out (.inl (by omega))
                go_wp2_with fail
                go_ret
                exact ⟨ret_bool HR.out.symm, bjoin HB2.out HB0.out⟩
              · have hq1 : ¬ qs.length = 0 := by omega
                have hq2 : ¬ qs = [] := fun h => hq1 (by rw [h]; rfl)
                by_cases hfr : 0 ≤ freeI cs
                · have HR : Hid (P = false) := by
                    obtain ⟨k, hk, hbz⟩ := freeI_some hfr
                    exact HFR.out k hk hbz (by omega)
                  rw [decide_eq_true hfr] at HCF
                  clear hfr
                  go_wp2_with fail
                  refine HCF.out.mono ?_
                  rintro en W2 ⟨rfl, hb2⟩
                  have HB3 := hide (bjoin (bjoin hb2 HB2.out) HB0.out)
                  clear hb2
                  go_wp2_with fail
                  go_ret
                  exact ⟨ret_bool (by rw [HR.out]; first | done | rfl | simp [hq2]), HB3.out⟩
                · have HR : Hid (P = true) := HYES.out HHD.out HALQ.out HALL.out (.inr (freeI_all hfr))
                  rw [decide_eq_false hfr] at HCF
                  clear hfr
                  go_wp2_with fail
                  refine HCF.out.mono ?_
                  rintro en W2 ⟨rfl, hb2⟩
                  have HB3 := hide (bjoin (bjoin hb2 HB2.out) HB0.out)
                  clear hb2
                  go_wp2_with fail
                  go_ret
                  exact ⟨ret_bool (by rw [HR.out]; first | done | rfl | simp [hq2]), HB3.out⟩
end Go.Proofs.YtfdefjdogmhinaaDoor.Msg
