import Derived.Test.YtfeccdhadgpnkaaDoorAskIwithPoolSz
import Derived.Test.YtfeccdhadgpnkaaDoorPoolOkSwithPoolCopy
import Derived.Test.YtfeccdhadgpnkaaDoorLawNewwithMsgOk
import Derived.Test.YtfeccdhadgpnkaaDoorMsgTo2withEqPool
namespace Go.Proofs.YtfeccdhadgpnkaaDoor.Msg
open Go.ChangeShapes Go.WideShapes Go.ChangeAt Go.RowKit
set_option linter.unusedVariables false
set_option linter.unusedSimpArgs false

def wnsSz (xs : List Wn) : Nat := lenSum wnSz xs
set_option maxHeartbeats 2000000 in
theorem szWns_any (xs : List Wn) (v : Value) (left : Int) (w : World) (h0 : 0 ≤ left) (h1 : left ≤ 1048576) {lo : Nat} (hv : WnsAt lo w v xs) :
    Calls Tryd.prog 33 #[v, .int .i64 left] w fun e w' => e = .returned (.int .i64 (rest left (wnsSz xs))) ∧ Below w.heap.size w w' := by
  have hl := hv.1
  obtain ⟨a, cap, rfl, _⟩ := hv.form
  have HV := hide hv
  clear hv
  have HR : Hid (wnsSz xs = xs.length + sumOf wnSz xs) := rfl
  by_cases hfit : (xs.length : Int) ≤ left
  · have hneg : ¬ left - (xs.length : Int) < 0 := by omega
    go_enter Tryd.func33, Tryd.ntmps33
    go_wp2
    go_loopw [1, 5] (fun r i w1 => ∃ k : Nat, k ≤ xs.length ∧ i = .int .i64 k ∧ r = .int .i64 (left - xs.length - (sumOf wnSz (xs.take k) : Nat)) ∧ ((xs.length + sumOf wnSz (xs.take k) : Nat) : Int) ≤ left ∧ Below w.heap.size w w1) (fun _ i _ => xs.length - (intOf i).toNat)
    case atStart => exact ⟨0, Nat.zero_le _, rfl, by simp [sumOf], by simpa [sumOf] using hfit, Below.refl _ _⟩
    case round =>
      obtain ⟨k, hk, rfl, rfl, hs, hb⟩ := hrel
      by_cases hlt2 : k < xs.length
      · obtain ⟨b, off, rfl, hbl, hel, hz⟩ := at_place HV.out hlt2
        have HS : Hid (sumOf wnSz (xs.take (k + 1)) = sumOf wnSz (xs.take k) + wnSz xs[k]) := sum_take wnSz xs k hlt2
        have HL : Hid (sumOf wnSz (xs.take (k + 1)) ≤ sumOf wnSz xs) := sum_le wnSz xs (k + 1)
        obtain ⟨x, hx⟩ : ∃ x, xs[k] = x := ⟨_, rfl⟩
        rw [hx] at hel hz HS
        have g0 : wr.cell? ⟨b, off + k * 4, none⟩ = some (.int .i64 x.client) := by rw [hb.cell (p := ⟨b, off + k * 4, none⟩) hbl]; exact hel 0 (by simp [wnC])
        have g1 : wr.cell? ⟨b, off + k * 4 + 1, none⟩ = some (.string x.tag) := by rw [hb.cell (p := ⟨b, off + k * 4 + 1, none⟩) hbl]; exact hel 1 (by simp [wnC])
        have g2 : wr.cell? ⟨b, off + k * 4 + 2, none⟩ = some (.string x.query) := by rw [hb.cell (p := ⟨b, off + k * 4 + 2, none⟩) hbl]; exact hel 2 (by simp [wnC])
        have g3 : wr.cell? ⟨b, off + k * 4 + 3, none⟩ = some (.string x.pointer) := by rw [hb.cell (p := ⟨b, off + k * 4 + 3, none⟩) hbl]; exact hel 3 (by simp [wnC])
        have HC := hide (fun l k0 k1 W => szWn_any x l W k0 k1 hz)
        unfold wnV at HC
        have hi : (k : Int) < (xs.length : Int) := by omega
        obtain ⟨E, hE⟩ : ∃ E, wnSz x = E := ⟨_, rfl⟩
        rw [hE] at HS HC
        clear hel hx hz hE
        obtain ⟨S, hS⟩ : ∃ S, sumOf wnSz (xs.take k) = S := ⟨_, rfl⟩
        rw [hS] at hs HS ⊢
        have HSS := hide hS
        clear hS
        have HC2 := hide (HC.out (left - (xs.length : Int) - (S : Int)) (by omega) (by omega))
        have HBB := hide hb
        clear hb
        by_cases hn : ((E : Nat) : Int) ≤ left - (xs.length : Int) - (S : Int)
        · rw [rest_yes hn] at HC2
          have hnn : ¬ left - (xs.length : Int) - (S : Int) - (E : Int) < 0 := by omega
          go_wp2_with fail
          refine (HC2.out _).mono ?_
          rintro e w2 ⟨rfl, hb2⟩
          have HB3 := hide (bjoin hb2 HBB.out)
          clear hb2
          go_wp2_with fail
          go_roundw
          case rel => exact ⟨k + 1, by omega, by go_num, by rw [HS.out]; go_num, by have a := HS.out; omega, HB3.out⟩
          case measure => simp [intOf]; omega
        · rw [rest_no hn] at HC2
          go_wp2_with fail
          refine (HC2.out _).mono ?_
          rintro e w2 ⟨rfl, hb2⟩
          have HB3 := hide (bjoin hb2 HBB.out)
          clear hb2
          go_wp2_with fail
          go_ret
          exact ⟨ret_int (by have a := HS.out; have b := HL.out; rw [rest_no]; rw [HR.out]; omega), HB3.out⟩
      · have HA : Hid (sumOf wnSz (xs.take k) = sumOf wnSz xs) := sum_all wnSz xs k (by omega)
        go_wp2
        go_ret
        exact ⟨ret_int (by have a := HA.out; rw [rest_yes] <;> rw [HR.out] <;> omega), hb⟩
  · have hneg : left - (xs.length : Int) < 0 := by omega
    go_enter Tryd.func33, Tryd.ntmps33
    go_wp2
    go_ret
    exact ⟨ret_int (by rw [rest_no]; rw [HR.out]; omega), Below.refl _ _⟩
def cnsSz (xs : List Cn) : Nat := lenSum cnSz xs
set_option maxHeartbeats 2000000 in
theorem szCns_any (xs : List Cn) (v : Value) (left : Int) (w : World) (h0 : 0 ≤ left) (h1 : left ≤ 1048576) {lo : Nat} (hv : CnsAt lo w v xs) :
    Calls Tryd.prog 32 #[v, .int .i64 left] w fun e w' => e = .returned (.int .i64 (rest left (cnsSz xs))) ∧ Below w.heap.size w w' := by
  have hl := hv.1
  obtain ⟨a, cap, rfl, _⟩ := hv.form
  have HV := hide hv
  clear hv
  have HR : Hid (cnsSz xs = xs.length + sumOf cnSz xs) := rfl
  by_cases hfit : (xs.length : Int) ≤ left
  · have hneg : ¬ left - (xs.length : Int) < 0 := by omega
    go_enter Tryd.func32, Tryd.ntmps32
    go_wp2
    go_loopw [1, 5] (fun r i w1 => ∃ k : Nat, k ≤ xs.length ∧ i = .int .i64 k ∧ r = .int .i64 (left - xs.length - (sumOf cnSz (xs.take k) : Nat)) ∧ ((xs.length + sumOf cnSz (xs.take k) : Nat) : Int) ≤ left ∧ Below w.heap.size w w1) (fun _ i _ => xs.length - (intOf i).toNat)
    case atStart => exact ⟨0, Nat.zero_le _, rfl, by simp [sumOf], by simpa [sumOf] using hfit, Below.refl _ _⟩
    case round =>
      obtain ⟨k, hk, rfl, rfl, hs, hb⟩ := hrel
      by_cases hlt2 : k < xs.length
      · obtain ⟨b, off, rfl, hbl, hel, hz⟩ := at_place HV.out hlt2
        have HS : Hid (sumOf cnSz (xs.take (k + 1)) = sumOf cnSz (xs.take k) + cnSz xs[k]) := sum_take cnSz xs k hlt2
        have HL : Hid (sumOf cnSz (xs.take (k + 1)) ≤ sumOf cnSz xs) := sum_le cnSz xs (k + 1)
        obtain ⟨x, hx⟩ : ∃ x, xs[k] = x := ⟨_, rfl⟩
        rw [hx] at hel hz HS
        have g0 : wr.cell? ⟨b, off + k * 7, none⟩ = some (.bool x.busy) := by rw [hb.cell (p := ⟨b, off + k * 7, none⟩) hbl]; exact hel 0 (by simp [cnC])
        have g1 : wr.cell? ⟨b, off + k * 7 + 1, none⟩ = some (.string x.control) := by rw [hb.cell (p := ⟨b, off + k * 7 + 1, none⟩) hbl]; exact hel 1 (by simp [cnC])
        have g2 : wr.cell? ⟨b, off + k * 7 + 2, none⟩ = some (.int .i64 x.want.client) := by rw [hb.cell (p := ⟨b, off + k * 7 + 2, none⟩) hbl]; exact hel 2 (by simp [cnC])
        have g3 : wr.cell? ⟨b, off + k * 7 + 3, none⟩ = some (.string x.want.tag) := by rw [hb.cell (p := ⟨b, off + k * 7 + 3, none⟩) hbl]; exact hel 3 (by simp [cnC])
        have g4 : wr.cell? ⟨b, off + k * 7 + 4, none⟩ = some (.string x.want.query) := by rw [hb.cell (p := ⟨b, off + k * 7 + 4, none⟩) hbl]; exact hel 4 (by simp [cnC])
        have g5 : wr.cell? ⟨b, off + k * 7 + 5, none⟩ = some (.string x.want.pointer) := by rw [hb.cell (p := ⟨b, off + k * 7 + 5, none⟩) hbl]; exact hel 5 (by simp [cnC])
        have g6 : wr.cell? ⟨b, off + k * 7 + 6, none⟩ = some (.int .i64 x.due) := by rw [hb.cell (p := ⟨b, off + k * 7 + 6, none⟩) hbl]; exact hel 6 (by simp [cnC])
        have HC := hide (fun l k0 k1 W => szCn_any x l W k0 k1 hz)
        unfold cnV at HC
        have hi : (k : Int) < (xs.length : Int) := by omega
        obtain ⟨E, hE⟩ : ∃ E, cnSz x = E := ⟨_, rfl⟩
        rw [hE] at HS HC
        clear hel hx hz hE
        obtain ⟨S, hS⟩ : ∃ S, sumOf cnSz (xs.take k) = S := ⟨_, rfl⟩
        rw [hS] at hs HS ⊢
        have HSS := hide hS
        clear hS
        have HC2 := hide (HC.out (left - (xs.length : Int) - (S : Int)) (by omega) (by omega))
        have HBB := hide hb
        clear hb
        by_cases hn : ((E : Nat) : Int) ≤ left - (xs.length : Int) - (S : Int)
        · rw [rest_yes hn] at HC2
          have hnn : ¬ left - (xs.length : Int) - (S : Int) - (E : Int) < 0 := by omega
          go_wp2_with fail
          refine (HC2.out _).mono ?_
          rintro e w2 ⟨rfl, hb2⟩
          have HB3 := hide (bjoin hb2 HBB.out)
          clear hb2
          go_wp2_with fail
          go_roundw
          case rel => exact ⟨k + 1, by omega, by go_num, by rw [HS.out]; go_num, by have a := HS.out; omega, HB3.out⟩
          case measure => simp [intOf]; omega
        · rw [rest_no hn] at HC2
          go_wp2_with fail
          refine (HC2.out _).mono ?_
          rintro e w2 ⟨rfl, hb2⟩
          have HB3 := hide (bjoin hb2 HBB.out)
          clear hb2
          go_wp2_with fail
          go_ret
          exact ⟨ret_int (by have a := HS.out; have b := HL.out; rw [rest_no]; rw [HR.out]; omega), HB3.out⟩
      · have HA : Hid (sumOf cnSz (xs.take k) = sumOf cnSz xs) := sum_all cnSz xs k (by omega)
        go_wp2
        go_ret
        exact ⟨ret_int (by have a := HA.out; rw [rest_yes] <;> rw [HR.out] <;> omega), hb⟩
  · have hneg : left - (xs.length : Int) < 0 := by omega
    go_enter Tryd.func32, Tryd.ntmps32
    go_wp2
    go_ret
    exact ⟨ret_int (by rw [rest_no]; rw [HR.out]; omega), Below.refl _ _⟩
def plSz (x : Pl) : Nat := cnsSz x.conns + wnsSz x.queue
set_option maxHeartbeats 2000000 in
theorem szPl_any (x : Pl) (cv qv : Value) (left : Int) (w : World) (h0 : 0 ≤ left) (h1 : left ≤ 1048576) {l1 l2 : Nat} (hc : CnsAt l1 w cv x.conns) (hq : WnsAt l2 w qv x.queue) :
    Calls Tryd.prog 7 #[plV x cv qv, .int .i64 left] w fun e w' => e = .returned (.int .i64 (rest left (plSz x))) ∧ Below w.heap.size w w' := by
  obtain ⟨epoch, next, conns, queue⟩ := x
  simp only at hc hq
  have HS : Hid (plSz ⟨epoch, next, conns, queue⟩ = cnsSz conns + wnsSz queue) := rfl
  have hb0 := (Below.refl w.heap.size w).alloc (Nat.le_refl _) (Obj.cells #[.int .i64 epoch, .int .i64 next, cv, qv] 25)
  have H1 := hide (szCns_any conns cv left _ h0 h1 (At.kept kept_flat hc hb0))
  have H2 := hide (fun l k0 k1 W hW => szWns_any queue qv l W k0 k1 (At.kept kept_flat hq (w' := W) hW))
  obtain ⟨a1, n1, rfl, _⟩ := hc.form
  obtain ⟨a2, n2, rfl, _⟩ := hq.form
  show Calls Tryd.prog 7 #[.agg #[.int .i64 epoch, .int .i64 next, .slice a1 conns.length n1, .slice a2 queue.length n2], .int .i64 left] w _
  have HB0 := hide hb0
  generalize cnsSz conns = A at HS H1
  generalize wnsSz queue = B at HS H2
  clear hc hq hb0
  by_cases ha : (A : Int) ≤ left
  · rw [rest_yes ha] at H1
    have hn1 : ¬ left - (A : Int) < 0 := by omega
    have H3 := hide (H2.out (left - (A : Int)) (by omega) (by omega))
    by_cases hb : (B : Int) ≤ left - (A : Int)
    · rw [rest_yes hb] at H3
      have hn2 : ¬ left - (A : Int) - (B : Int) < 0 := by omega
      have HX := hide (show rest left (plSz ⟨epoch, next, conns, queue⟩) = left - A - B by rw [rest_yes (by rw [HS.out]; omega), HS.out]; omega)
      go_enter Tryd.func7, Tryd.ntmps7
      go_wp2_with fail
      refine H1.out.mono ?_
      rintro e w4 ⟨rfl, hb4⟩
      obtain ⟨hc4, hf4⟩ := bcells hb4
      have HB4 := hide (HB0.out.trans (hb4.mono (by simp)))
      clear hb4
      go_wp2_with fail
      refine (H3.out _ HB4.out).mono ?_
      rintro e w5 ⟨rfl, hb5⟩
      have HB5 := hide (bjoin hb5 HB4.out)
      clear hb5
      go_wp2_with fail
      go_ret
      exact ⟨ret_int HX.out.symm, HB5.out⟩
    · rw [rest_no hb] at H3
      have HX := hide (show rest left (plSz ⟨epoch, next, conns, queue⟩) = -1 from rest_no (by rw [HS.out]; omega))
      go_enter Tryd.func7, Tryd.ntmps7
      go_wp2_with fail
      refine H1.out.mono ?_
      rintro e w4 ⟨rfl, hb4⟩
      obtain ⟨hc4, hf4⟩ := bcells hb4
      have HB4 := hide (HB0.out.trans (hb4.mono (by simp)))
      clear hb4
      go_wp2_with fail
      refine (H3.out _ HB4.out).mono ?_
      rintro e w5 ⟨rfl, hb5⟩
      have HB5 := hide (bjoin hb5 HB4.out)
      clear hb5
      go_wp2_with fail
      go_ret
      exact ⟨ret_int HX.out.symm, HB5.out⟩
  · rw [rest_no ha] at H1
    have HX := hide (show rest left (plSz ⟨epoch, next, conns, queue⟩) = -1 from rest_no (by rw [HS.out]; omega))
    go_enter Tryd.func7, Tryd.ntmps7
    go_wp2_with fail
    refine H1.out.mono ?_
    rintro e w4 ⟨rfl, hb4⟩
    have HB4 := hide (HB0.out.trans (hb4.mono (by simp)))
    clear hb4
    go_wp2_with fail
    go_ret
    exact ⟨ret_int HX.out.symm, HB4.out⟩
end Go.Proofs.YtfeccdhadgpnkaaDoor.Msg

namespace Go.Proofs.YtfeccdhadgpnkaaDoor.Msg
open Go.ChangeShapes Go.WideShapes Go.ChangeAt Go.RowKit
set_option linter.unusedVariables false
set_option linter.unusedSimpArgs false

set_option maxHeartbeats 2000000 in
theorem toWn_any (x : Wn) (w : World) : Calls Tryd.prog 11 #[wnV x] w fun e w' => e = .returned (wnV x) ∧ Below w.heap.size w w' := by
  obtain ⟨client, tag, query, pointer⟩ := x
  show Calls Tryd.prog 11 #[.agg #[.int .i64 client, .string tag, .string query, .string pointer]] w _
  go_enter Tryd.func11, Tryd.ntmps11
  go_wp2_with fail
  refine bodyPost_ret (v := .agg #[.int .i64 client, .string tag, .string query, .string pointer]) (by simp [results, Tryd.results11, go_sem]) rfl ⟨rfl, ?_⟩
  repeat refine Below.setCell ?_ (by simp; try omega) _
  exact (((Below.refl w.heap.size w).alloc (Nat.le_refl _) _).alloc (by simp) _).alloc (by simp; omega) _
set_option maxHeartbeats 4000000 in
theorem toCn_any (x : Cn) (w : World) : Calls Tryd.prog 65 #[cnV x] w fun e w' => e = .returned (cnV x) ∧ Below w.heap.size w w' := by
  obtain ⟨busy, control, ⟨client, tag, query, pointer⟩, due⟩ := x
  show Calls Tryd.prog 65 #[.agg #[.bool busy, .string control, .int .i64 client, .string tag, .string query, .string pointer, .int .i64 due]] w _
  have HTO := hide (toWn_any ⟨client, tag, query, pointer⟩)
  unfold wnV at HTO
  simp only at HTO
  have HB0 := hide ((((Below.refl w.heap.size w).alloc (Nat.le_refl _) (Obj.cells #[.bool busy, .string control, .int .i64 client, .string tag, .string query, .string pointer, .int .i64 due] 100)).alloc (by simp) (Obj.cells #[.bool false, .string ⟨#[]⟩, .int .i64 0, .string ⟨#[]⟩, .string ⟨#[]⟩, .string ⟨#[]⟩, .int .i64 0] 85)).alloc (by simp; omega) (Obj.cells #[.bool busy, .string control, .int .i64 0, .string ⟨#[]⟩, .string ⟨#[]⟩, .string ⟨#[]⟩, .int .i64 0] 85))
  go_enter Tryd.func65, Tryd.ntmps65
  go_wp2_with fail
  refine (HTO.out _).mono ?_
  rintro e w4 ⟨rfl, hb⟩
  obtain ⟨hc, hf⟩ := bcells hb
  have hz : w.heap.size + 2 < w4.heap.size := by have := hb.size; simp at this; omega
  have HB := hide hb
  clear hb
  go_wp2_with fail
  refine bodyPost_ret (v := .agg #[.bool busy, .string control, .int .i64 client, .string tag, .string query, .string pointer, .int .i64 due]) (by simp [results, Tryd.results65, go_sem, hc, hz]) rfl ⟨rfl, ?_⟩
  have h0 := HB0.out.trans (HB.out.mono (by simp; omega))
  repeat refine Below.setCell ?_ (by simp; try omega) _
  exact h0
/-- a row of new elements, the first k of them filled -/
def FillR {α : Type} (C : α → List Value) (c : Nat) (w : World) (t : TypeId) (xs : List α) (k : Nat) (w1 : World) : Prop :=
  (∃ f, w1.rowIs w.heap.size t (xs.length * c) f ∧ ∀ j (h : j < xs.length), j < k → ∀ q (hq : q < (C xs[j]).length), f (j * c + q) = (C xs[j])[q]) ∧ Below w.heap.size w w1
theorem FillR.fo {α : Type} {C : α → List Value} {c : Nat} (hC : ∀ x, (C x).length = c) (hc : 0 < c) {w w1 : World} {t : TypeId} {xs : List α} {cap : Nat} (hl : xs.length ≤ 9223372036854775807) (h : FillR C c w t xs xs.length w1) :
    FO C c w1 (.slice (some ⟨w.heap.size, 0, none⟩) xs.length cap) xs [w.heap.size] := by
  obtain ⟨⟨f, hrow, hel⟩, hb⟩ := h
  refine ⟨hl, .inr ⟨w.heap.size, 0, cap, rfl, hrow.lt, rfl, fun i hi => ⟨?_, ?_⟩⟩⟩
  · have hq : i / c < xs.length := (Nat.div_lt_iff_lt_mul hc).2 hi
    have hm : i % c < c := Nat.mod_lt _ hc
    have e1 : i / c * c + i % c = i := Nat.div_add_mod' i c
    have h1 := hel (i / c) hq hq (i % c) (by rw [hC]; exact hm)
    rw [e1] at h1
    have h2 := flat_get hC xs (i / c) (i % c) hq hm
    rw [e1] at h2
    simp only [List.getD_eq_getElem?_getD, h2, Option.getD_some]
    rw [Nat.zero_add, hrow.cell hi, h1]
  · rw [Nat.zero_add]; exact hrow.frozen i
theorem fillWn_step {w wr w2 : World} {xs : List Wn} {k : Nat} (h : FillR wnC 4 w 38 xs k wr) (hb2 : Below wr.heap.size wr w2) (hk : k < xs.length) :
    FillR wnC 4 w 38 xs (k + 1) ((((w2.setCell ⟨w.heap.size, k * 4, none⟩ (.int .i64 xs[k].client)).setCell ⟨w.heap.size, k * 4 + 1, none⟩ (.string xs[k].tag)).setCell ⟨w.heap.size, k * 4 + 2, none⟩ (.string xs[k].query)).setCell ⟨w.heap.size, k * 4 + 3, none⟩ (.string xs[k].pointer)) := by
  obtain ⟨⟨f, hrow, hel⟩, hb⟩ := h
  have hlt := hrow.lt
  have hrow2 := hrow.of_block (hb2.block _ hlt)
  refine ⟨⟨_, ((((hrow2.set (k * 4) (.int .i64 xs[k].client)).set (k * 4 + 1) (.string xs[k].tag)).set (k * 4 + 2) (.string xs[k].query)).set (k * 4 + 3) (.string xs[k].pointer)), fun j hj hjk q hq => ?_⟩, (((((hb.trans (hb2.mono hb.size)).setCell (by simp) _).setCell (by simp) _).setCell (by simp) _).setCell (by simp) _)⟩
  rw [wnC_len] at hq
  by_cases e : j = k
  · subst e
    match q, hq with
    | 0, _ => rw [if_neg (by omega), if_neg (by omega), if_neg (by omega), if_pos (by omega)]; rfl
    | 1, _ => rw [if_neg (by omega), if_neg (by omega), if_pos (by omega)]; rfl
    | 2, _ => rw [if_neg (by omega), if_pos (by omega)]; rfl
    | 3, _ => rw [if_pos (by omega)]; rfl
  · have h0 := hel j hj (by omega) q (by rw [wnC_len]; exact hq)
    rw [if_neg (by omega), if_neg (by omega), if_neg (by omega), if_neg (by omega)]
    exact h0
set_option maxHeartbeats 4000000 in
theorem toWns_any (xs : List Wn) (v : Value) (w : World) (hn : xs.length ≤ 1048576) {lo : Nat} (hv : WnsAt lo w v xs) :
    Calls Tryd.prog 41 #[v] w fun e w' => ∃ u, e = .returned u ∧ FO wnC 4 w' u xs [w.heap.size] ∧ Below w.heap.size w w' := by
  have hl := hv.1
  obtain ⟨a, cap, rfl, _⟩ := hv.form
  have HV := hide hv
  clear hv
  have hmk := make_rows (P := Tryd.prog) 31 38 (.agg #[.int .i64 0, .string ByteArray.empty, .string ByteArray.empty, .string ByteArray.empty]) #[.int .i64 0, .string ByteArray.empty, .string ByteArray.empty, .string ByteArray.empty] 4 56 Tryd.underlying31 info_Want rfl xs.length (by omega) (by omega)
  have hrow0 : FillR wnC 4 w 38 xs 0 (w.alloc (Obj.cells (madeCells #[.int .i64 0, .string ByteArray.empty, .string ByteArray.empty, .string ByteArray.empty] (xs.length * 4)) 38)) :=
    ⟨⟨_, made_row w #[.int .i64 0, .string ByteArray.empty, .string ByteArray.empty, .string ByteArray.empty] (xs.length * 4) 38 (by decide), fun j _ h => absurd h (by omega)⟩, (Below.refl _ _).alloc (Nat.le_refl _) _⟩
  go_enter Tryd.func41, Tryd.ntmps41
  go_wp2
  go_loopw [4] (fun i w1 => ∃ k : Nat, k ≤ xs.length ∧ i = .int .i64 k ∧ FillR wnC 4 w 38 xs k w1) (fun i _ => xs.length - (intOf i).toNat)
  case atStart => exact ⟨0, Nat.zero_le _, rfl, hrow0⟩
  case round =>
    obtain ⟨k, hk, rfl, hfil⟩ := hrel
    by_cases hlt : k < xs.length
    · obtain ⟨b, off, rfl, hbl, hel, _⟩ := at_place HV.out hlt
      have hb := hfil.2
      have d0 : wr.cell? ⟨b, off + k * 4, none⟩ = some (.int .i64 xs[k].client) := by rw [hb.cell (p := ⟨b, off + k * 4, none⟩) hbl]; exact hel 0 (by simp [wnC])
      have d1 : wr.cell? ⟨b, off + k * 4 + 1, none⟩ = some (.string xs[k].tag) := by rw [hb.cell (p := ⟨b, off + k * 4 + 1, none⟩) hbl]; exact hel 1 (by simp [wnC])
      have d2 : wr.cell? ⟨b, off + k * 4 + 2, none⟩ = some (.string xs[k].query) := by rw [hb.cell (p := ⟨b, off + k * 4 + 2, none⟩) hbl]; exact hel 2 (by simp [wnC])
      have d3 : wr.cell? ⟨b, off + k * 4 + 3, none⟩ = some (.string xs[k].pointer) := by rw [hb.cell (p := ⟨b, off + k * 4 + 3, none⟩) hbl]; exact hel 3 (by simp [wnC])
      clear hel
      obtain ⟨f, hrow, _⟩ := hfil.1
      have r0 := hrow.cell (i := k * 4) (by omega)
      have f0 := hrow.frozen (k * 4)
      have r1 := hrow.cell (i := k * 4 + 1) (by omega)
      have f1 := hrow.frozen (k * 4 + 1)
      have r2 := hrow.cell (i := k * 4 + 2) (by omega)
      have f2 := hrow.frozen (k * 4 + 2)
      have r3 := hrow.cell (i := k * 4 + 3) (by omega)
      have f3 := hrow.frozen (k * 4 + 3)
      have hB := hrow.lt
      have HFIL := hide hfil
      have hi : (k : Int) < (xs.length : Int) := by omega
      clear hfil hb hrow hmk hrow0
      have HTO := hide (fun W => toWn_any xs[k] W)
      unfold wnV at HTO
      go_wp2_with fail
      refine (HTO.out _).mono ?_
      rintro e w2 ⟨rfl, hb2⟩
      have h0 : w2.cell? ⟨w.heap.size, k * 4, none⟩ = some (f (k * 4)) := by rw [hb2.cell (p := ⟨w.heap.size, k * 4, none⟩) hB]; exact r0
      have e0 : w2.frozen? ⟨w.heap.size, k * 4, none⟩ = false := by rw [hb2.frozen (p := ⟨w.heap.size, k * 4, none⟩) hB]; exact f0
      have h1 : w2.cell? ⟨w.heap.size, k * 4 + 1, none⟩ = some (f (k * 4 + 1)) := by rw [hb2.cell (p := ⟨w.heap.size, k * 4 + 1, none⟩) hB]; exact r1
      have e1 : w2.frozen? ⟨w.heap.size, k * 4 + 1, none⟩ = false := by rw [hb2.frozen (p := ⟨w.heap.size, k * 4 + 1, none⟩) hB]; exact f1
      have h2 : w2.cell? ⟨w.heap.size, k * 4 + 2, none⟩ = some (f (k * 4 + 2)) := by rw [hb2.cell (p := ⟨w.heap.size, k * 4 + 2, none⟩) hB]; exact r2
      have e2 : w2.frozen? ⟨w.heap.size, k * 4 + 2, none⟩ = false := by rw [hb2.frozen (p := ⟨w.heap.size, k * 4 + 2, none⟩) hB]; exact f2
      have h3 : w2.cell? ⟨w.heap.size, k * 4 + 3, none⟩ = some (f (k * 4 + 3)) := by rw [hb2.cell (p := ⟨w.heap.size, k * 4 + 3, none⟩) hB]; exact r3
      have e3 : w2.frozen? ⟨w.heap.size, k * 4 + 3, none⟩ = false := by rw [hb2.frozen (p := ⟨w.heap.size, k * 4 + 3, none⟩) hB]; exact f3
      have HFIN := hide (fillWn_step HFIL.out hb2 hlt)
      clear hb2 d0 r0 f0 d1 r1 f1 d2 r2 f2 d3 r3 f3
      go_wp2_with fail
      go_roundw
      case rel => exact ⟨k + 1, by omega, by go_num, HFIN.out⟩
      case measure => simp [intOf]; omega
    · obtain rfl : k = xs.length := by omega
      go_wp2
      go_ret
      exact ⟨_, rfl, FillR.fo wnC_len (by decide) hl hfil, hfil.2⟩
theorem fillCn_step {w wr w2 : World} {xs : List Cn} {k : Nat} (h : FillR cnC 7 w 85 xs k wr) (hb2 : Below wr.heap.size wr w2) (hk : k < xs.length) :
    FillR cnC 7 w 85 xs (k + 1) (((((((w2.setCell ⟨w.heap.size, k * 7, none⟩ (.bool xs[k].busy)).setCell ⟨w.heap.size, k * 7 + 1, none⟩ (.string xs[k].control)).setCell ⟨w.heap.size, k * 7 + 2, none⟩ (.int .i64 xs[k].want.client)).setCell ⟨w.heap.size, k * 7 + 3, none⟩ (.string xs[k].want.tag)).setCell ⟨w.heap.size, k * 7 + 4, none⟩ (.string xs[k].want.query)).setCell ⟨w.heap.size, k * 7 + 5, none⟩ (.string xs[k].want.pointer)).setCell ⟨w.heap.size, k * 7 + 6, none⟩ (.int .i64 xs[k].due)) := by
  obtain ⟨⟨f, hrow, hel⟩, hb⟩ := h
  have hlt := hrow.lt
  have hrow2 := hrow.of_block (hb2.block _ hlt)
  refine ⟨⟨_, (((((((hrow2.set (k * 7) (.bool xs[k].busy)).set (k * 7 + 1) (.string xs[k].control)).set (k * 7 + 2) (.int .i64 xs[k].want.client)).set (k * 7 + 3) (.string xs[k].want.tag)).set (k * 7 + 4) (.string xs[k].want.query)).set (k * 7 + 5) (.string xs[k].want.pointer)).set (k * 7 + 6) (.int .i64 xs[k].due)), fun j hj hjk q hq => ?_⟩, ((((((((hb.trans (hb2.mono hb.size)).setCell (by simp) _).setCell (by simp) _).setCell (by simp) _).setCell (by simp) _).setCell (by simp) _).setCell (by simp) _).setCell (by simp) _)⟩
  rw [cnC_len] at hq
  by_cases e : j = k
  · subst e
    match q, hq with
    | 0, _ => rw [if_neg (by omega), if_neg (by omega), if_neg (by omega), if_neg (by omega), if_neg (by omega), if_neg (by omega), if_pos (by omega)]; rfl
    | 1, _ => rw [if_neg (by omega), if_neg (by omega), if_neg (by omega), if_neg (by omega), if_neg (by omega), if_pos (by omega)]; rfl
    | 2, _ => rw [if_neg (by omega), if_neg (by omega), if_neg (by omega), if_neg (by omega), if_pos (by omega)]; rfl
    | 3, _ => rw [if_neg (by omega), if_neg (by omega), if_neg (by omega), if_pos (by omega)]; rfl
    | 4, _ => rw [if_neg (by omega), if_neg (by omega), if_pos (by omega)]; rfl
    | 5, _ => rw [if_neg (by omega), if_pos (by omega)]; rfl
    | 6, _ => rw [if_pos (by omega)]; rfl
  · have h0 := hel j hj (by omega) q (by rw [cnC_len]; exact hq)
    rw [if_neg (by omega), if_neg (by omega), if_neg (by omega), if_neg (by omega), if_neg (by omega), if_neg (by omega), if_neg (by omega)]
    exact h0
set_option maxHeartbeats 4000000 in
theorem toCns_any (xs : List Cn) (v : Value) (w : World) (hn : xs.length ≤ 1048576) {lo : Nat} (hv : CnsAt lo w v xs) :
    Calls Tryd.prog 40 #[v] w fun e w' => ∃ u, e = .returned u ∧ FO cnC 7 w' u xs [w.heap.size] ∧ Below w.heap.size w w' := by
  have hl := hv.1
  obtain ⟨a, cap, rfl, _⟩ := hv.form
  have HV := hide hv
  clear hv
  have hmk := make_rows (P := Tryd.prog) 30 85 (.agg #[.bool false, .string ByteArray.empty, .int .i64 0, .string ByteArray.empty, .string ByteArray.empty, .string ByteArray.empty, .int .i64 0]) #[.bool false, .string ByteArray.empty, .int .i64 0, .string ByteArray.empty, .string ByteArray.empty, .string ByteArray.empty, .int .i64 0] 7 88 Tryd.underlying30 info_Conn rfl xs.length (by omega) (by omega)
  have hrow0 : FillR cnC 7 w 85 xs 0 (w.alloc (Obj.cells (madeCells #[.bool false, .string ByteArray.empty, .int .i64 0, .string ByteArray.empty, .string ByteArray.empty, .string ByteArray.empty, .int .i64 0] (xs.length * 7)) 85)) :=
    ⟨⟨_, made_row w #[.bool false, .string ByteArray.empty, .int .i64 0, .string ByteArray.empty, .string ByteArray.empty, .string ByteArray.empty, .int .i64 0] (xs.length * 7) 85 (by decide), fun j _ h => absurd h (by omega)⟩, (Below.refl _ _).alloc (Nat.le_refl _) _⟩
  go_enter Tryd.func40, Tryd.ntmps40
  go_wp2
  go_loopw [4] (fun i w1 => ∃ k : Nat, k ≤ xs.length ∧ i = .int .i64 k ∧ FillR cnC 7 w 85 xs k w1) (fun i _ => xs.length - (intOf i).toNat)
  case atStart => exact ⟨0, Nat.zero_le _, rfl, hrow0⟩
  case round =>
    obtain ⟨k, hk, rfl, hfil⟩ := hrel
    by_cases hlt : k < xs.length
    · obtain ⟨b, off, rfl, hbl, hel, _⟩ := at_place HV.out hlt
      have hb := hfil.2
      have d0 : wr.cell? ⟨b, off + k * 7, none⟩ = some (.bool xs[k].busy) := by rw [hb.cell (p := ⟨b, off + k * 7, none⟩) hbl]; exact hel 0 (by simp [cnC])
      have d1 : wr.cell? ⟨b, off + k * 7 + 1, none⟩ = some (.string xs[k].control) := by rw [hb.cell (p := ⟨b, off + k * 7 + 1, none⟩) hbl]; exact hel 1 (by simp [cnC])
      have d2 : wr.cell? ⟨b, off + k * 7 + 2, none⟩ = some (.int .i64 xs[k].want.client) := by rw [hb.cell (p := ⟨b, off + k * 7 + 2, none⟩) hbl]; exact hel 2 (by simp [cnC])
      have d3 : wr.cell? ⟨b, off + k * 7 + 3, none⟩ = some (.string xs[k].want.tag) := by rw [hb.cell (p := ⟨b, off + k * 7 + 3, none⟩) hbl]; exact hel 3 (by simp [cnC])
      have d4 : wr.cell? ⟨b, off + k * 7 + 4, none⟩ = some (.string xs[k].want.query) := by rw [hb.cell (p := ⟨b, off + k * 7 + 4, none⟩) hbl]; exact hel 4 (by simp [cnC])
      have d5 : wr.cell? ⟨b, off + k * 7 + 5, none⟩ = some (.string xs[k].want.pointer) := by rw [hb.cell (p := ⟨b, off + k * 7 + 5, none⟩) hbl]; exact hel 5 (by simp [cnC])
      have d6 : wr.cell? ⟨b, off + k * 7 + 6, none⟩ = some (.int .i64 xs[k].due) := by rw [hb.cell (p := ⟨b, off + k * 7 + 6, none⟩) hbl]; exact hel 6 (by simp [cnC])
      clear hel
      obtain ⟨f, hrow, _⟩ := hfil.1
      have r0 := hrow.cell (i := k * 7) (by omega)
      have f0 := hrow.frozen (k * 7)
      have r1 := hrow.cell (i := k * 7 + 1) (by omega)
      have f1 := hrow.frozen (k * 7 + 1)
      have r2 := hrow.cell (i := k * 7 + 2) (by omega)
      have f2 := hrow.frozen (k * 7 + 2)
      have r3 := hrow.cell (i := k * 7 + 3) (by omega)
      have f3 := hrow.frozen (k * 7 + 3)
      have r4 := hrow.cell (i := k * 7 + 4) (by omega)
      have f4 := hrow.frozen (k * 7 + 4)
      have r5 := hrow.cell (i := k * 7 + 5) (by omega)
      have f5 := hrow.frozen (k * 7 + 5)
      have r6 := hrow.cell (i := k * 7 + 6) (by omega)
      have f6 := hrow.frozen (k * 7 + 6)
      have hB := hrow.lt
      have HFIL := hide hfil
      have hi : (k : Int) < (xs.length : Int) := by omega
      clear hfil hb hrow hmk hrow0
      have HTO := hide (fun W => toCn_any xs[k] W)
      unfold cnV at HTO
      go_wp2_with fail
      refine (HTO.out _).mono ?_
      rintro e w2 ⟨rfl, hb2⟩
      have h0 : w2.cell? ⟨w.heap.size, k * 7, none⟩ = some (f (k * 7)) := by rw [hb2.cell (p := ⟨w.heap.size, k * 7, none⟩) hB]; exact r0
      have e0 : w2.frozen? ⟨w.heap.size, k * 7, none⟩ = false := by rw [hb2.frozen (p := ⟨w.heap.size, k * 7, none⟩) hB]; exact f0
      have h1 : w2.cell? ⟨w.heap.size, k * 7 + 1, none⟩ = some (f (k * 7 + 1)) := by rw [hb2.cell (p := ⟨w.heap.size, k * 7 + 1, none⟩) hB]; exact r1
      have e1 : w2.frozen? ⟨w.heap.size, k * 7 + 1, none⟩ = false := by rw [hb2.frozen (p := ⟨w.heap.size, k * 7 + 1, none⟩) hB]; exact f1
      have h2 : w2.cell? ⟨w.heap.size, k * 7 + 2, none⟩ = some (f (k * 7 + 2)) := by rw [hb2.cell (p := ⟨w.heap.size, k * 7 + 2, none⟩) hB]; exact r2
      have e2 : w2.frozen? ⟨w.heap.size, k * 7 + 2, none⟩ = false := by rw [hb2.frozen (p := ⟨w.heap.size, k * 7 + 2, none⟩) hB]; exact f2
      have h3 : w2.cell? ⟨w.heap.size, k * 7 + 3, none⟩ = some (f (k * 7 + 3)) := by rw [hb2.cell (p := ⟨w.heap.size, k * 7 + 3, none⟩) hB]; exact r3
      have e3 : w2.frozen? ⟨w.heap.size, k * 7 + 3, none⟩ = false := by rw [hb2.frozen (p := ⟨w.heap.size, k * 7 + 3, none⟩) hB]; exact f3
      have h4 : w2.cell? ⟨w.heap.size, k * 7 + 4, none⟩ = some (f (k * 7 + 4)) := by rw [hb2.cell (p := ⟨w.heap.size, k * 7 + 4, none⟩) hB]; exact r4
      have e4 : w2.frozen? ⟨w.heap.size, k * 7 + 4, none⟩ = false := by rw [hb2.frozen (p := ⟨w.heap.size, k * 7 + 4, none⟩) hB]; exact f4
      have h5 : w2.cell? ⟨w.heap.size, k * 7 + 5, none⟩ = some (f (k * 7 + 5)) := by rw [hb2.cell (p := ⟨w.heap.size, k * 7 + 5, none⟩) hB]; exact r5
      have e5 : w2.frozen? ⟨w.heap.size, k * 7 + 5, none⟩ = false := by rw [hb2.frozen (p := ⟨w.heap.size, k * 7 + 5, none⟩) hB]; exact f5
      have h6 : w2.cell? ⟨w.heap.size, k * 7 + 6, none⟩ = some (f (k * 7 + 6)) := by rw [hb2.cell (p := ⟨w.heap.size, k * 7 + 6, none⟩) hB]; exact r6
      have e6 : w2.frozen? ⟨w.heap.size, k * 7 + 6, none⟩ = false := by rw [hb2.frozen (p := ⟨w.heap.size, k * 7 + 6, none⟩) hB]; exact f6
      have HFIN := hide (fillCn_step HFIL.out hb2 hlt)
      clear hb2 d0 r0 f0 d1 r1 f1 d2 r2 f2 d3 r3 f3 d4 r4 f4 d5 r5 f5 d6 r6 f6
      go_wp2_with fail
      go_roundw
      case rel => exact ⟨k + 1, by omega, by go_num, HFIN.out⟩
      case measure => simp [intOf]; omega
    · obtain rfl : k = xs.length := by omega
      go_wp2
      go_ret
      exact ⟨_, rfl, FillR.fo cnC_len (by decide) hl hfil, hfil.2⟩
set_option maxRecDepth 100000 in
set_option maxHeartbeats 4000000 in
theorem toPl_any (x : Pl) (cv qv : Value) (w : World) {l1 l2 : Nat} (hc : CnsAt l1 w cv x.conns) (hq : WnsAt l2 w qv x.queue) (hn1 : x.conns.length ≤ 1048576) (hn2 : x.queue.length ≤ 1048576) :
    Calls Tryd.prog 10 #[plV x cv qv] w fun e w' => ∃ cv2 qv2 b1 b2, e = .returned (plV x cv2 qv2) ∧ PlO w.heap.size w' x cv2 qv2 b1 b2 ∧ Below w.heap.size w w' := by
  obtain ⟨epoch, next, conns, queue⟩ := x
  simp only at hc hq hn1 hn2
  have HZ1 := hide (cns_z hc)
  have HZ2 := hide (wns_z hq)
  have HC := hide hc
  have HQ := hide hq
  obtain ⟨a1, n1, rfl, _⟩ := hc.form
  obtain ⟨a2, n2, rfl, _⟩ := hq.form
  show Calls Tryd.prog 10 #[.agg #[.int .i64 epoch, .int .i64 next, .slice a1 conns.length n1, .slice a2 queue.length n2]] w _
  obtain ⟨w1, hw1⟩ : ∃ w1, ((w.alloc (Obj.cells #[.int .i64 epoch, .int .i64 next, .slice a1 conns.length n1, .slice a2 queue.length n2] 25)).alloc (Obj.cells #[.int .i64 0, .int .i64 0, .slice none 0 0, .slice none 0 0] 33)).alloc (Obj.cells #[.int .i64 epoch, .int .i64 next, .slice none 0 0, .slice none 0 0] 33) = w1 := ⟨_, rfl⟩
  have hb1 : Below w.heap.size w w1 := by rw [← hw1]; exact (((Below.refl w.heap.size w).alloc (Nat.le_refl _) _).alloc (by simp) _).alloc (by simp; omega) _
  have hXA : Box w1 w.heap.size 25 #[.int .i64 epoch, .int .i64 next, .slice a1 conns.length n1, .slice a2 queue.length n2] := by rw [← hw1]; exact ((Box.new w _ _).alloc _).alloc _
  have hXR : Box w1 (w.heap.size + 1) 33 #[.int .i64 0, .int .i64 0, .slice none 0 0, .slice none 0 0] := by
    have := (Box.new (w.alloc (Obj.cells #[.int .i64 epoch, .int .i64 next, .slice a1 conns.length n1, .slice a2 queue.length n2] 25)) 33 #[.int .i64 0, .int .i64 0, .slice none 0 0, .slice none 0 0]).alloc (Obj.cells #[.int .i64 epoch, .int .i64 next, .slice none 0 0, .slice none 0 0] 33)
    rw [hw1, Deep.nblk_alloc] at this
    exact this
  have hXO : Box w1 (w.heap.size + 1 + 1) 33 #[.int .i64 epoch, .int .i64 next, .slice none 0 0, .slice none 0 0] := by
    have := Box.new ((w.alloc (Obj.cells #[.int .i64 epoch, .int .i64 next, .slice a1 conns.length n1, .slice a2 queue.length n2] 25)).alloc (Obj.cells #[.int .i64 0, .int .i64 0, .slice none 0 0, .slice none 0 0] 33)) 33 #[.int .i64 epoch, .int .i64 next, .slice none 0 0, .slice none 0 0]
    rw [hw1, Deep.nblk_alloc, Deep.nblk_alloc] at this
    exact this
  have p2 : w1.cell? ⟨w.heap.size, 2, none⟩ = some (.slice a1 conns.length n1) := hXA.cell 2 (by simp)
  have HB1 := hide hb1
  have HXA := hide hXA
  have HXR := hide hXR
  have HXO := hide hXO
  clear hc hq hb1 hXA hXR hXO
  go_enter Tryd.func10, Tryd.ntmps10
  go_wp2_with fail
  refine (toCns_any conns _ _ hn1 (At.kept kept_flat HC.out HB1.out)).mono ?_
  rintro e w4 ⟨u4, rfl, hu4, hb4⟩
  obtain ⟨a4, n4, rfl⟩ := RowC.form hu4
  have hXO4 := HXO.out.below hb4
  obtain ⟨Y1, hY1⟩ : ∃ Y, w4.setCell ⟨w.heap.size + 1 + 1, 2, none⟩ (.slice a4 conns.length n4) = Y := ⟨_, rfl⟩
  have o1 : Only [w.heap.size + 1 + 1] w4 Y1 := by rw [← hY1]; exact (Only.refl _ _).setCell (by simp) _
  have hXOY : Box Y1 (w.heap.size + 1 + 1) 33 #[.int .i64 epoch, .int .i64 next, .slice a4 conns.length n4, .slice none 0 0] := by rw [← hY1]; exact hXO4.set 2 _
  have hXAY := (HXA.out.below hb4).only o1 (by simp; omega)
  have hXRY := (HXR.out.below hb4).only o1 (by simp)
  have hs1 := HXO.out.lt
  have hs4 := hb4.size
  have huY : FO cnC 7 Y1 (.slice a4 conns.length n4) conns [w1.heap.size] := hu4.kept o1.size fun d hd => o1.block d (RowC.lt hu4 d hd) (by simp at hd; simp; omega)
  have hbY : Below w.heap.size w Y1 := by
    have c1 := bjoin hb4 HB1.out
    exact c1.trans (o1.below c1.size fun d hd => by simp at hd; omega)
  have q3 : Y1.cell? ⟨w.heap.size, 3, none⟩ = some (.slice a2 queue.length n2) := hXAY.cell 3 (by simp)
  have t2 : w4.cell? ⟨w.heap.size + 1 + 1, 2, none⟩ = some (.slice none 0 0) := hXO4.cell 2 (by simp)
  have tf2 := hXO4.frozen 2
  have HXOY := hide hXOY
  have HXRY := hide hXRY
  have HUY := hide huY
  have HBY := hide hbY
  have hsY : w1.heap.size < Y1.heap.size := RowC.lt huY w1.heap.size (by simp)
  clear hu4 hb4 hXO4 o1 hXOY hXAY hXRY huY hbY
  go_wp2_with fail
  refine (toWns_any queue _ _ hn2 (At.kept kept_flat HQ.out HBY.out)).mono ?_
  rintro e w5 ⟨u5, rfl, hu5, hb5⟩
  obtain ⟨a5, n5, rfl⟩ := RowC.form hu5
  have hXO5 := HXOY.out.below hb5
  have hXR5 := HXRY.out.below hb5
  obtain ⟨Y2, hY2⟩ : ∃ Y, w5.setCell ⟨w.heap.size + 1 + 1, 3, none⟩ (.slice a5 queue.length n5) = Y := ⟨_, rfl⟩
  have o2 : Only [w.heap.size + 1 + 1] w5 Y2 := by rw [← hY2]; exact (Only.refl _ _).setCell (by simp) _
  have hXO2 : Box Y2 (w.heap.size + 1 + 1) 33 #[.int .i64 epoch, .int .i64 next, .slice a4 conns.length n4, .slice a5 queue.length n5] := by rw [← hY2]; exact hXO5.set 3 _
  have hXR2 := hXR5.only o2 (by simp)
  have hs5 := hb5.size
  have hu5' : FO wnC 4 Y2 (.slice a5 queue.length n5) queue [Y1.heap.size] := hu5.kept o2.size fun d hd => o2.block d (RowC.lt hu5 d hd) (by simp at hd; simp; omega)
  have hu4' : FO cnC 7 Y2 (.slice a4 conns.length n4) conns [w1.heap.size] := (RowC.below HUY.out hb5).kept o2.size fun d hd => o2.block d (RowC.lt (RowC.below HUY.out hb5) d hd) (by simp at hd; simp; omega)
  have hbY2 : Below w.heap.size w Y2 := by
    have c1 := bjoin hb5 HBY.out
    exact c1.trans (o2.below c1.size fun d hd => by simp at hd; omega)
  have t3 : w5.cell? ⟨w.heap.size + 1 + 1, 3, none⟩ = some (.slice none 0 0) := hXO5.cell 3 (by simp)
  have tf3 := hXO5.frozen 3
  obtain ⟨⟨c0, c1, c2, c3⟩, _⟩ : (Y2.cell? ⟨w.heap.size + 1 + 1, 0, none⟩ = some (.int .i64 epoch) ∧ Y2.cell? ⟨w.heap.size + 1 + 1, 1, none⟩ = some (.int .i64 next) ∧ Y2.cell? ⟨w.heap.size + 1 + 1, 2, none⟩ = some (.slice a4 conns.length n4) ∧ Y2.cell? ⟨w.heap.size + 1 + 1, 3, none⟩ = some (.slice a5 queue.length n5)) ∧ True := ⟨⟨hXO2.cell 0 (by simp), hXO2.cell 1 (by simp), hXO2.cell 2 (by simp), hXO2.cell 3 (by simp)⟩, trivial⟩
  have e0 : Y2.cell? ⟨w.heap.size + 1, 0, none⟩ = some (.int .i64 0) := hXR2.cell 0 (by simp)
  have e1 : Y2.cell? ⟨w.heap.size + 1, 1, none⟩ = some (.int .i64 0) := hXR2.cell 1 (by simp)
  have e2 : Y2.cell? ⟨w.heap.size + 1, 2, none⟩ = some (.slice none 0 0) := hXR2.cell 2 (by simp)
  have e3 : Y2.cell? ⟨w.heap.size + 1, 3, none⟩ = some (.slice none 0 0) := hXR2.cell 3 (by simp)
  have f0 := hXR2.frozen 0
  have f1 := hXR2.frozen 1
  have f2 := hXR2.frozen 2
  have f3 := hXR2.frozen 3
  have hz := hXR2.lt
  have HFIN : Hid (∀ x0 x1 x2 x3 Y, (((Y2.setCell ⟨w.heap.size + 1, 0, none⟩ x0).setCell ⟨w.heap.size + 1, 1, none⟩ x1).setCell ⟨w.heap.size + 1, 2, none⟩ x2).setCell ⟨w.heap.size + 1, 3, none⟩ x3 = Y → PlO w.heap.size Y ⟨epoch, next, conns, queue⟩ (.slice a4 conns.length n4) (.slice a5 queue.length n5) [w1.heap.size] [Y1.heap.size] ∧ Below w.heap.size w Y) := fun x0 x1 x2 x3 Y hY => by
    have oY : Only [w.heap.size + 1] Y2 Y := by rw [← hY]; exact ((((Only.refl _ _).setCell (by simp) _).setCell (by simp) _).setCell (by simp) _).setCell (by simp) _
    refine ⟨⟨hu4'.kept oY.size fun d hd => oY.block d (RowC.lt hu4' d hd) (by simp at hd; simp; omega), hu5'.kept oY.size fun d hd => oY.block d (RowC.lt hu5' d hd) (by simp at hd; simp; omega), by simp; omega, by simp; omega, by simp; omega, HZ1.out, HZ2.out⟩, ?_⟩
    exact hbY2.trans (oY.below hbY2.size fun d hd => by simp at hd; omega)
  clear hu5 hb5 hXO5 hXR5 o2 hXO2 hXR2 hu5' hu4' hbY2
  go_wp2_with fail
  exact bodyPost_ret (v := .agg #[.int .i64 epoch, .int .i64 next, .slice a4 conns.length n4, .slice a5 queue.length n5]) (by simp [results, Tryd.results10, go_sem, e0, e1, e2, e3, hz]) rfl ⟨_, _, _, _, rfl, (HFIN.out _ _ _ _ _ rfl).1, (HFIN.out _ _ _ _ _ rfl).2⟩
end Go.Proofs.YtfeccdhadgpnkaaDoor.Msg
