import Derived.Test.YtpmnepalchgcbaaGreatDoorMarkStrwithMarkMsgwithFlatKit
import Derived.Test.YtpmnepalchgcbaaGreatDoorMsgEqwithMsgEq2withMsgTo
import Derived.Deep.RegionHeld3
import Derived.Test.YtpmnepalchgcbaaGreatDoorMarkWantwithMarkTblwithStrsO
namespace Go.Proofs.YtpmnepalchgcbaaGreatDoor.Msg
open Go.ChangeShapes Go.WideShapes Go.ChangeAt Go.RowKit
set_option linter.unusedVariables false
set_option linter.unusedSimpArgs false

def MixS (k : Nat) (w : World) (b off : Nat) (xs : List Seg) (bss : List (List Nat)) (j : Nat) : Prop :=
  ∀ i (h : i < xs.length) (h2 : i < bss.length), SegO w b (off + i * 2) (if i < j then mkSeg (k + sumOf cSeg (xs.take i)) xs[i] else xs[i]) bss[i]

theorem MixS.step {k : Nat} {w w2 w4 : World} {b off : Nat} {xs : List Seg} {bss : List (List Nat)} {j : Nat} {v : Value}
    (h : MixS k w b off xs bss j) (hb : b < w.heap.size) (hn : (b :: bss.flatten).Nodup) (hj : j < xs.length) (hj2 : j < bss.length) (hk : k + sumOf cSeg (xs.take j) < 18446744073709551616)
    (hb2 : Below w.heap.size w w2) (hv : w.cell? ⟨b, off + j * 2 + 1, none⟩ = some v)
    (ho : Only bss[j] (w2.setCell ⟨b, off + j * 2, none⟩ (.string (markT (k + sumOf cSeg (xs.take j))))) w4)
    (hO : OFields w4 v (mkFields (k + sumOf cSeg (xs.take j) + 1) xs[j].fields) bss[j]) : MixS k w4 b off xs bss (j + 1) := by
  have hn0 := hn
  rw [List.nodup_cons] at hn
  have hnb : ∀ i (h2 : i < bss.length), b ∉ bss[i] := fun i h2 hm => hn.1 (by rw [List.mem_flatten]; exact ⟨_, List.getElem_mem h2, hm⟩)
  have hs2 := hb2.size
  have hrow4 : w4.heap[b]? = (w2.setCell ⟨b, off + j * 2, none⟩ (.string (markT (k + sumOf cSeg (xs.take j))))).heap[b]? := ho.block b (by rw [Deep.nblk_setCell]; omega) (hnb j hj2)
  have hfz : ∀ o, w4.frozen? ⟨b, o, none⟩ = w.frozen? ⟨b, o, none⟩ := fun o => by rw [frozenSame hrow4, World.frozen?_setCell, hb2.frozen (p := ⟨b, o, none⟩) hb]
  have hoth : ∀ o, o ≠ off + j * 2 → w4.cell? ⟨b, o, none⟩ = w.cell? ⟨b, o, none⟩ := fun o ho' => by
    rw [cellSame hrow4, World.cell?_setCell_other _ _ _ _ (by intro e; injection e with _ e2 _; omega), hb2.cell (p := ⟨b, o, none⟩) hb]
  intro i hi h2
  by_cases e : i = j
  · subst e
    obtain ⟨g0, gf, gz, vi, g1, g2⟩ := h i hi h2
    rw [if_pos (by omega)]
    refine ⟨?_, by rw [hfz]; exact gf, by have := markT_size _ hk; exact Nat.le_trans this (by omega), v, by rw [hoth _ (by omega)]; exact hv, hO⟩
    rw [cellSame hrow4, World.cell?_setCell_same _ _ _ (u := .string (if i < i then mkSeg (k + sumOf cSeg (xs.take i)) xs[i] else xs[i]).name) (by rw [hb2.cell (p := ⟨b, off + i * 2, none⟩) hb]; exact g0)]
    rfl
  · obtain ⟨g0, gf, gz, vi, g1, g2⟩ := h i hi h2
    have g3 : OFields w4 vi _ bss[i] := OAt.kept keptO_field g2 (by have := ho.size; rw [Deep.nblk_setCell] at this; omega) fun d hd => by
      have hdl := OAt.lt ltO_field g2 d hd
      rw [ho.block d (by rw [Deep.nblk_setCell]; omega) (disj_of hn.2 h2 hj2 e hd), Deep.blk_setCell_other _ _ _ _ (fun e2 => hnb i h2 (by have e3 : d = b := e2; rw [← e3]; exact hd))]
      exact hb2.block d hdl
    have g4 : SegO w4 b (off + i * 2) (if i < j then mkSeg (k + sumOf cSeg (xs.take i)) xs[i] else xs[i]) bss[i] :=
      ⟨by rw [hoth _ (by omega)]; exact g0, by rw [hfz]; exact gf, gz, vi, by rw [hoth _ (by omega)]; exact g1, g3⟩
    by_cases e2 : i < j
    · rw [if_pos e2] at g4; rw [if_pos (by omega)]; exact g4
    · rw [if_neg e2] at g4; rw [if_neg (by omega)]; exact g4

end Go.Proofs.YtpmnepalchgcbaaGreatDoor.Msg

namespace Go.Proofs.YtpmnepalchgcbaaGreatDoor.Msg
open Go.ChangeShapes Go.WideShapes Go.ChangeAt Go.RowKit
set_option linter.unusedVariables false
set_option linter.unusedSimpArgs false

theorem hold1 {w w' : World} {b o : Nat} {v : Value} (h : Below w.heap.size w w') (h1 : b < w.heap.size) (g1 : w.cell? ⟨b, o, none⟩ = some v) : w'.cell? ⟨b, o, none⟩ = some v ∧ Below w.heap.size w w' :=
  ⟨by rw [h.cell (p := ⟨b, o, none⟩) h1]; exact g1, h⟩

/-- the places of a marked list -/
theorem mkL_form {α : Type} {n : Nat} {R : Nat → World → Nat → Nat → α → Prop} {mk : Nat → α → α} {c : α → Nat} {d : α} {k lo : Nat} {w : World} {v : Value} {xs : List α} (h : At n R lo w v (mkL mk c d k xs)) :
    ∃ a cap, v = .slice a xs.length cap ∧ ∀ j (h : j < xs.length), ∃ b off, a = some ⟨b, off, none⟩ ∧ b < w.heap.size ∧ R lo w b (off + j * n) (mk (k + sumOf c (xs.take j)) xs[j]) := by
  obtain ⟨a, cap, rfl, hc⟩ := h.form
  refine ⟨a, cap, by rw [mkL_len], fun j hj => ?_⟩
  obtain ⟨b, off, e, _, hb, hr⟩ := hc j (by rw [mkL_len]; exact hj)
  rw [mkL_get mk c d k xs j hj] at hr
  exact ⟨b, off, e, hb, hr⟩

set_option maxHeartbeats 1000000 in
theorem heldStrs_any (xs : List ByteArray) (v : Value) (k : Nat) (w : World) (hk : 1 ≤ k) (hkb : k + cRep xs ≤ 4611686018427387904) {lo : Nat} (hv : StrsAt lo w v (mkRep k xs)) :
    Calls Tryz.prog 50 #[v, .int .i64 (k : Int)] w fun e w' => e = .returned (.int .i64 ((k + cRep xs : Nat) : Int)) ∧ Below w.heap.size w w' := by
  have hl : xs.length ≤ 9223372036854775807 := by have := hv.1; unfold mkRep at this; rw [mkL_len] at this; exact this
  have HCL := hide (cRep_len xs)
  rw [HCL.out] at hkb ⊢
  obtain ⟨a, cap, rfl, hc⟩ := mkL_form hv
  have HC : Hid (∀ j (h : j < xs.length), ∃ b off, a = some ⟨b, off, none⟩ ∧ b < w.heap.size ∧ w.cell? ⟨b, off + j, none⟩ = some (.string (markT (k + j)))) := fun j hj => by
    obtain ⟨b, off, e, hb, hr⟩ := hc j hj
    rw [one_take xs j (by omega)] at hr
    exact ⟨b, off, e, hb, by have h9 := hr.1; rw [Nat.mul_one] at h9; exact h9⟩
  clear hc hv
  go_enter Tryz.func50, Tryz.ntmps50
  go_wp2
  go_loopw [1, 5] (fun r i w1 => ∃ j : Nat, j ≤ xs.length ∧ i = .int .i64 j ∧ r = .int .i64 ((k : Int) + (j : Int)) ∧ Below w.heap.size w w1) (fun _ i _ => xs.length - (intOf i).toNat)
  case atStart => exact ⟨0, Nat.zero_le _, rfl, by simp, Below.refl _ _⟩
  case round =>
    obtain ⟨j, hj, rfl, rfl, hb⟩ := hrel
    by_cases hj2 : j < xs.length
    · obtain ⟨b, off, rfl, hbl, hcell⟩ := HC.out j hj2
      have h1 : wr.cell? ⟨b, off + j, none⟩ = some (.string (markT (k + j))) := by rw [hb.cell (p := ⟨b, off + j, none⟩) hbl]; exact hcell
      have hi : (j : Int) < (xs.length : Int) := by omega
      have hi0 : (0 : Int) ≤ (j : Int) := by omega
      have hd := hb.drew
      have ecast : ((k : Int) + (j : Int)) = ((k + j : Nat) : Int) := by omega
      have HEC := hide ecast
      clear ecast
      go_wp2
      go_region_held3 (fun w' => w'.cell? ⟨b, off + j, none⟩ = some (.string (markT (k + j))) ∧ Below w.heap.size w w')
        (first | exact hold1 hd hbl hcell | exact hold1 hb9 hbl hcell)
        ((go_at_call 48; rw [HEC.out]; refine (markText_any (k + j) _ (by omega) (by omega)).mono ?_; rintro e w2 ⟨rfl, hb2⟩; have hb9 : Below w.heap.size w w2 := bjoin hb2 (by assumption)))
      go_wp2
      go_roundw
      case rel => exact ⟨j + 1, by omega, by go_num, by go_num, hb9⟩
      case measure => simp [intOf]; omega
    · obtain rfl : j = xs.length := by omega
      go_wp2
      go_ret
      exact ⟨ret_int (by omega), hb⟩

end Go.Proofs.YtpmnepalchgcbaaGreatDoor.Msg

namespace Go.Proofs.YtpmnepalchgcbaaGreatDoor.Msg
open Go.ChangeShapes Go.WideShapes Go.ChangeAt Go.RowKit
set_option linter.unusedVariables false
set_option linter.unusedSimpArgs false

/-! the marks of a table are found again -/
theorem heldStrs_int (x : Int) (k : Nat) (hx : x = (k : Int)) (xs : List ByteArray) (v : Value) (w : World) (hk : 1 ≤ k) (hkb : k + cRep xs ≤ 4611686018427387904) {lo : Nat} (hv : StrsAt lo w v (mkRep k xs)) :
    Calls Tryz.prog 50 #[v, .int .i64 x] w fun e w' => e = .returned (.int .i64 ((k + cRep xs : Nat) : Int)) ∧ Below w.heap.size w w' := by
  subst hx
  exact heldStrs_any xs v k w hk hkb hv
set_option maxRecDepth 100000 in
set_option maxHeartbeats 4000000 in
theorem heldSesss_any (xs : List Sess) (v : Value) (k : Nat) (w : World) (hk : 1 ≤ k) (hkb : k + cTbl xs ≤ 4611686018427387904) {lo : Nat} (hv : SesssAt lo w v (mkTbl k xs)) :
    Calls Tryz.prog 21 #[v, .int .i64 (k : Int)] w fun e w' => e = .returned (.int .i64 ((k + cTbl xs : Nat) : Int)) ∧ Below w.heap.size w w' := by
  have hl : xs.length ≤ 9223372036854775807 := by have := hv.1; unfold mkTbl at this; rw [mkL_len] at this; exact this
  have HCF : Hid (cTbl xs = sumOf cSess xs) := rfl
  obtain ⟨a, cap, rfl, hc⟩ := mkL_form hv
  have HC := hide hc
  clear hc hv
  go_enter Tryz.func21, Tryz.ntmps21
  go_wp2
  go_loopw [1, 5] (fun r i w1 => ∃ j K : Nat, j ≤ xs.length ∧ K = k + sumOf cSess (xs.take j) ∧ i = .int .i64 j ∧ r = .int .i64 (K : Int) ∧ Below w.heap.size w w1) (fun _ i _ => xs.length - (intOf i).toNat)
  case atStart => exact ⟨0, k, Nat.zero_le _, by simp [sumOf], rfl, rfl, Below.refl _ _⟩
  case round =>
    obtain ⟨j, K, hj, hK, rfl, rfl, hb⟩ := hrel
    by_cases hj2 : j < xs.length
    · obtain ⟨b, off, rfl, hbl, g⟩ := HC.out j hj2
      rw [← hK] at g
      have hst := sum_take cSess xs j hj2
      have hsl := sum_le cSess xs (j + 1)
      have hcf := HCF.out
      have hcs : cSess xs[j] = 6 + cRep xs[j].rows := rfl
      have hroom : K + 6 + cRep xs[j].rows ≤ 4611686018427387904 := by omega
      have hK1 : 1 ≤ K := by omega
      have HST : Hid (k + sumOf cSess (xs.take (j + 1)) = K + 6 + cRep xs[j].rows) := by show _ = _; omega
      obtain ⟨x, hx⟩ : ∃ x, xs[j] = x := ⟨_, rfl⟩
      rw [hx] at g hroom HST
      obtain ⟨cr, hcr⟩ : ∃ n, cRep x.rows = n := ⟨_, rfl⟩
      have HCR := hide hcr
      rw [hcr] at hroom HST
      obtain ⟨p, hp⟩ : ∃ p, off + j * 7 = p := ⟨_, rfl⟩
      rw [hp] at g
      obtain ⟨g0, g1, g2, g3, g4, g6, _, _, ve, g5, hel⟩ := g
      have HEL : Hid (StrsAt lo w ve (mkRep (K + 5) x.rows)) := hel
      have HG : Hid (∀ U, Below w.heap.size w U → (U.cell? ⟨b, p, none⟩ = some (.int .i64 (K : Int)) ∧ U.cell? ⟨b, p + 1, none⟩ = some (.string (markT (K + 1))) ∧ U.cell? ⟨b, p + 2, none⟩ = some (.string (markT (K + 2))) ∧ U.cell? ⟨b, p + 3, none⟩ = some (.int .i64 ((K : Int) + 1 + 1 + 1)) ∧ U.cell? ⟨b, p + 4, none⟩ = some (.int .i64 ((K : Int) + 1 + 1 + 1 + 1)) ∧ U.cell? ⟨b, p + 5, none⟩ = some ve ∧ U.cell? ⟨b, p + 6, none⟩ = some (.int .i64 ((K + 5 + cr : Nat) : Int))) ∧ Below w.heap.size w U) := fun U h => by
        refine ⟨⟨(h.cell (p := ⟨b, p, none⟩) hbl).trans g0, (h.cell (p := ⟨b, p + 1, none⟩) hbl).trans g1, (h.cell (p := ⟨b, p + 2, none⟩) hbl).trans g2, ?_, ?_, (h.cell (p := ⟨b, p + 5, none⟩) hbl).trans g5, ?_⟩, h⟩
        · exact (h.cell (p := ⟨b, p + 3, none⟩) hbl).trans (g3.trans (congrArg some (int_same (by show ((K + 3 : Nat) : Int) = _; omega))))
        · exact (h.cell (p := ⟨b, p + 4, none⟩) hbl).trans (g4.trans (congrArg some (int_same (by show ((K + 4 : Nat) : Int) = _; omega))))
        · exact (h.cell (p := ⟨b, p + 6, none⟩) hbl).trans (g6.trans (congrArg some (int_same (by show ((K + 5 + cRep x.rows : Nat) : Int) = _; rw [hcr]))))
      have hi : (j : Int) < (xs.length : Int) := by omega
      have hi0 : (0 : Int) ≤ (j : Int) := by omega
      have HB := hide hb
      have hd0 := hb.drew
      obtain ⟨⟨c0, _⟩, _⟩ := HG.out wr hb
      clear hst hsl hcf hcs hK hx hcr g0 g1 g2 g3 g4 g5 g6 hel hb
      go_wp2_with fail
      go_region_held3 (fun U => (U.cell? ⟨b, p, none⟩ = some (.int .i64 (K : Int)) ∧ U.cell? ⟨b, p + 1, none⟩ = some (.string (markT (K + 1))) ∧ U.cell? ⟨b, p + 2, none⟩ = some (.string (markT (K + 2))) ∧ U.cell? ⟨b, p + 3, none⟩ = some (.int .i64 ((K : Int) + 1 + 1 + 1)) ∧ U.cell? ⟨b, p + 4, none⟩ = some (.int .i64 ((K : Int) + 1 + 1 + 1 + 1)) ∧ U.cell? ⟨b, p + 5, none⟩ = some ve ∧ U.cell? ⟨b, p + 6, none⟩ = some (.int .i64 ((K + 5 + cr : Nat) : Int))) ∧ Below w.heap.size w U)
        (first | exact HG.out _ hd0 | exact HG.out _ hx0)
        ((go_at_call 48; refine (markText_int _ (K + 1) (by omega) _ (by omega) (by omega)).mono ?_; rintro e w2 ⟨rfl, hb2⟩; have hx0 : Below w.heap.size w w2 := bjoin hb2 (by assumption)))
      clear hd0
      have hd1 := hx0.drew
      go_wp2_with fail
      go_region_held3 (fun U => (U.cell? ⟨b, p, none⟩ = some (.int .i64 (K : Int)) ∧ U.cell? ⟨b, p + 1, none⟩ = some (.string (markT (K + 1))) ∧ U.cell? ⟨b, p + 2, none⟩ = some (.string (markT (K + 2))) ∧ U.cell? ⟨b, p + 3, none⟩ = some (.int .i64 ((K : Int) + 1 + 1 + 1)) ∧ U.cell? ⟨b, p + 4, none⟩ = some (.int .i64 ((K : Int) + 1 + 1 + 1 + 1)) ∧ U.cell? ⟨b, p + 5, none⟩ = some ve ∧ U.cell? ⟨b, p + 6, none⟩ = some (.int .i64 ((K + 5 + cr : Nat) : Int))) ∧ Below w.heap.size w U)
        (first | exact HG.out _ hd1 | exact HG.out _ hx1)
        ((go_at_call 48; refine (markText_int _ (K + 2) (by omega) _ (by omega) (by omega)).mono ?_; rintro e w3 ⟨rfl, hb2⟩; have hx1 : Below w.heap.size w w3 := bjoin hb2 (by assumption)))
      clear hd1
      obtain ⟨⟨_, _, _, k3, k4, k5, _⟩, _⟩ := HG.out w3 hx1
      go_wp2_with fail
      refine (heldStrs_int _ (K + 5) (by omega) x.rows ve _ (by omega) (by rw [HCR.out]; omega) (At.kept kept_str HEL.out hx1)).mono ?_
      rintro e w4 ⟨rfl, hb4⟩
      have hx2 : Below w.heap.size w w4 := bjoin hb4 hx1
      rw [HCR.out]
      have hpos : ¬ (((K + 5 + cr : Nat) : Int)) < 0 := by omega
      obtain ⟨⟨_, _, _, _, _, _, k6⟩, _⟩ := HG.out w4 hx2
      clear hb4 k3 k4 k5
      go_wp2_with fail
      go_roundw
      case rel => exact ⟨j + 1, K + 6 + cr, by omega, HST.out.symm, by go_num, by go_num, hx2⟩
      case measure => simp [intOf]; omega
    · obtain rfl : j = xs.length := by omega
      go_wp2_with fail
      go_ret
      exact ⟨ret_int (by rw [HCF.out, hK, List.take_length]), hb⟩
set_option maxHeartbeats 400000 in
theorem heldTbl_any (xs : List Sess) (v : Value) (k : Nat) (w : World) (hk : 1 ≤ k) (hkb : k + cTbl xs ≤ 4611686018427387904) {lo : Nat} (hv : SesssAt lo w v (mkTbl k xs)) :
    Calls Tryz.prog 8 #[.agg #[v], .int .i64 (k : Int)] w fun e w' => e = .returned (.int .i64 ((k + cTbl xs : Nat) : Int)) ∧ Below w.heap.size w w' := by
  have hb := (Below.refl w.heap.size w).alloc (Nat.le_refl _) (Obj.cells #[v] 24)
  have hv1 := At.kept kept_sess hv hb
  have hpos : ¬ (((k + cTbl xs : Nat) : Int)) < 0 := by omega
  go_enter Tryz.func8, Tryz.ntmps8
  go_wp2_with fail
  refine (heldSesss_any xs v k _ hk hkb hv1).mono ?_
  rintro e w' ⟨rfl, hb2⟩
  go_wp2_with fail
  go_ret
  exact ⟨rfl, bjoin hb2 hb⟩
end Go.Proofs.YtpmnepalchgcbaaGreatDoor.Msg
