import Derived.Test.YtfcmhnfdbobnlaaGreatDoorImplCutwithMarkStrwithMarkMsg
import Derived.Test.YtfcmhnfdbobnlaaGreatDoorMsgEqwithMsgEq2withMsgTo
import Derived.Deep.RegionHeld3
namespace Go.Proofs.YtfcmhnfdbobnlaaGreatDoor.Msg
open Go.ChangeShapes Go.WideShapes Go.ChangeAt Go.RowKit
set_option linter.unusedVariables false
set_option linter.unusedSimpArgs false

def MixS (k : Nat) (w : World) (b off : Nat) (xs : List Seg) (bss : List (List Nat)) (j : Nat) : Prop :=
  ∀ i (h : i < xs.length) (h2 : i < bss.length), SegO w b (off + i * 2) (if i < j then mkSeg (k + sumOf cSeg (xs.take i)) xs[i] else xs[i]) bss[i]

theorem MixS.step {k : Nat} {w w2 w4 : World} {b off : Nat} {xs : List Seg} {bss : List (List Nat)} {j : Nat} {v : Value}
    (h : MixS k w b off xs bss j) (hb : b < w.heap.size) (hn : (b :: bss.flatten).Nodup) (hj : j < xs.length) (hj2 : j < bss.length) (hk : k + sumOf cSeg (xs.take j) < 18446744073709551616)
    (hb2 : Below w.heap.size w w2) (hv : w.cell? ⟨b, off + j * 2 + 1, none⟩ = some v)
    (ho : Only bss[j] (w2.setCell ⟨b, off + j * 2, none⟩ (.string (markT (k + sumOf cSeg (xs.take j))))) w4)
    (hO : OFields w4 v (mkFields (k + sumOf cSeg (xs.take j) + 1) xs[j].fields) bss[j]) : MixS k w4 b off xs bss (j + 1) := by
  have hn0 := hn
  rw [List.nodup_cons] at hn
  have hnb : ∀ i (h2 : i < bss.length), b ∉ bss[i] := fun i h2 hm => hn.1 (by rw [List.mem_flatten]; exact ⟨_, List.getElem_mem h2, hm⟩)
  have hs2 := hb2.size
  have hrow4 : w4.heap[b]? = (w2.setCell ⟨b, off + j * 2, none⟩ (.string (markT (k + sumOf cSeg (xs.take j))))).heap[b]? := ho.block b (by rw [Deep.nblk_setCell]; omega) (hnb j hj2)
  have hfz : ∀ o, w4.frozen? ⟨b, o, none⟩ = w.frozen? ⟨b, o, none⟩ := fun o => by rw [frozenSame hrow4, World.frozen?_setCell, hb2.frozen (p := ⟨b, o, none⟩) hb]
  have hoth : ∀ o, o ≠ off + j * 2 → w4.cell? ⟨b, o, none⟩ = w.cell? ⟨b, o, none⟩ := fun o ho' => by
    rw [cellSame hrow4, World.cell?_setCell_other _ _ _ _ (by intro e; injection e with _ e2 _; omega), hb2.cell (p := ⟨b, o, none⟩) hb]
  intro i hi h2
  by_cases e : i = j
  · subst e
    obtain ⟨g0, gf, gz, vi, g1, g2⟩ := h i hi h2
    rw [if_pos (by omega)]
    refine ⟨?_, by rw [hfz]; exact gf, by have := markT_size _ hk; exact Nat.le_trans this (by omega), v, by rw [hoth _ (by omega)]; exact hv, hO⟩
    rw [cellSame hrow4, World.cell?_setCell_same _ _ _ (u := .string (if i < i then mkSeg (k + sumOf cSeg (xs.take i)) xs[i] else xs[i]).name) (by rw [hb2.cell (p := ⟨b, off + i * 2, none⟩) hb]; exact g0)]
    rfl
  · obtain ⟨g0, gf, gz, vi, g1, g2⟩ := h i hi h2
    have g3 : OFields w4 vi _ bss[i] := OAt.kept keptO_field g2 (by have := ho.size; rw [Deep.nblk_setCell] at this; omega) fun d hd => by
      have hdl := OAt.lt ltO_field g2 d hd
      rw [ho.block d (by rw [Deep.nblk_setCell]; omega) (disj_of hn.2 h2 hj2 e hd), Deep.blk_setCell_other _ _ _ _ (fun e2 => hnb i h2 (by have e3 : d = b := e2; rw [← e3]; exact hd))]
      exact hb2.block d hdl
    have g4 : SegO w4 b (off + i * 2) (if i < j then mkSeg (k + sumOf cSeg (xs.take i)) xs[i] else xs[i]) bss[i] :=
      ⟨by rw [hoth _ (by omega)]; exact g0, by rw [hfz]; exact gf, gz, vi, by rw [hoth _ (by omega)]; exact g1, g3⟩
    by_cases e2 : i < j
    · rw [if_pos e2] at g4; rw [if_pos (by omega)]; exact g4
    · rw [if_neg e2] at g4; rw [if_neg (by omega)]; exact g4

set_option maxHeartbeats 1000000 in
theorem markSegs_any (xs : List Seg) (v : Value) (bs : List Nat) (k : Nat) (w : World) (hk : 1 ≤ k) (hkb : k + cMsg xs ≤ 4611686018427387904) (hnd : bs.Nodup) (hv : OSegs w v xs bs) :
    Calls Tryz.prog 24 #[v, .int .i64 (k : Int)] w fun e w' => e = .returned (.int .i64 ((k + cMsg xs : Nat) : Int)) ∧ Only bs w w' ∧ OSegs w' v (mkMsg k xs) bs := by
  obtain ⟨hl, hv⟩ := hv
  rcases hv with ⟨a0, c0, rfl, rfl, rfl⟩ | ⟨b, off, cap, bss, rfl, hlt, rfl, hlen, hc⟩
  · go_enter Tryz.func24, Tryz.ntmps24
    go_wp2
    go_loop [1, 5] (fun r i => r = .int .i64 (k : Int) ∧ i = .int .i64 0) (fun _ _ => 0)
    case atStart => exact ⟨rfl, rfl⟩
    case round =>
      obtain ⟨rfl, rfl⟩ := hrel
      go_wp2
      go_ret
      exact ⟨ret_int (by simp [cMsg, sumOf]), Only.refl _ _, ⟨by simp [mkMsg, mkL], .inl ⟨_, _, rfl, rfl, rfl⟩⟩⟩
  · have hmix0 : MixS k w b off xs bss 0 := fun i hi h2 => by rw [if_neg (by omega)]; exact hc i hi h2
    have HCF : Hid (cMsg xs = sumOf cSeg xs) := rfl
    clear hc
    go_enter Tryz.func24, Tryz.ntmps24
    go_wp2
    go_loopw [1, 5] (fun r i w1 => ∃ j : Nat, j ≤ xs.length ∧ i = .int .i64 j ∧ r = .int .i64 ((k + sumOf cSeg (xs.take j) : Nat) : Int) ∧ MixS k w1 b off xs bss j ∧ Only (b :: bss.flatten) w w1) (fun _ i _ => xs.length - (intOf i).toNat)
    case atStart => exact ⟨0, Nat.zero_le _, rfl, by simp [sumOf], hmix0, Only.refl _ _⟩
    case round =>
      clear hmix0
      obtain ⟨j, hj, rfl, rfl, hmix, ho⟩ := hrel
      by_cases hj2 : j < xs.length
      · have hbl : b < wr.heap.size := Nat.lt_of_lt_of_le hlt ho.size
        have hjb : j < bss.length := by omega
        obtain ⟨hc0, hfz0, _, ve, hc1, hO⟩ := hmix j hj2 hjb
        rw [if_neg (by omega)] at hO hc0
        have HM := hide hmix
        have HO := hide ho
        have HOO := hide hO
        have hcs : cSeg xs[j] = 1 + cFields xs[j].fields := rfl
        have hst := sum_take cSeg xs j hj2
        have hsl := sum_le cSeg xs (j + 1)
        have hcf := HCF.out
        have hroom : k + sumOf cSeg (xs.take j) + 1 + cFields xs[j].fields ≤ 4611686018427387904 := by omega
        have HST : Hid (k + sumOf cSeg (xs.take (j + 1)) = k + sumOf cSeg (xs.take j) + 1 + cFields xs[j].fields) := by rw [hst, hcs]; show _ = _; omega
        clear hmix ho hO hst hsl hcf hcs
        generalize hK : k + sumOf cSeg (xs.take j) = K at *
        have HK := hide hK
        clear hK
        obtain ⟨a2, cap2, rfl, _⟩ := (OAt.toAt toAt_field HOO.out (lo := 0) (fun _ _ => Nat.zero_le _)).form
        go_wp2_with fail
        refine (markText_any K _ (by have := HK.out; omega) (by omega)).mono ?_
        rintro e w2 ⟨rfl, hb2⟩
        have hc0' : w2.cell? ⟨b, off + j * 2, none⟩ = some (.string xs[j].name) := by rw [hb2.cell (p := ⟨b, off + j * 2, none⟩) hbl]; exact hc0
        have hf0' : w2.frozen? ⟨b, off + j * 2, none⟩ = false := by rw [hb2.frozen (p := ⟨b, off + j * 2, none⟩) hbl]; exact hfz0
        have hc1' : (w2.setCell ⟨b, off + j * 2, none⟩ (.string (markT K))).cell? ⟨b, off + j * 2 + 1, none⟩ = some (.slice a2 xs[j].fields.length cap2) := by
          rw [World.cell?_setCell_other _ _ _ _ (by intro e; injection e with _ e2 _; omega), hb2.cell (p := ⟨b, off + j * 2 + 1, none⟩) hbl]; exact hc1
        have hnb : b ∉ bss[j] := fun hm => (List.nodup_cons.1 hnd).1 (by rw [List.mem_flatten]; exact ⟨_, List.getElem_mem hjb, hm⟩)
        have hO3 : OFields (w2.setCell ⟨b, off + j * 2, none⟩ (.string (markT K))) (.slice a2 xs[j].fields.length cap2) xs[j].fields bss[j] :=
          OAt.kept keptO_field HOO.out (by rw [Deep.nblk_setCell]; exact hb2.size) fun d hd => by
            rw [Deep.blk_setCell_other _ _ _ _ (fun e2 => hnb (by have e3 : d = b := e2; rw [← e3]; exact hd))]
            exact hb2.block d (OAt.lt ltO_field HOO.out d hd)
        have HB2 := hide hb2
        have HC1 := hide hc1
        clear hc0 hfz0 hb2 hc1
        go_wp2_with fail
        have ecast : ((K : Int) + 1) = ((K + 1 : Nat) : Int) := by omega
        rw [ecast]
        refine (markFields_any xs[j].fields _ bss[j] (K + 1) _ (by omega) (by omega) (nodup_at hnd hjb) hO3).mono ?_
        rintro e w4 ⟨rfl, ho4, hO4⟩
        have HN := hide (MixS.step (w2 := w2) (w4 := w4) HM.out hbl hnd hj2 hjb (by rw [HK.out]; omega) HB2.out HC1.out (by rw [HK.out]; exact ho4) (by rw [HK.out]; exact hO4))
        have HN2 := hide (((HO.out.trans (Only.of_below HB2.out)).setCell (b := b) (o := off + j * 2) (by simp) (.string (markT K))).trans (ho4.mono (sub_flat hjb b)))
        clear ho4 hO4 hO3 hc0' hf0' hc1' ecast
        go_wp2_with fail
        go_roundw
        case rel => exact ⟨j + 1, by omega, by go_num, by rw [HST.out]; go_num, HN.out, HN2.out⟩
        case measure => simp [intOf]; omega
      · obtain rfl : j = xs.length := by omega
        go_wp2_with fail
        go_ret
        refine ⟨ret_int (by rw [HCF.out, List.take_length]), ho, ⟨by unfold mkMsg; rw [mkL_len]; exact hl, .inr ⟨b, off, cap, bss, by unfold mkMsg; rw [mkL_len], Nat.lt_of_lt_of_le hlt ho.size, rfl, by unfold mkMsg; rw [mkL_len]; exact hlen, fun i hi h2 => ?_⟩⟩⟩
        have hi' : i < xs.length := by unfold mkMsg at hi; rw [mkL_len] at hi; exact hi
        have h3 := hmix i hi' h2
        rw [if_pos hi'] at h3
        have e1 : (mkMsg k xs)[i] = mkSeg (k + sumOf cSeg (xs.take i)) xs[i] := mkL_get mkSeg cSeg ⟨⟨#[]⟩, []⟩ k xs i hi' hi
        rw [e1]
        exact h3

set_option maxHeartbeats 400000 in
theorem markMsg_any (xs : List Seg) (v : Value) (bs : List Nat) (k : Nat) (w : World) (hk : 1 ≤ k) (hkb : k + cMsg xs ≤ 4611686018427387904) (hnd : bs.Nodup) (hv : OSegs w v xs bs) :
    Calls Tryz.prog 10 #[.agg #[v], .int .i64 (k : Int)] w fun e w' => e = .returned (.int .i64 ((k + cMsg xs : Nat) : Int)) ∧ Only bs w w' ∧ OSegs w' v (mkMsg k xs) bs := by
  have hb := (Below.refl w.heap.size w).alloc (Nat.le_refl _) (Obj.cells #[v] 33)
  have hv1 : OSegs (w.alloc (Obj.cells #[v] 33)) v xs bs := OAt.kept keptO_seg hv hb.size fun c hc => hb.block c (OAt.lt ltO_seg hv c hc)
  go_enter Tryz.func10, Tryz.ntmps10
  go_wp2_with fail
  refine (markSegs_any xs v bs k _ hk hkb hnd hv1).mono ?_
  rintro e w' ⟨rfl, ho, hO⟩
  go_wp2_with fail
  go_ret
  exact ⟨rfl, (Only.of_below hb).trans ho, hO⟩
end Go.Proofs.YtfcmhnfdbobnlaaGreatDoor.Msg

namespace Go.Proofs.YtfcmhnfdbobnlaaGreatDoor.Msg
open Go.ChangeShapes Go.WideShapes Go.ChangeAt Go.RowKit
set_option linter.unusedVariables false
set_option linter.unusedSimpArgs false

theorem hold1 {w w' : World} {b o : Nat} {v : Value} (h : Below w.heap.size w w') (h1 : b < w.heap.size) (g1 : w.cell? ⟨b, o, none⟩ = some v) : w'.cell? ⟨b, o, none⟩ = some v ∧ Below w.heap.size w w' :=
  ⟨by rw [h.cell (p := ⟨b, o, none⟩) h1]; exact g1, h⟩

/-- the places of a marked list -/
theorem mkL_form {α : Type} {n : Nat} {R : Nat → World → Nat → Nat → α → Prop} {mk : Nat → α → α} {c : α → Nat} {d : α} {k lo : Nat} {w : World} {v : Value} {xs : List α} (h : At n R lo w v (mkL mk c d k xs)) :
    ∃ a cap, v = .slice a xs.length cap ∧ ∀ j (h : j < xs.length), ∃ b off, a = some ⟨b, off, none⟩ ∧ b < w.heap.size ∧ R lo w b (off + j * n) (mk (k + sumOf c (xs.take j)) xs[j]) := by
  obtain ⟨a, cap, rfl, hc⟩ := h.form
  refine ⟨a, cap, by rw [mkL_len], fun j hj => ?_⟩
  obtain ⟨b, off, e, _, hb, hr⟩ := hc j (by rw [mkL_len]; exact hj)
  rw [mkL_get mk c d k xs j hj] at hr
  exact ⟨b, off, e, hb, hr⟩

set_option maxHeartbeats 1000000 in
theorem heldStrs_any (xs : List ByteArray) (v : Value) (k : Nat) (w : World) (hk : 1 ≤ k) (hkb : k + cRep xs ≤ 4611686018427387904) {lo : Nat} (hv : StrsAt lo w v (mkRep k xs)) :
    Calls Tryz.prog 26 #[v, .int .i64 (k : Int)] w fun e w' => e = .returned (.int .i64 ((k + cRep xs : Nat) : Int)) ∧ Below w.heap.size w w' := by
  have hl : xs.length ≤ 9223372036854775807 := by have := hv.1; unfold mkRep at this; rw [mkL_len] at this; exact this
  have HCL := hide (cRep_len xs)
  rw [HCL.out] at hkb ⊢
  obtain ⟨a, cap, rfl, hc⟩ := mkL_form hv
  have HC : Hid (∀ j (h : j < xs.length), ∃ b off, a = some ⟨b, off, none⟩ ∧ b < w.heap.size ∧ w.cell? ⟨b, off + j, none⟩ = some (.string (markT (k + j)))) := fun j hj => by
    obtain ⟨b, off, e, hb, hr⟩ := hc j hj
    rw [one_take xs j (by omega)] at hr
    exact ⟨b, off, e, hb, by have h9 := hr.1; rw [Nat.mul_one] at h9; exact h9⟩
  clear hc hv
  go_enter Tryz.func26, Tryz.ntmps26
  go_wp2
  go_loopw [1, 5] (fun r i w1 => ∃ j : Nat, j ≤ xs.length ∧ i = .int .i64 j ∧ r = .int .i64 ((k : Int) + (j : Int)) ∧ Below w.heap.size w w1) (fun _ i _ => xs.length - (intOf i).toNat)
  case atStart => exact ⟨0, Nat.zero_le _, rfl, by simp, Below.refl _ _⟩
  case round =>
    obtain ⟨j, hj, rfl, rfl, hb⟩ := hrel
    by_cases hj2 : j < xs.length
    · obtain ⟨b, off, rfl, hbl, hcell⟩ := HC.out j hj2
      have h1 : wr.cell? ⟨b, off + j, none⟩ = some (.string (markT (k + j))) := by rw [hb.cell (p := ⟨b, off + j, none⟩) hbl]; exact hcell
      have hi : (j : Int) < (xs.length : Int) := by omega
      have hi0 : (0 : Int) ≤ (j : Int) := by omega
      have hd := hb.drew
      have ecast : ((k : Int) + (j : Int)) = ((k + j : Nat) : Int) := by omega
      have HEC := hide ecast
      clear ecast
      go_wp2
      go_region_held3 (fun w' => w'.cell? ⟨b, off + j, none⟩ = some (.string (markT (k + j))) ∧ Below w.heap.size w w')
        (first | exact hold1 hd hbl hcell | exact hold1 hb9 hbl hcell)
        ((go_at_call 43; rw [HEC.out]; refine (markText_any (k + j) _ (by omega) (by omega)).mono ?_; rintro e w2 ⟨rfl, hb2⟩; have hb9 : Below w.heap.size w w2 := bjoin hb2 (by assumption)))
      go_wp2
      go_roundw
      case rel => exact ⟨j + 1, by omega, by go_num, by go_num, hb9⟩
      case measure => simp [intOf]; omega
    · obtain rfl : j = xs.length := by omega
      go_wp2
      go_ret
      exact ⟨ret_int (by omega), hb⟩

end Go.Proofs.YtfcmhnfdbobnlaaGreatDoor.Msg
