import Derived.Test.YtaalkjbkmkjkpaaMarkMsgwithFlatKit
import Derived.Test.YtaalkjbkmkjkpaaMsgEq2withMsgTo
import Derived.Deep.RegionHeld3
namespace Go.Proofs.Ytaalkjbkmkjkpaa.Msg
open Go.ChangeShapes Go.WideShapes Go.ChangeAt Go.RowKit
set_option linter.unusedVariables false
set_option linter.unusedSimpArgs false

def MixS (k : Nat) (w : World) (b off : Nat) (xs : List Seg) (bss : List (List Nat)) (j : Nat) : Prop :=
  ∀ i (h : i < xs.length) (h2 : i < bss.length), SegO w b (off + i * 2) (if i < j then mkSeg (k + sumOf cSeg (xs.take i)) xs[i] else xs[i]) bss[i]

theorem MixS.step {k : Nat} {w w2 w4 : World} {b off : Nat} {xs : List Seg} {bss : List (List Nat)} {j : Nat} {v : Value}
    (h : MixS k w b off xs bss j) (hb : b < w.heap.size) (hn : (b :: bss.flatten).Nodup) (hj : j < xs.length) (hj2 : j < bss.length) (hk : k + sumOf cSeg (xs.take j) < 18446744073709551616)
    (hb2 : Below w.heap.size w w2) (hv : w.cell? ⟨b, off + j * 2 + 1, none⟩ = some v)
    (ho : Only bss[j] (w2.setCell ⟨b, off + j * 2, none⟩ (.string (markT (k + sumOf cSeg (xs.take j))))) w4)
    (hO : OFields w4 v (mkFields (k + sumOf cSeg (xs.take j) + 1) xs[j].fields) bss[j]) : MixS k w4 b off xs bss (j + 1) := by
  have hn0 := hn
  rw [List.nodup_cons] at hn
  have hnb : ∀ i (h2 : i < bss.length), b ∉ bss[i] := fun i h2 hm => hn.1 (by rw [List.mem_flatten]; exact ⟨_, List.getElem_mem h2, hm⟩)
  have hs2 := hb2.size
  have hrow4 : w4.heap[b]? = (w2.setCell ⟨b, off + j * 2, none⟩ (.string (markT (k + sumOf cSeg (xs.take j))))).heap[b]? := ho.block b (by rw [Deep.nblk_setCell]; omega) (hnb j hj2)
  have hfz : ∀ o, w4.frozen? ⟨b, o, none⟩ = w.frozen? ⟨b, o, none⟩ := fun o => by rw [frozenSame hrow4, World.frozen?_setCell, hb2.frozen (p := ⟨b, o, none⟩) hb]
  have hoth : ∀ o, o ≠ off + j * 2 → w4.cell? ⟨b, o, none⟩ = w.cell? ⟨b, o, none⟩ := fun o ho' => by
    rw [cellSame hrow4, World.cell?_setCell_other _ _ _ _ (by intro e; injection e with _ e2 _; omega), hb2.cell (p := ⟨b, o, none⟩) hb]
  intro i hi h2
  by_cases e : i = j
  · subst e
    obtain ⟨g0, gf, gz, vi, g1, g2⟩ := h i hi h2
    rw [if_pos (by omega)]
    refine ⟨?_, by rw [hfz]; exact gf, by have := markT_size _ hk; exact Nat.le_trans this (by omega), v, by rw [hoth _ (by omega)]; exact hv, hO⟩
    rw [cellSame hrow4, World.cell?_setCell_same _ _ _ (u := .string (if i < i then mkSeg (k + sumOf cSeg (xs.take i)) xs[i] else xs[i]).name) (by rw [hb2.cell (p := ⟨b, off + i * 2, none⟩) hb]; exact g0)]
    rfl
  · obtain ⟨g0, gf, gz, vi, g1, g2⟩ := h i hi h2
    have g3 : OFields w4 vi _ bss[i] := OAt.kept keptO_field g2 (by have := ho.size; rw [Deep.nblk_setCell] at this; omega) fun d hd => by
      have hdl := OAt.lt ltO_field g2 d hd
      rw [ho.block d (by rw [Deep.nblk_setCell]; omega) (disj_of hn.2 h2 hj2 e hd), Deep.blk_setCell_other _ _ _ _ (fun e2 => hnb i h2 (by have e3 : d = b := e2; rw [← e3]; exact hd))]
      exact hb2.block d hdl
    have g4 : SegO w4 b (off + i * 2) (if i < j then mkSeg (k + sumOf cSeg (xs.take i)) xs[i] else xs[i]) bss[i] :=
      ⟨by rw [hoth _ (by omega)]; exact g0, by rw [hfz]; exact gf, gz, vi, by rw [hoth _ (by omega)]; exact g1, g3⟩
    by_cases e2 : i < j
    · rw [if_pos e2] at g4; rw [if_pos (by omega)]; exact g4
    · rw [if_neg e2] at g4; rw [if_neg (by omega)]; exact g4

end Go.Proofs.Ytaalkjbkmkjkpaa.Msg

namespace Go.Proofs.Ytaalkjbkmkjkpaa.Msg
open Go.ChangeShapes Go.WideShapes Go.ChangeAt Go.RowKit
set_option linter.unusedVariables false
set_option linter.unusedSimpArgs false

theorem hold1 {w w' : World} {b o : Nat} {v : Value} (h : Below w.heap.size w w') (h1 : b < w.heap.size) (g1 : w.cell? ⟨b, o, none⟩ = some v) : w'.cell? ⟨b, o, none⟩ = some v ∧ Below w.heap.size w w' :=
  ⟨by rw [h.cell (p := ⟨b, o, none⟩) h1]; exact g1, h⟩

/-- the places of a marked list -/
theorem mkL_form {α : Type} {n : Nat} {R : Nat → World → Nat → Nat → α → Prop} {mk : Nat → α → α} {c : α → Nat} {d : α} {k lo : Nat} {w : World} {v : Value} {xs : List α} (h : At n R lo w v (mkL mk c d k xs)) :
    ∃ a cap, v = .slice a xs.length cap ∧ ∀ j (h : j < xs.length), ∃ b off, a = some ⟨b, off, none⟩ ∧ b < w.heap.size ∧ R lo w b (off + j * n) (mk (k + sumOf c (xs.take j)) xs[j]) := by
  obtain ⟨a, cap, rfl, hc⟩ := h.form
  refine ⟨a, cap, by rw [mkL_len], fun j hj => ?_⟩
  obtain ⟨b, off, e, _, hb, hr⟩ := hc j (by rw [mkL_len]; exact hj)
  rw [mkL_get mk c d k xs j hj] at hr
  exact ⟨b, off, e, hb, hr⟩

set_option maxHeartbeats 1000000 in
theorem heldStrs_any (xs : List ByteArray) (v : Value) (k : Nat) (w : World) (hk : 1 ≤ k) (hkb : k + cRep xs ≤ 4611686018427387904) {lo : Nat} (hv : StrsAt lo w v (mkRep k xs)) :
    Calls Try.prog 60 #[v, .int .i64 (k : Int)] w fun e w' => e = .returned (.int .i64 ((k + cRep xs : Nat) : Int)) ∧ Below w.heap.size w w' := by
  have hl : xs.length ≤ 9223372036854775807 := by have := hv.1; unfold mkRep at this; rw [mkL_len] at this; exact this
  have HCL := hide (cRep_len xs)
  rw [HCL.out] at hkb ⊢
  obtain ⟨a, cap, rfl, hc⟩ := mkL_form hv
  have HC : Hid (∀ j (h : j < xs.length), ∃ b off, a = some ⟨b, off, none⟩ ∧ b < w.heap.size ∧ w.cell? ⟨b, off + j, none⟩ = some (.string (markT (k + j)))) := fun j hj => by
    obtain ⟨b, off, e, hb, hr⟩ := hc j hj
    rw [one_take xs j (by omega)] at hr
    exact ⟨b, off, e, hb, by have h9 := hr.1; rw [Nat.mul_one] at h9; exact h9⟩
  clear hc hv
  go_enter Try.func60, Try.ntmps60
  go_wp2
  go_loopw [1, 5] (fun r i w1 => ∃ j : Nat, j ≤ xs.length ∧ i = .int .i64 j ∧ r = .int .i64 ((k : Int) + (j : Int)) ∧ Below w.heap.size w w1) (fun _ i _ => xs.length - (intOf i).toNat)
  case atStart => exact ⟨0, Nat.zero_le _, rfl, by simp, Below.refl _ _⟩
  case round =>
    obtain ⟨j, hj, rfl, rfl, hb⟩ := hrel
    by_cases hj2 : j < xs.length
    · obtain ⟨b, off, rfl, hbl, hcell⟩ := HC.out j hj2
      have h1 : wr.cell? ⟨b, off + j, none⟩ = some (.string (markT (k + j))) := by rw [hb.cell (p := ⟨b, off + j, none⟩) hbl]; exact hcell
      have hi : (j : Int) < (xs.length : Int) := by omega
      have hi0 : (0 : Int) ≤ (j : Int) := by omega
      have hd := hb.drew
      have ecast : ((k : Int) + (j : Int)) = ((k + j : Nat) : Int) := by omega
      have HEC := hide ecast
      clear ecast
      go_wp2
      go_region_held3 (fun w' => w'.cell? ⟨b, off + j, none⟩ = some (.string (markT (k + j))) ∧ Below w.heap.size w w')
        (first | exact hold1 hd hbl hcell | exact hold1 hb9 hbl hcell)
        ((go_at_call 59; rw [HEC.out]; refine (markText_any (k + j) _ (by omega) (by omega)).mono ?_; rintro e w2 ⟨rfl, hb2⟩; have hb9 : Below w.heap.size w w2 := bjoin hb2 (by assumption)))
      go_wp2
      go_roundw
      case rel => exact ⟨j + 1, by omega, by go_num, by go_num, hb9⟩
      case measure => simp [intOf]; omega
    · obtain rfl : j = xs.length := by omega
      go_wp2
      go_ret
      exact ⟨ret_int (by omega), hb⟩

end Go.Proofs.Ytaalkjbkmkjkpaa.Msg
