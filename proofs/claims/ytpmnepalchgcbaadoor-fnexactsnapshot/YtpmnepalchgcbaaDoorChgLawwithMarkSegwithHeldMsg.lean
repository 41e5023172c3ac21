import Derived.Test.YtpmnepalchgcbaaDoorRowsImplwithQryNumwithChgPure
import Derived.Test.YtpmnepalchgcbaaDoorMsgDatawithMsgSzwithMsgSz2
import Derived.Test.YtpmnepalchgcbaaDoorMsgSz3withMsgEqwithMsgEq2
import Derived.Test.YtpmnepalchgcbaaDoorMsgTowithMsgTo2withTblSz
import Derived.Test.YtpmnepalchgcbaaDoorMarkMsgwithMarkWantwithMarkTbl
import Derived.Deep.RegionHeld3
namespace Go.Proofs.YtpmnepalchgcbaaDoor.Msg
open Go.ChangeShapes Go.WideShapes Go.ChangeAt Go.RowKit
set_option linter.unusedVariables false
set_option linter.unusedSimpArgs false

/-! the laws' own functions over changes -/
def chgSz (c : Chg) : Nat := c.tag.size + c.query.size + repSz c.rows

def chgEqW (v u : Value) (rows : List ByteArray) (w : World) : Prop := (∃ lo, StrsAt lo w v rows) ∧ ∃ lo, StrsAt lo w u rows
end Go.Proofs.YtpmnepalchgcbaaDoor.Msg

namespace Go.Proofs.YtpmnepalchgcbaaDoor.Msg
open Go.ChangeShapes Go.WideShapes Go.ChangeAt Go.RowKit
set_option linter.unusedVariables false
set_option linter.unusedSimpArgs false

def MixS (k : Nat) (w : World) (b off : Nat) (xs : List Seg) (bss : List (List Nat)) (j : Nat) : Prop :=
  ∀ i (h : i < xs.length) (h2 : i < bss.length), SegO w b (off + i * 2) (if i < j then mkSeg (k + sumOf cSeg (xs.take i)) xs[i] else xs[i]) bss[i]

theorem MixS.step {k : Nat} {w w2 w4 : World} {b off : Nat} {xs : List Seg} {bss : List (List Nat)} {j : Nat} {v : Value}
    (h : MixS k w b off xs bss j) (hb : b < w.heap.size) (hn : (b :: bss.flatten).Nodup) (hj : j < xs.length) (hj2 : j < bss.length) (hk : k + sumOf cSeg (xs.take j) < 18446744073709551616)
    (hb2 : Below w.heap.size w w2) (hv : w.cell? ⟨b, off + j * 2 + 1, none⟩ = some v)
    (ho : Only bss[j] (w2.setCell ⟨b, off + j * 2, none⟩ (.string (markT (k + sumOf cSeg (xs.take j))))) w4)
    (hO : OFields w4 v (mkFields (k + sumOf cSeg (xs.take j) + 1) xs[j].fields) bss[j]) : MixS k w4 b off xs bss (j + 1) := by
  have hn0 := hn
  rw [List.nodup_cons] at hn
  have hnb : ∀ i (h2 : i < bss.length), b ∉ bss[i] := fun i h2 hm => hn.1 (by rw [List.mem_flatten]; exact ⟨_, List.getElem_mem h2, hm⟩)
  have hs2 := hb2.size
  have hrow4 : w4.heap[b]? = (w2.setCell ⟨b, off + j * 2, none⟩ (.string (markT (k + sumOf cSeg (xs.take j))))).heap[b]? := ho.block b (by rw [Deep.nblk_setCell]; omega) (hnb j hj2)
  have hfz : ∀ o, w4.frozen? ⟨b, o, none⟩ = w.frozen? ⟨b, o, none⟩ := fun o => by rw [frozenSame hrow4, World.frozen?_setCell, hb2.frozen (p := ⟨b, o, none⟩) hb]
  have hoth : ∀ o, o ≠ off + j * 2 → w4.cell? ⟨b, o, none⟩ = w.cell? ⟨b, o, none⟩ := fun o ho' => by
    rw [cellSame hrow4, World.cell?_setCell_other _ _ _ _ (by intro e; injection e with _ e2 _; omega), hb2.cell (p := ⟨b, o, none⟩) hb]
  intro i hi h2
  by_cases e : i = j
  · subst e
    obtain ⟨g0, gf, gz, vi, g1, g2⟩ := h i hi h2
    rw [if_pos (by omega)]
    refine ⟨?_, by rw [hfz]; exact gf, by have := markT_size _ hk; exact Nat.le_trans this (by omega), v, by rw [hoth _ (by omega)]; exact hv, hO⟩
    rw [cellSame hrow4, World.cell?_setCell_same _ _ _ (u := .string (if i < i then mkSeg (k + sumOf cSeg (xs.take i)) xs[i] else xs[i]).name) (by rw [hb2.cell (p := ⟨b, off + i * 2, none⟩) hb]; exact g0)]
    rfl
  · obtain ⟨g0, gf, gz, vi, g1, g2⟩ := h i hi h2
    have g3 : OFields w4 vi _ bss[i] := OAt.kept keptO_field g2 (by have := ho.size; rw [Deep.nblk_setCell] at this; omega) fun d hd => by
      have hdl := OAt.lt ltO_field g2 d hd
      rw [ho.block d (by rw [Deep.nblk_setCell]; omega) (disj_of hn.2 h2 hj2 e hd), Deep.blk_setCell_other _ _ _ _ (fun e2 => hnb i h2 (by have e3 : d = b := e2; rw [← e3]; exact hd))]
      exact hb2.block d hdl
    have g4 : SegO w4 b (off + i * 2) (if i < j then mkSeg (k + sumOf cSeg (xs.take i)) xs[i] else xs[i]) bss[i] :=
      ⟨by rw [hoth _ (by omega)]; exact g0, by rw [hfz]; exact gf, gz, vi, by rw [hoth _ (by omega)]; exact g1, g3⟩
    by_cases e2 : i < j
    · rw [if_pos e2] at g4; rw [if_pos (by omega)]; exact g4
    · rw [if_neg e2] at g4; rw [if_neg (by omega)]; exact g4

end Go.Proofs.YtpmnepalchgcbaaDoor.Msg

namespace Go.Proofs.YtpmnepalchgcbaaDoor.Msg
open Go.ChangeShapes Go.WideShapes Go.ChangeAt Go.RowKit
set_option linter.unusedVariables false
set_option linter.unusedSimpArgs false

theorem hold1 {w w' : World} {b o : Nat} {v : Value} (h : Below w.heap.size w w') (h1 : b < w.heap.size) (g1 : w.cell? ⟨b, o, none⟩ = some v) : w'.cell? ⟨b, o, none⟩ = some v ∧ Below w.heap.size w w' :=
  ⟨by rw [h.cell (p := ⟨b, o, none⟩) h1]; exact g1, h⟩

/-- the places of a marked list -/
theorem mkL_form {α : Type} {n : Nat} {R : Nat → World → Nat → Nat → α → Prop} {mk : Nat → α → α} {c : α → Nat} {d : α} {k lo : Nat} {w : World} {v : Value} {xs : List α} (h : At n R lo w v (mkL mk c d k xs)) :
    ∃ a cap, v = .slice a xs.length cap ∧ ∀ j (h : j < xs.length), ∃ b off, a = some ⟨b, off, none⟩ ∧ b < w.heap.size ∧ R lo w b (off + j * n) (mk (k + sumOf c (xs.take j)) xs[j]) := by
  obtain ⟨a, cap, rfl, hc⟩ := h.form
  refine ⟨a, cap, by rw [mkL_len], fun j hj => ?_⟩
  obtain ⟨b, off, e, _, hb, hr⟩ := hc j (by rw [mkL_len]; exact hj)
  rw [mkL_get mk c d k xs j hj] at hr
  exact ⟨b, off, e, hb, hr⟩

end Go.Proofs.YtpmnepalchgcbaaDoor.Msg
