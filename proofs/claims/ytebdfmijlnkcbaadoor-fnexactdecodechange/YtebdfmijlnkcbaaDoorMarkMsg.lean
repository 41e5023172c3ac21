import Derived.Test.YtebdfmijlnkcbaaDoorMarkStr
namespace Go.Proofs.YtebdfmijlnkcbaaDoor.Msg
open Go.ChangeShapes Go.WideShapes Go.ChangeAt Go.RowKit
set_option linter.unusedVariables false
set_option linter.unusedSimpArgs false

theorem disj_of {bss : List (List Nat)} (h : bss.flatten.Nodup) {i j : Nat} (hi : i < bss.length) (hj : j < bss.length) (hij : i ≠ j) {c : Nat} (hc : c ∈ bss[i]) : c ∉ bss[j] := by
  intro hd
  rw [List.Nodup, List.pairwise_flatten] at h
  have hp := List.pairwise_iff_getElem.1 h.2
  rcases Nat.lt_or_gt_of_ne hij with hlt | hlt
  · exact hp i j hi hj hlt c hc c hd rfl
  · exact hp j i hj hi hlt c hd c hc rfl

/-- the first j elements of a row of lists are marked -/
def Mix {α : Type} (O : World → Value → α → List Nat → Prop) (mk : Nat → α → α) (c : α → Nat) (k : Nat) (w : World) (b off : Nat) (xs : List α) (bss : List (List Nat)) (j : Nat) : Prop :=
  ∀ i (h : i < xs.length) (h2 : i < bss.length), ∃ v, w.cell? ⟨b, off + i, none⟩ = some v ∧ O w v (if i < j then mk (k + sumOf c (xs.take i)) xs[i] else xs[i]) bss[i]

theorem Mix.step {α : Type} {O : World → Value → α → List Nat → Prop} {mk : Nat → α → α} {c : α → Nat} {k : Nat} {w w2 : World} {b off : Nat} {xs : List α} {bss : List (List Nat)} {j : Nat}
    (hkeep : ∀ w w' v x bs, O w v x bs → w.heap.size ≤ w'.heap.size → (∀ d ∈ bs, w'.heap[d]? = w.heap[d]?) → O w' v x bs) (hlt : ∀ w v x bs, O w v x bs → ∀ d ∈ bs, d < w.heap.size)
    (h : Mix O mk c k w b off xs bss j) (hb : b < w.heap.size) (hn : (b :: bss.flatten).Nodup) (hj : j < xs.length) (hj2 : j < bss.length) {v : Value} (hv : w.cell? ⟨b, off + j, none⟩ = some v)
    (ho : Only bss[j] w w2) (hO : O w2 v (mk (k + sumOf c (xs.take j)) xs[j]) bss[j]) : Mix O mk c k w2 b off xs bss (j + 1) := by
  rw [List.nodup_cons] at hn
  have hbj : b ∉ bss[j] := fun hm => hn.1 (by rw [List.mem_flatten]; exact ⟨_, List.getElem_mem hj2, hm⟩)
  have hrow := ho.block b hb hbj
  intro i hi h2
  by_cases e : i = j
  · subst e
    exact ⟨v, by rw [cellSame hrow]; exact hv, by rw [if_pos (by omega)]; exact hO⟩
  · obtain ⟨vi, g1, g2⟩ := h i hi h2
    refine ⟨vi, by rw [cellSame hrow]; exact g1, ?_⟩
    have g3 := hkeep _ w2 _ _ _ g2 ho.size fun d hd => ho.block d (hlt _ _ _ _ g2 d hd) (disj_of hn.2 h2 hj2 e hd)
    by_cases e2 : i < j
    · rw [if_pos e2] at g3; rw [if_pos (by omega)]; exact g3
    · rw [if_neg e2] at g3; rw [if_neg (by omega)]; exact g3

theorem sub_flat {bss : List (List Nat)} {j : Nat} (hj : j < bss.length) (b : Nat) : ∀ c ∈ bss[j], c ∈ b :: bss.flatten := fun c hc => by
  simp only [List.mem_cons, List.mem_flatten]
  exact .inr ⟨bss[j], List.getElem_mem hj, hc⟩

theorem nodup_at {bss : List (List Nat)} {b j : Nat} (h : (b :: bss.flatten).Nodup) (hj : j < bss.length) : bss[j].Nodup := by
  rw [List.nodup_cons, List.Nodup, List.pairwise_flatten] at h
  exact h.2.1 _ (List.getElem_mem hj)

end Go.Proofs.YtebdfmijlnkcbaaDoor.Msg
