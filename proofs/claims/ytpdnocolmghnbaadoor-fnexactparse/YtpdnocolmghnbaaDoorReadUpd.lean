import Derived.Test.YtpdnocolmghnbaaDoorParseUnesc
import Derived.Test.YtpdnocolmghnbaaDoorMarkMsg
namespace Go.Proofs.YtpdnocolmghnbaaDoor.Msg
open Go.ChangeShapes Go.WideShapes Go.ChangeAt Go.RowKit
set_option linter.unusedVariables false
set_option linter.unusedSimpArgs false

/-! one element of an owned list is put anew -/
theorem strs_upd {w : World} {v : Value} {xs : List ByteArray} {bs : List Nat} (h : OStrs w v xs bs) {i : Nat} (hi : i < xs.length) :
    ∃ b off cap, v = .slice (some ⟨b, off, none⟩) xs.length cap ∧ b < w.heap.size ∧ b ∈ bs ∧ w.cell? ⟨b, off + i, none⟩ = some (.string xs[i]) ∧ w.frozen? ⟨b, off + i, none⟩ = false ∧
      ∀ (w2 : World) (t : ByteArray), t.size ≤ 9223372036854775807 → Below w.heap.size w w2 → OStrs (w2.setCell ⟨b, off + i, none⟩ (.string t)) v (xs.set i t) bs ∧ Only bs w (w2.setCell ⟨b, off + i, none⟩ (.string t)) := by
  obtain ⟨hl, ⟨a0, c0, rfl, rfl, rfl⟩ | ⟨b, off, cap, bss, rfl, hlt, rfl, hlen, hc⟩⟩ := h
  · simp at hi
  · refine ⟨b, off, cap, rfl, hlt, by simp, by simpa using (hc i hi (by omega)).1, by simpa using (hc i hi (by omega)).2.1, fun w2 t ht hb => ⟨⟨by simpa using hl, .inr ⟨b, off, cap, bss, by rw [List.length_set], by rw [Deep.nblk_setCell]; exact Nat.lt_of_lt_of_le hlt hb.size, rfl, by rw [List.length_set]; exact hlen, fun j hj h2 => ?_⟩⟩, (Only.of_below hb).setCell (by simp) _⟩⟩
    have hj' : j < xs.length := by simpa using hj
    obtain ⟨c1, c2, c3, c4⟩ := hc j hj' h2
    have d1 : w2.cell? ⟨b, off + j * 1, none⟩ = some (.string xs[j]) := by rw [hb.cell (p := ⟨b, off + j * 1, none⟩) hlt]; exact c1
    have d2 : w2.frozen? ⟨b, off + j * 1, none⟩ = false := by rw [hb.frozen (p := ⟨b, off + j * 1, none⟩) hlt]; exact c2
    by_cases e : j = i
    · subst e
      rw [List.getElem_set_self]
      rw [Nat.mul_one] at d1 d2 ⊢
      exact ⟨World.cell?_setCell_same _ _ _ d1, by rw [World.frozen?_setCell]; exact d2, ht, c4⟩
    · rw [List.getElem_set_ne (by omega)]
      refine ⟨?_, by rw [World.frozen?_setCell]; exact d2, c3, c4⟩
      rw [World.cell?_setCell_other _ _ _ _ (by intro h; injection h with _ h2 _; omega)]
      exact d1

theorem list_upd {α : Type} {O : World → Value → α → List Nat → Prop} (hkeep : ∀ w w' v x bs, O w v x bs → w.heap.size ≤ w'.heap.size → (∀ d ∈ bs, w'.heap[d]? = w.heap[d]?) → O w' v x bs) (hltO : ∀ w v x bs, O w v x bs → ∀ d ∈ bs, d < w.heap.size)
    {w : World} {v : Value} {xs : List α} {bs : List Nat} (h : OAt 1 (fun w b off x bs => ∃ v, w.cell? ⟨b, off, none⟩ = some v ∧ O w v x bs) w v xs bs) (hnd : bs.Nodup) {i : Nat} (hi : i < xs.length) :
    ∃ b off cap ve bs', v = .slice (some ⟨b, off, none⟩) xs.length cap ∧ b < w.heap.size ∧ b ∉ bs' ∧ (∀ c ∈ bs', c ∈ bs) ∧ bs'.Nodup ∧ w.cell? ⟨b, off + i, none⟩ = some ve ∧ O w ve xs[i] bs' ∧
      ∀ (w2 : World) (y : α), Only bs' w w2 → O w2 ve y bs' → OAt 1 (fun w b off x bs => ∃ v, w.cell? ⟨b, off, none⟩ = some v ∧ O w v x bs) w2 v (xs.set i y) bs := by
  obtain ⟨hl, ⟨a0, c0, rfl, rfl, rfl⟩ | ⟨b, off, cap, bss, rfl, hlt, rfl, hlen, hc⟩⟩ := h
  · simp at hi
  · have hib : i < bss.length := by omega
    obtain ⟨ve, g1, g2⟩ := hc i hi hib
    have hn := hnd
    rw [List.nodup_cons] at hn
    have hbi : b ∉ bss[i] := fun hm => hn.1 (by rw [List.mem_flatten]; exact ⟨_, List.getElem_mem hib, hm⟩)
    refine ⟨b, off, cap, ve, bss[i], rfl, hlt, hbi, sub_flat hib b, nodup_at hnd hib, by simpa using g1, g2, fun w2 y ho hO => ⟨by simpa using hl, .inr ⟨b, off, cap, bss, by rw [List.length_set], Nat.lt_of_lt_of_le hlt ho.size, rfl, by rw [List.length_set]; exact hlen, fun j hj h2 => ?_⟩⟩⟩
    have hj' : j < xs.length := by simpa using hj
    have hrow := ho.block b hlt hbi
    by_cases e : j = i
    · subst e
      rw [List.getElem_set_self]
      exact ⟨ve, by rw [cellSame hrow]; exact g1, hO⟩
    · rw [List.getElem_set_ne (by omega)]
      obtain ⟨vj, k1, k2⟩ := hc j hj' h2
      exact ⟨vj, by rw [cellSame hrow]; exact k1, hkeep _ w2 _ _ _ k2 ho.size fun dd hd => ho.block dd (hltO _ _ _ _ k2 dd hd) (disj_of hn.2 h2 hib e hd)⟩

/-- the first j are read, the rest as they were -/
theorem set_mid {α : Type} (ys xs : List α) (j : Nat) (hj : j < xs.length) (hl : ys.length = j) (y : α) : (ys ++ xs.drop j).set j y = (ys ++ [y]) ++ xs.drop (j + 1) := by
  subst hl
  rw [List.set_append_right _ _ (Nat.le_refl _), Nat.sub_self, List.drop_eq_getElem_cons hj, List.set_cons_zero]
  simp
theorem at_mid {α : Type} (ys xs : List α) (j : Nat) (hj : j < xs.length) (hl : ys.length = j) (h : j < (ys ++ xs.drop j).length) : (ys ++ xs.drop j)[j] = xs[j] := by
  subst hl
  rw [List.getElem_append_right (Nat.le_refl _)]
  simp
theorem len_mid {α : Type} (ys xs : List α) (j : Nat) (hj : j ≤ xs.length) (hl : ys.length = j) : (ys ++ xs.drop j).length = xs.length := by
  rw [List.length_append, List.length_drop]; omega
end Go.Proofs.YtpdnocolmghnbaaDoor.Msg
