import Derived.Test.YtpdnocolmghnbaaDoorImplShort3
import Derived.Test.YtpdnocolmghnbaaDoorParseUnesc
namespace Go.Proofs.YtpdnocolmghnbaaDoor.Msg
open Go.ChangeShapes Go.WideShapes Go.ChangeAt Go.RowKit
set_option linter.unusedVariables false
set_option linter.unusedSimpArgs false

theorem own_mono {base base' : Nat} {e : TypeId} {sz : Nat} {w : World} {v : Value} {n : Nat} {vs : List Value} (h : w.ownsRow base e sz v n vs) (hb : base' ≤ base) : w.ownsRow base' e sz v n vs := by
  obtain ⟨hl, h | ⟨g, cap, cur, e1, hg, rest⟩⟩ := h
  · exact ⟨hl, .inl h⟩
  · exact ⟨hl, .inr ⟨g, cap, cur, e1, Nat.le_trans hb hg, rest⟩⟩

set_option maxHeartbeats 1000000 in
theorem newRep_any (ps : List (List UInt8)) (base : Nat) (v : Value) (w : World) (hv : SBuf base w v (ps.map txt)) (hp : 0 < ps.length) (hl : ps.length ≤ 40001) (hz : ∀ p ∈ ps, p.length ≤ 1048576) :
    Calls Tryd.prog 42 #[v] w fun e w' => ∃ u, e = .returned (.agg #[u]) ∧ SBuf w.heap.size w' u ((trimE List.isEmpty ps).map txt) ∧ Below w.heap.size w w' := by
  have hb0 := (Below.refl w.heap.size w).alloc (Nat.le_refl _) (Obj.cells #[.slice none 0 0] 50)
  have hv1 := own_below hv hb0
  have HB0 := hide hb0
  clear hb0 hv
  go_enter Tryd.func42, Tryd.ntmps42
  go_wp2_with fail
  refine (cutS_any ps base _ _ hv1 hp hl hz).mono ?_
  rintro e w2 ⟨u, rfl, hu, hb2⟩
  obtain ⟨a, cap, rfl⟩ := own_form hu
  have hs2 : w.heap.size < w2.heap.size := by have := hb2.size; simp at this; omega
  have hc2 : w2.cell? ⟨w.heap.size, 0, none⟩ = some (.slice none 0 0) := by rw [hb2.cell (p := ⟨w.heap.size, 0, none⟩) (by simp)]; simp
  have hf2 : w2.frozen? ⟨w.heap.size, 0, none⟩ = false := by rw [hb2.frozen (p := ⟨w.heap.size, 0, none⟩) (by simp)]; simp
  have hu1 : w2.ownsRow (w.heap.size + 1) 9 1 (.slice a ((trimE List.isEmpty ps).map txt).length cap) ((trimE List.isEmpty ps).map txt).length (((trimE List.isEmpty ps).map txt).map Value.string) := by
    have := hu
    unfold SBuf at this
    simpa using this
  have HU : Hid (SBuf w.heap.size (w2.setCell ⟨w.heap.size, 0, none⟩ (.slice a ((trimE List.isEmpty ps).map txt).length cap)) (.slice a ((trimE List.isEmpty ps).map txt).length cap) ((trimE List.isEmpty ps).map txt)) :=
    own_mono (own_above2 hu1 (fun b hb' => Deep.blk_setCell_other _ _ _ _ (by simp; omega))) (by omega)
  have HBW := hide ((bjoin' hb2 HB0.out).setCell (p := ⟨w.heap.size, 0, none⟩) (by simp) (.slice a ((trimE List.isEmpty ps).map txt).length cap))
  clear hu hu1 hv1 hb2
  generalize ((trimE List.isEmpty ps).map txt).length = n at *
  go_wp2_with fail
  exact bodyPost_ret (v := .agg #[.slice a n cap]) (by simp [results, Tryd.results42, go_sem, hc2, hf2, hs2]) rfl ⟨_, rfl, HU.out, HBW.out⟩

set_option maxHeartbeats 1000000 in
theorem newField_any {β : Type} (xs : List (List β)) (vs : List Value) (base : Nat) (v : Value) (w : World) (hv : w.ownsRow base 50 1 v vs.length vs) (hL : Lens vs xs) (hp : 0 < vs.length) (hl : vs.length ≤ 40001) (hz : ∀ x ∈ xs, x.length ≤ 9223372036854775807) :
    Calls Tryd.prog 43 #[v] w fun e w' => ∃ u, e = .returned (.agg #[u]) ∧ w'.ownsRow w.heap.size 50 1 u (keepN List.isEmpty xs) (vs.take (keepN List.isEmpty xs)) ∧ Below w.heap.size w w' := by
  have hb0 := (Below.refl w.heap.size w).alloc (Nat.le_refl _) (Obj.cells #[.slice none 0 0] 47)
  have hv1 := own_below hv hb0
  have HB0 := hide hb0
  clear hb0 hv
  go_enter Tryd.func43, Tryd.ntmps43
  go_wp2_with fail
  refine (cutR_any xs vs base _ _ hv1 hL hp hl hz).mono ?_
  rintro e w2 ⟨u, rfl, hu, hb2⟩
  obtain ⟨a, cap, rfl⟩ := own_form hu
  have hs2 : w.heap.size < w2.heap.size := by have := hb2.size; simp at this; omega
  have hc2 : w2.cell? ⟨w.heap.size, 0, none⟩ = some (.slice none 0 0) := by rw [hb2.cell (p := ⟨w.heap.size, 0, none⟩) (by simp)]; simp
  have hf2 : w2.frozen? ⟨w.heap.size, 0, none⟩ = false := by rw [hb2.frozen (p := ⟨w.heap.size, 0, none⟩) (by simp)]; simp
  have hu1 : w2.ownsRow (w.heap.size + 1) 50 1 (.slice a (keepN List.isEmpty xs) cap) (keepN List.isEmpty xs) (vs.take (keepN List.isEmpty xs)) := by simpa using hu
  have HU : Hid ((w2.setCell ⟨w.heap.size, 0, none⟩ (.slice a (keepN List.isEmpty xs) cap)).ownsRow w.heap.size 50 1 (.slice a (keepN List.isEmpty xs) cap) (keepN List.isEmpty xs) (vs.take (keepN List.isEmpty xs))) :=
    own_mono (own_above2 hu1 (fun b hb' => Deep.blk_setCell_other _ _ _ _ (by simp; omega))) (by omega)
  have HBW := hide ((bjoin' hb2 HB0.out).setCell (p := ⟨w.heap.size, 0, none⟩) (by simp) (.slice a (keepN List.isEmpty xs) cap))
  clear hu hu1 hv1 hb2
  go_wp2_with fail
  exact bodyPost_ret (v := .agg #[.slice a (keepN List.isEmpty xs) cap]) (by simp [results, Tryd.results43, go_sem, hc2, hf2, hs2]) rfl ⟨_, rfl, HU.out, HBW.out⟩

set_option maxHeartbeats 1000000 in
theorem newSegment_any {β : Type} (name : ByteArray) (xs : List (List β)) (vs : List Value) (base : Nat) (v : Value) (w : World) (hv : w.ownsRow base 47 1 v vs.length vs) (hL : Lens vs xs) (hn : vs.length = 0 → v = .slice none 0 0) (hl : vs.length ≤ 40001) (hz : ∀ x ∈ xs, x.length ≤ 9223372036854775807) :
    Calls Tryd.prog 44 #[.string name, v] w fun e w' => ∃ u, e = .returned (.agg #[.string name, u]) ∧ w'.ownsRow w.heap.size 47 1 u (keepN List.isEmpty xs) (vs.take (keepN List.isEmpty xs)) ∧ Below w.heap.size w w' := by
  have hb0 := (Below.refl w.heap.size w).alloc (Nat.le_refl _) (Obj.cells #[.string ByteArray.empty, .slice none 0 0] 38)
  have hv1 := own_below hv hb0
  have HB0 := hide hb0
  have HN := hide hn
  have HCUT : Hid (∀ W, W.ownsRow base 47 1 v vs.length vs → Calls Tryd.prog 63 #[v, .func (.func 46) #[] #[]] W fun e w' => ∃ u, e = .returned u ∧ w'.ownsRow W.heap.size 47 1 u (keepN List.isEmpty xs) (vs.take (keepN List.isEmpty xs)) ∧ Below W.heap.size W w') := fun W hW => by
    by_cases h0 : vs.length = 0
    · rw [hn h0]
      refine (cutF_nil W).mono ?_
      rintro e w' ⟨rfl, rfl⟩
      have hx : xs = [] := List.length_eq_zero_iff.1 (by have := hL.1; omega)
      refine ⟨_, rfl, ?_, Below.refl _ _⟩
      rw [hx]
      exact World.ownsRow_nil w' w'.heap.size 47 1
    · exact cutF_any xs vs base v W hW hL (by omega) hl hz
  clear hb0 hv hn
  go_enter Tryd.func44, Tryd.ntmps44
  go_wp2_with fail
  refine (HCUT.out _ hv1).mono ?_
  rintro e w2 ⟨u, rfl, hu, hb2⟩
  obtain ⟨a, cap, rfl⟩ := own_form hu
  have hs2 : w.heap.size < w2.heap.size := by have := hb2.size; simp at this; omega
  have hc2 : w2.cell? ⟨w.heap.size, 0, none⟩ = some (.string ByteArray.empty) := by rw [hb2.cell (p := ⟨w.heap.size, 0, none⟩) (by simp)]; simp
  have hf2 : w2.frozen? ⟨w.heap.size, 0, none⟩ = false := by rw [hb2.frozen (p := ⟨w.heap.size, 0, none⟩) (by simp)]; simp
  have hc3 : w2.cell? ⟨w.heap.size, 1, none⟩ = some (.slice none 0 0) := by rw [hb2.cell (p := ⟨w.heap.size, 1, none⟩) (by simp)]; simp
  have hf3 : w2.frozen? ⟨w.heap.size, 1, none⟩ = false := by rw [hb2.frozen (p := ⟨w.heap.size, 1, none⟩) (by simp)]; simp
  have hu1 : w2.ownsRow (w.heap.size + 1) 47 1 (.slice a (keepN List.isEmpty xs) cap) (keepN List.isEmpty xs) (vs.take (keepN List.isEmpty xs)) := by simpa using hu
  have HU : Hid (∀ x y, (((w2.setCell ⟨w.heap.size, 0, none⟩ x).setCell ⟨w.heap.size, 1, none⟩ y)).ownsRow w.heap.size 47 1 (.slice a (keepN List.isEmpty xs) cap) (keepN List.isEmpty xs) (vs.take (keepN List.isEmpty xs))) := fun x y =>
    own_mono (own_above2 (own_above2 hu1 (fun b hb' => Deep.blk_setCell_other _ _ _ _ (by simp; omega))) (fun b hb' => Deep.blk_setCell_other _ _ _ _ (by simp; omega))) (by omega)
  have HBW : Hid (∀ x y, Below w.heap.size w ((w2.setCell ⟨w.heap.size, 0, none⟩ x).setCell ⟨w.heap.size, 1, none⟩ y)) := fun x y => ((bjoin' hb2 HB0.out).setCell (p := ⟨w.heap.size, 0, none⟩) (by simp) x).setCell (p := ⟨w.heap.size, 1, none⟩) (by simp) y
  clear hu hu1 hv1 hb2
  go_wp2_with fail
  exact bodyPost_ret (v := .agg #[.string name, .slice a (keepN List.isEmpty xs) cap]) (by simp [results, Tryd.results44, go_sem, hc2, hf2, hs2, hc3, hf3]) rfl ⟨_, rfl, HU.out _ _, HBW.out _ _⟩
end Go.Proofs.YtpdnocolmghnbaaDoor.Msg
