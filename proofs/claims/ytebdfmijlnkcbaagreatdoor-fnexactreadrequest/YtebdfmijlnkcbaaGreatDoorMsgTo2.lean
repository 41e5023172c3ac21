import Derived.Test.YtebdfmijlnkcbaaGreatDoorMsgTo
namespace Go.Proofs.YtebdfmijlnkcbaaGreatDoor.Msg
open Go.ChangeShapes Go.WideShapes Go.ChangeAt Go.RowKit
set_option linter.unusedVariables false
set_option linter.unusedSimpArgs false

theorem bcells {W w1 : World} (hb : Below W.heap.size W w1) : (∀ b o, b < W.heap.size → w1.cell? ⟨b, o, none⟩ = W.cell? ⟨b, o, none⟩) ∧ (∀ b o, b < W.heap.size → w1.frozen? ⟨b, o, none⟩ = W.frozen? ⟨b, o, none⟩) :=
  ⟨fun b o h => hb.cell (p := ⟨b, o, none⟩) h, fun b o h => hb.frozen (p := ⟨b, o, none⟩) h⟩

theorem Same.setCell {lo : Nat} {w w' : World} (h : Same lo w w') {b o : Nat} (hb : b < lo) (v : Value) : Same lo w (w'.setCell ⟨b, o, none⟩ v) :=
  ⟨by rw [Deep.nblk_setCell]; exact h.1, fun k h1 h2 => by rw [Deep.blk_setCell_other _ _ _ _ (by simp; omega)]; exact h.2 k h1 h2⟩
theorem Same.drew {lo : Nat} {w w' : World} (h : Same lo w w') : Same lo w w'.drew := h

set_option maxHeartbeats 400000 in
theorem toRep_any (x : Rep) (v : Value) (w : World) (hn : x.length ≤ 1048576) {lo : Nat} (hv : StrsAt lo w v x) :
    Calls Tryz.prog 57 #[.agg #[v]] w fun e w' => ∃ u, e = .returned (.agg #[u]) ∧ StrsAt w.heap.size w' u x ∧ Below w.heap.size w w' := by
  have hb0 := (((Below.refl w.heap.size w).alloc (Nat.le_refl _) (Obj.cells #[v] 126)).alloc (by simp) (Obj.cells #[.slice none 0 0] 67)).alloc (by simp; omega) (Obj.cells #[.slice none 0 0] 67)
  have hv' := At.kept kept_str hv hb0
  go_enter Tryz.func57, Tryz.ntmps57
  go_wp2_with fail
  refine (toStrs_any x v _ hn hv').mono ?_
  rintro e w4 ⟨u, rfl, hu, hb⟩
  obtain ⟨hc, hf⟩ := bcells hb
  have hz : w.heap.size + 2 < w4.heap.size := by have := hb.size; simp at this; omega
  obtain ⟨a, cap, rfl, _⟩ := hu.form
  go_wp2_with fail
  refine bodyPost_ret (v := .agg #[.slice a x.length cap]) (by simp [results, Tryz.results57, go_sem, hc, hz]) rfl ⟨_, rfl, ?_, ?_⟩
  · have hu2 : StrsAt (w.heap.size + 3) w4 (.slice a x.length cap) x := by simpa using hu
    exact At.mono mono_str (At.same kept_str hu2 (((Same.refl _ _).setCell (by omega) _).setCell (by omega) _)) (by omega)
  · exact ((hb0.trans (hb.mono (by simp; omega))).setCell (by simp; omega) _).setCell (by simp) _

/-- the state of a loop that fills a row of new elements, one cell each -/
def Filling {α : Type} (A : Nat → World → Value → α → Prop) (w : World) (t : TypeId) (xs : List α) (k : Nat) (w1 : World) : Prop :=
  (∃ f, w1.rowIs w.heap.size t xs.length f ∧ ∀ j (h : j < xs.length), j < k → A (w.heap.size + 1) w1 (f j) xs[j]) ∧ Below w.heap.size w w1

theorem filling_step {α : Type} {A : Nat → World → Value → α → Prop} (hsame : ∀ lo w w' v x, A lo w v x → Same lo w w' → A lo w' v x) (hmono : ∀ lo lo' w v x, A lo w v x → lo' ≤ lo → A lo' w v x)
    {w wr w2 : World} {t : TypeId} {xs : List α} {k : Nat} (h : Filling A w t xs k wr) (hb2 : Below wr.heap.size wr w2) (hk : k < xs.length) {u : Value} (hu : A wr.heap.size w2 u xs[k]) :
    Filling A w t xs (k + 1) (w2.setCell ⟨w.heap.size, k, none⟩ u) := by
  obtain ⟨⟨f, hrow, hel⟩, hb⟩ := h
  have hlt := hrow.lt
  have hrow2 := hrow.of_block (hb2.block _ hlt)
  refine ⟨⟨_, hrow2.set k u, fun j hj hjk => ?_⟩, (hb.trans (hb2.mono hb.size)).setCell (by simp) _⟩
  by_cases e : j = k
  · subst e
    rw [if_pos rfl]
    exact hsame _ _ _ _ _ (hmono _ (w.heap.size + 1) _ _ _ hu (by omega)) ((Same.refl _ _).setCell (by omega) _)
  · rw [if_neg e]
    have h1 := hel j hj (by omega)
    exact hsame _ _ _ _ _ (hsame _ _ _ _ _ h1 (Same.of_below hb2)) ((Same.refl _ _).setCell (by omega) _)

theorem reps_of_filling {w w1 : World} {t : TypeId} {xs : List Rep} {cap : Nat} (hl : xs.length ≤ 9223372036854775807) (h : Filling StrsAt w t xs xs.length w1) :
    RepsAt w.heap.size w1 (.slice (some ⟨w.heap.size, 0, none⟩) xs.length cap) xs := by
  obtain ⟨⟨f, hrow, hel⟩, hb⟩ := h
  exact ⟨hl, .inr ⟨_, 0, cap, rfl, ⟨Nat.le_refl _, hrow.lt⟩, fun i hi => ⟨f i, by have := hrow.cell hi; simpa using this, At.mono mono_str (hel i hi hi) (by omega)⟩⟩⟩

theorem info_Rep : (Tryz.prog.info? 67).map (fun i => (i.zero, i.size, i.bytes)) = some (some (.agg #[.slice none 0 0]), 1, 24) := by kernel_rfl

set_option maxHeartbeats 400000 in
theorem toReps_any (xs : List Rep) (v : Value) (w : World) (hn : xs.length ≤ 1048576) (hne : ∀ i (h : i < xs.length), xs[i].length ≤ 1048576) {lo : Nat} (hv : RepsAt lo w v xs) :
    Calls Tryz.prog 52 #[v] w fun e w' => ∃ u, e = .returned u ∧ RepsAt w.heap.size w' u xs ∧ Below w.heap.size w w' := by
  have hl := hv.1
  obtain ⟨a, cap, rfl, hc⟩ := hv.form
  clear hv
  have HN := hide hne
  clear hne
  have hmk := make_rows (P := Tryz.prog) 62 67 (.agg #[.slice none 0 0]) #[.slice none 0 0] 1 24 Tryz.underlying62 info_Rep rfl xs.length (by omega) (by omega)
  have hrow0 : Filling StrsAt w 67 xs 0 (w.alloc (Obj.cells (madeCells #[Value.slice none 0 0] xs.length) 67)) :=
    ⟨⟨_, made_row w #[Value.slice none 0 0] xs.length 67 (by decide), fun j _ h => absurd h (by omega)⟩, (Below.refl _ _).alloc (Nat.le_refl _) _⟩
  go_enter Tryz.func52, Tryz.ntmps52
  go_wp2
  go_loopw [4] (fun i w1 => ∃ k : Nat, k ≤ xs.length ∧ i = .int .i64 k ∧ Filling StrsAt w 67 xs k w1) (fun i _ => xs.length - (intOf i).toNat)
  case atStart => exact ⟨0, Nat.zero_le _, rfl, hrow0⟩
  case round =>
    obtain ⟨k, hk, rfl, hfil⟩ := hrel
    by_cases hlt : k < xs.length
    · obtain ⟨b, off, rfl, _, hbl, ve, hcell, hel⟩ := hc k hlt
      have hb := hfil.2
      have h1 : wr.cell? ⟨b, off + k, none⟩ = some ve := by rw [hb.cell (p := ⟨b, off + k, none⟩) hbl]; simpa using hcell
      have hel' := At.kept kept_str hel hb
      have HC := hide hc
      clear hc hcell
      obtain ⟨f, hrow, _⟩ := hfil.1
      have h2 := hrow.cell hlt
      have h3 := hrow.frozen k
      have hB := hrow.lt
      go_wp2_with fail
      refine (toRep_any xs[k] ve _ (HN.out k hlt) hel').mono ?_
      rintro e w2 ⟨u, rfl, hu, hb2⟩
      have h4 : w2.cell? ⟨w.heap.size, k, none⟩ = some (f k) := by rw [hb2.cell (p := ⟨w.heap.size, k, none⟩) hB]; exact h2
      have h5 : w2.frozen? ⟨w.heap.size, k, none⟩ = false := by rw [hb2.frozen (p := ⟨w.heap.size, k, none⟩) hB]; exact h3
      obtain ⟨a2, cap2, rfl, _⟩ := hu.form
      have hfin := filling_step (A := StrsAt) (fun _ _ _ _ _ h s => At.same kept_str h s) (fun _ _ _ _ _ h s => At.mono mono_str h s) hfil hb2 hlt hu
      go_wp2_with fail
      go_roundw
      case rel => exact ⟨k + 1, by omega, by go_num, hfin⟩
      case measure => simp [intOf]; omega
    · obtain rfl : k = xs.length := by omega
      go_wp2
      go_ret
      exact ⟨_, rfl, reps_of_filling hl hfil, hfil.2⟩
end Go.Proofs.YtebdfmijlnkcbaaGreatDoor.Msg
