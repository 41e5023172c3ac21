import Derived.Test.YtebdfmijlnkcbaaGreatDoorMsgTo2
namespace Go.Proofs.YtebdfmijlnkcbaaGreatDoor.Msg
open Go.ChangeShapes Go.WideShapes Go.ChangeAt Go.RowKit
set_option linter.unusedVariables false
set_option linter.unusedSimpArgs false

/-- the lists that a field, a segment, a message hold are short -/
def FieldFits (x : Field) : Prop := x.length ≤ 1048576 ∧ ∀ i (h : i < x.length), x[i].length ≤ 1048576
def FieldsFit (x : List Field) : Prop := x.length ≤ 1048576 ∧ ∀ i (h : i < x.length), FieldFits x[i]
def MsgFits (x : List Seg) : Prop := x.length ≤ 1048576 ∧ ∀ i (h : i < x.length), FieldsFit x[i].fields

set_option maxHeartbeats 400000 in
theorem toField_any (x : Field) (v : Value) (w : World) (hn : FieldFits x) {lo : Nat} (hv : RepsAt lo w v x) :
    Calls Tryz.prog 44 #[.agg #[v]] w fun e w' => ∃ u, e = .returned (.agg #[u]) ∧ RepsAt w.heap.size w' u x ∧ Below w.heap.size w w' := by
  have hb0 := (((Below.refl w.heap.size w).alloc (Nat.le_refl _) (Obj.cells #[v] 113)).alloc (by simp) (Obj.cells #[.slice none 0 0] 64)).alloc (by simp; omega) (Obj.cells #[.slice none 0 0] 64)
  have hv' := At.kept kept_rep hv hb0
  go_enter Tryz.func44, Tryz.ntmps44
  go_wp2_with fail
  refine (toReps_any x v _ hn.1 hn.2 hv').mono ?_
  rintro e w4 ⟨u, rfl, hu, hb⟩
  obtain ⟨hc, hf⟩ := bcells hb
  have hz : w.heap.size + 2 < w4.heap.size := by have := hb.size; simp at this; omega
  obtain ⟨a, cap, rfl, _⟩ := hu.form
  go_wp2_with fail
  refine bodyPost_ret (v := .agg #[.slice a x.length cap]) (by simp [results, Tryz.results44, go_sem, hc, hz]) rfl ⟨_, rfl, ?_, ?_⟩
  · have hu2 : RepsAt (w.heap.size + 3) w4 (.slice a x.length cap) x := by simpa using hu
    exact At.mono mono_rep (At.same kept_rep hu2 (((Same.refl _ _).setCell (by omega) _).setCell (by omega) _)) (by omega)
  · exact ((hb0.trans (hb.mono (by simp; omega))).setCell (by simp; omega) _).setCell (by simp) _

theorem fields_of_filling {w w1 : World} {t : TypeId} {xs : List Field} {cap : Nat} (hl : xs.length ≤ 9223372036854775807) (h : Filling RepsAt w t xs xs.length w1) :
    FieldsAt w.heap.size w1 (.slice (some ⟨w.heap.size, 0, none⟩) xs.length cap) xs := by
  obtain ⟨⟨f, hrow, hel⟩, hb⟩ := h
  exact ⟨hl, .inr ⟨_, 0, cap, rfl, ⟨Nat.le_refl _, hrow.lt⟩, fun i hi => ⟨f i, by have := hrow.cell hi; simpa using this, At.mono mono_rep (hel i hi hi) (by omega)⟩⟩⟩

theorem info_Field : (Tryz.prog.info? 64).map (fun i => (i.zero, i.size, i.bytes)) = some (some (.agg #[.slice none 0 0]), 1, 24) := by kernel_rfl

set_option maxHeartbeats 400000 in
theorem toFields_any (xs : List Field) (v : Value) (w : World) (hn : xs.length ≤ 1048576) (hne : ∀ i (h : i < xs.length), FieldFits xs[i]) {lo : Nat} (hv : FieldsAt lo w v xs) :
    Calls Tryz.prog 35 #[v] w fun e w' => ∃ u, e = .returned u ∧ FieldsAt w.heap.size w' u xs ∧ Below w.heap.size w w' := by
  have hl := hv.1
  obtain ⟨a, cap, rfl, hc⟩ := hv.form
  clear hv
  have HN := hide hne
  clear hne
  have hmk := make_rows (P := Tryz.prog) 59 64 (.agg #[.slice none 0 0]) #[.slice none 0 0] 1 24 Tryz.underlying59 info_Field rfl xs.length (by omega) (by omega)
  have hrow0 : Filling RepsAt w 64 xs 0 (w.alloc (Obj.cells (madeCells #[Value.slice none 0 0] xs.length) 64)) :=
    ⟨⟨_, made_row w #[Value.slice none 0 0] xs.length 64 (by decide), fun j _ h => absurd h (by omega)⟩, (Below.refl _ _).alloc (Nat.le_refl _) _⟩
  go_enter Tryz.func35, Tryz.ntmps35
  go_wp2
  go_loopw [4] (fun i w1 => ∃ k : Nat, k ≤ xs.length ∧ i = .int .i64 k ∧ Filling RepsAt w 64 xs k w1) (fun i _ => xs.length - (intOf i).toNat)
  case atStart => exact ⟨0, Nat.zero_le _, rfl, hrow0⟩
  case round =>
    obtain ⟨k, hk, rfl, hfil⟩ := hrel
    by_cases hlt : k < xs.length
    · obtain ⟨b, off, rfl, _, hbl, ve, hcell, hel⟩ := hc k hlt
      have hb := hfil.2
      have h1 : wr.cell? ⟨b, off + k, none⟩ = some ve := by rw [hb.cell (p := ⟨b, off + k, none⟩) hbl]; simpa using hcell
      have hel' := At.kept kept_rep hel hb
      have HC := hide hc
      clear hc hcell
      obtain ⟨f, hrow, _⟩ := hfil.1
      have h2 := hrow.cell hlt
      have h3 := hrow.frozen k
      have hB := hrow.lt
      go_wp2_with fail
      refine (toField_any xs[k] ve _ (HN.out k hlt) hel').mono ?_
      rintro e w2 ⟨u, rfl, hu, hb2⟩
      have h4 : w2.cell? ⟨w.heap.size, k, none⟩ = some (f k) := by rw [hb2.cell (p := ⟨w.heap.size, k, none⟩) hB]; exact h2
      have h5 : w2.frozen? ⟨w.heap.size, k, none⟩ = false := by rw [hb2.frozen (p := ⟨w.heap.size, k, none⟩) hB]; exact h3
      obtain ⟨a2, cap2, rfl, _⟩ := hu.form
      have hfin := filling_step (A := RepsAt) (fun _ _ _ _ _ h s => At.same kept_rep h s) (fun _ _ _ _ _ h s => At.mono mono_rep h s) hfil hb2 hlt hu
      go_wp2_with fail
      go_roundw
      case rel => exact ⟨k + 1, by omega, by go_num, hfin⟩
      case measure => simp [intOf]; omega
    · obtain rfl : k = xs.length := by omega
      go_wp2
      go_ret
      exact ⟨_, rfl, fields_of_filling hl hfil, hfil.2⟩

set_option maxHeartbeats 400000 in
theorem toSeg_any (x : Seg) (v : Value) (w : World) (hn : FieldsFit x.fields) {lo : Nat} (hv : FieldsAt lo w v x.fields) :
    Calls Tryz.prog 24 #[.agg #[.string x.name, v]] w fun e w' => ∃ u, e = .returned (.agg #[.string x.name, u]) ∧ FieldsAt w.heap.size w' u x.fields ∧ Below w.heap.size w w' := by
  have hb0 := (((Below.refl w.heap.size w).alloc (Nat.le_refl _) (Obj.cells #[.string x.name, v] 58)).alloc (by simp) (Obj.cells #[.string ⟨#[]⟩, .slice none 0 0] 61)).alloc (by simp; omega) (Obj.cells #[.string x.name, .slice none 0 0] 61)
  have hv' := At.kept kept_field hv hb0
  go_enter Tryz.func24, Tryz.ntmps24
  go_wp2_with fail
  refine (toFields_any x.fields v _ hn.1 hn.2 hv').mono ?_
  rintro e w4 ⟨u, rfl, hu, hb⟩
  obtain ⟨hc, hf⟩ := bcells hb
  have hz : w.heap.size + 2 < w4.heap.size := by have := hb.size; simp at this; omega
  obtain ⟨a, cap, rfl, _⟩ := hu.form
  go_wp2_with fail
  refine bodyPost_ret (v := .agg #[.string x.name, .slice a x.fields.length cap]) (by simp [results, Tryz.results24, go_sem, hc, hz]) rfl ⟨_, rfl, ?_, ?_⟩
  · have hu2 : FieldsAt (w.heap.size + 3) w4 (.slice a x.fields.length cap) x.fields := by simpa using hu
    exact At.mono mono_field (At.same kept_field hu2 ((((Same.refl _ _).setCell (by omega) _).setCell (by omega) _).setCell (by omega) _)) (by omega)
  · exact (((hb0.trans (hb.mono (by simp; omega))).setCell (by simp; omega) _).setCell (by simp) _).setCell (by simp) _
end Go.Proofs.YtebdfmijlnkcbaaGreatDoor.Msg
