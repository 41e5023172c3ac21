import Derived.Test.YtfcmhnfdbobnlaaGreatDoorMsgTo4withRplLaw
import Derived.Test.YtfcmhnfdbobnlaaGreatDoorImplWord3withImplSegCutwithImplParts
namespace Go.Proofs.YtfcmhnfdbobnlaaGreatDoor.Msg
open Go.ChangeShapes Go.WideShapes Go.ChangeAt Go.RowKit
set_option linter.unusedVariables false
set_option linter.unusedSimpArgs false

/-! toMessage: what it makes is owned -/
/-- the state of a loop that fills a row of new elements of one cell each, each in blocks of its own -/
structure OFill {α : Type} (O : World → Value → α → List Nat → Prop) (w : World) (t : TypeId) (xs : List α) (k : Nat) (w1 : World) (f : Nat → Value) (bss : List (List Nat)) : Prop where
  row : w1.rowIs w.heap.size t xs.length f
  len : bss.length = k
  nd : bss.flatten.Nodup
  rng : ∀ b ∈ bss.flatten, w.heap.size + 1 ≤ b ∧ b < w1.heap.size
  el : ∀ j (h : j < xs.length) (h2 : j < bss.length), O w1 (f j) xs[j] bss[j]
  bel : Below w.heap.size w w1
theorem nodup_push {bss : List (List Nat)} {bs : List Nat} {n : Nat} (h : bss.flatten.Nodup) (hl : ∀ b ∈ bss.flatten, b < n) (hb : bs.Nodup) (hg : ∀ b ∈ bs, n ≤ b) : (bss ++ [bs]).flatten.Nodup := by
  rw [List.flatten_append, List.flatten_cons, List.flatten_nil, List.append_nil, List.nodup_append]
  exact ⟨h, hb, fun a ha c hc e => by have := hl a ha; have := hg c hc; omega⟩
theorem mem_push {bss : List (List Nat)} {bs : List Nat} {b : Nat} (h : b ∈ (bss ++ [bs]).flatten) : b ∈ bss.flatten ∨ b ∈ bs := by
  rw [List.flatten_append, List.flatten_cons, List.flatten_nil, List.append_nil, List.mem_append] at h
  exact h
theorem mem_flat {bss : List (List Nat)} {j : Nat} (h : j < bss.length) {b : Nat} (hb : b ∈ bss[j]) : b ∈ bss.flatten := List.mem_flatten.2 ⟨_, List.getElem_mem h, hb⟩
theorem OFill.step {α : Type} {O : World → Value → α → List Nat → Prop} (K : KeepO O) {w wr w2 : World} {t : TypeId} {xs : List α} {k : Nat} {f : Nat → Value} {bss : List (List Nat)} (h : OFill O w t xs k wr f bss) (hb2 : Below wr.heap.size wr w2) (hk : k < xs.length) {u : Value} {bs : List Nat} (hu : O w2 u xs[k] bs) (hnd : bs.Nodup) (hge : ∀ b ∈ bs, wr.heap.size ≤ b) (hlt : ∀ b ∈ bs, b < w2.heap.size) :
    OFill O w t xs (k + 1) (w2.setCell ⟨w.heap.size, k, none⟩ u) (fun j => if j = k then u else f j) (bss ++ [bs]) := by
  have hlt0 := h.row.lt
  have hs2 := hb2.size
  have hrow2 := h.row.of_block (hb2.block _ hlt0)
  refine ⟨hrow2.set k u, by simp [h.len], nodup_push h.nd (fun b hb => (h.rng b hb).2) hnd hge, fun b hb => ?_, fun j hj h2 => ?_, (h.bel.trans (hb2.mono h.bel.size)).setCell (by simp) _⟩
  · rw [Deep.nblk_setCell]
    rcases mem_push hb with hb | hb
    · have := h.rng b hb; omega
    · have := hge b hb; have := hlt b hb; omega
  · by_cases hjk : j < bss.length
    · have e : (bss ++ [bs])[j] = bss[j] := List.getElem_append_left hjk
      have hl := h.len
      have e2 : (if j = k then u else f j) = f j := if_neg (by omega)
      rw [e]
      show O _ (if j = k then u else f j) _ _
      rw [e2]
      refine K _ _ _ _ _ (h.el j hj hjk) (by rw [Deep.nblk_setCell]; exact hs2) fun d hd => ?_
      have hd' := h.rng d (mem_flat hjk hd)
      rw [Deep.blk_setCell_other _ ⟨w.heap.size, k, none⟩ _ d (by dsimp only; omega)]
      exact hb2.block d hd'.2
    · have hl := h.len
      have hj2 : j = k := by simp at h2; omega
      subst hj2
      have e : (bss ++ [bs])[j] = bs := by rw [List.getElem_append_right (by omega)]; simp [hl]
      rw [e]
      show O _ (if j = j then u else f j) _ _
      rw [if_pos rfl]
      exact K _ _ _ _ _ hu (by rw [Deep.nblk_setCell]; exact Nat.le_refl _) fun d hd => Deep.blk_setCell_other _ ⟨w.heap.size, j, none⟩ _ d (by have := hge d hd; dsimp only; omega)
/-- what a function of the laws makes: in blocks of its own -/
def ToO {α : Type} (O : World → Value → α → List Nat → Prop) (w : World) (x : α) (u : Value) (w' : World) : Prop := ∃ bs, O w' u x bs ∧ bs.Nodup ∧ (∀ b ∈ bs, w.heap.size ≤ b) ∧ Below w.heap.size w w'

theorem keepO_strs : KeepO OStrs := fun _ _ _ _ _ h s d => OAt.kept keptO_str h s d
theorem oform {α : Type} {n : Nat} {R : World → Nat → Nat → α → List Nat → Prop} {w : World} {v : Value} {xs : List α} {bs : List Nat} (h : OAt n R w v xs bs) : ∃ a c, v = .slice a xs.length c := by
  obtain ⟨_, ⟨a, c, e, e2, _⟩ | ⟨b, off, cap, _, e, _⟩⟩ := h
  · exact ⟨a, c, by rw [e, e2]; rfl⟩
  · exact ⟨_, _, e⟩
theorem toStrsOO (xs : List ByteArray) (v : Value) (w : World) (hn : xs.length ≤ 1048576) {lo : Nat} (hv : StrsAt lo w v xs) :
    Calls Tryz.prog 115 #[v] w fun e w' => ∃ B, e = .returned (.slice (some ⟨B, 0, none⟩) xs.length xs.length) ∧ ToO OStrs w xs (.slice (some ⟨B, 0, none⟩) xs.length xs.length) w' :=
  (toStrsO_any xs v w hn hv).mono fun e w' h => by
    obtain ⟨B, he, hO, hB, hb⟩ := h
    exact ⟨B, he, [B], hO, by simp, fun b h => by rw [List.mem_singleton.1 h]; exact hB, hb⟩

set_option maxHeartbeats 400000 in
theorem toRepO (x : Rep) (v : Value) (w : World) (hn : x.length ≤ 1048576) {lo : Nat} (hv : StrsAt lo w v x) :
    Calls Tryz.prog 101 #[.agg #[v]] w fun e w' => ∃ u, e = .returned (.agg #[u]) ∧ ToO OStrs w x u w' := by
  have hb0 := (((Below.refl w.heap.size w).alloc (Nat.le_refl _) (Obj.cells #[v] 126)).alloc (by simp) (Obj.cells #[.slice none 0 0] 62)).alloc (by simp; omega) (Obj.cells #[.slice none 0 0] 62)
  have hv' := At.kept kept_str hv hb0
  go_enter Tryz.func101, Tryz.ntmps101
  go_wp2_with fail
  refine (toStrsOO x v _ hn hv').mono ?_
  rintro e w4 ⟨B, rfl, bs, hu, hnd, hge, hb⟩
  obtain ⟨hc, hf⟩ := bcells hb
  have hz : w.heap.size + 2 < w4.heap.size := by have := hb.size; simp at this; omega
  have hge2 : ∀ b ∈ bs, w.heap.size + 3 ≤ b := fun b h => by have := hge b h; simp at this; omega
  have HU := hide hu
  have HND := hide hnd
  have HGE := hide hge2
  have HB := hide hb
  have HB0 := hide hb0
  clear hu hnd hge hge2 hb hb0 hv' hv
  go_wp2_with fail
  refine bodyPost_ret (v := .agg #[.slice (some ⟨B, 0, none⟩) x.length x.length]) (by simp [results, Tryz.results101, go_sem, hc, hz]) rfl ⟨_, rfl, bs, ?_, HND.out, fun b h => by have := HGE.out b h; omega, ?_⟩
  · refine OAt.kept keptO_str HU.out (by simp only [Deep.nblk_setCell]; exact Nat.le_refl _) fun d hd => ?_
    have := HGE.out d hd
    iterate 2 (refine (Deep.blk_setCell_other _ _ _ _ (by dsimp only; omega)).trans ?_)
    rfl
  · exact ((HB0.out.trans (HB.out.mono (by simp; omega))).setCell (by simp; omega) _).setCell (by simp) _

theorem toRepsO_of {w w1 : World} {t : TypeId} {xs : List Rep} {cap : Nat} {f : Nat → Value} {bss : List (List Nat)} (hl : xs.length ≤ 9223372036854775807) (h : OFill OStrs w t xs xs.length w1 f bss) :
    OReps w1 (.slice (some ⟨w.heap.size, 0, none⟩) xs.length cap) xs (w.heap.size :: bss.flatten) ∧ (w.heap.size :: bss.flatten).Nodup ∧ ∀ b ∈ w.heap.size :: bss.flatten, w.heap.size ≤ b := by
  refine ⟨⟨hl, .inr ⟨_, 0, cap, bss, rfl, h.row.lt, rfl, h.len, fun i hi h2 => ⟨f i, by have := h.row.cell hi; simpa using this, h.el i hi h2⟩⟩⟩, ?_, fun b hb => ?_⟩
  · rw [List.nodup_cons]
    exact ⟨fun hm => by have := (h.rng _ hm).1; omega, h.nd⟩
  · rw [List.mem_cons] at hb
    rcases hb with rfl | hb
    · exact Nat.le_refl _
    · have := (h.rng b hb).1; omega

set_option maxHeartbeats 400000 in
theorem toRepsO (xs : List Rep) (v : Value) (w : World) (hn : xs.length ≤ 1048576) (hne : ∀ i (h : i < xs.length), xs[i].length ≤ 1048576) {lo : Nat} (hv : RepsAt lo w v xs) :
    Calls Tryz.prog 84 #[v] w fun e w' => ∃ B, e = .returned (.slice (some ⟨B, 0, none⟩) xs.length xs.length) ∧ ToO OReps w xs (.slice (some ⟨B, 0, none⟩) xs.length xs.length) w' := by
  have hl := hv.1
  have HN := hide hne
  clear hne
  obtain ⟨a, cap, rfl, hc⟩ := hv.form
  clear hv
  have hmk := make_rows (P := Tryz.prog) 58 62 (.agg #[.slice none 0 0]) #[.slice none 0 0] 1 24 Tryz.underlying58 info_Rep rfl xs.length (by omega) (by omega)
  have hrow0 : OFill OStrs w 62 xs 0 (w.alloc (Obj.cells (madeCells #[Value.slice none 0 0] xs.length) 62)) _ [] :=
    ⟨made_row w #[Value.slice none 0 0] xs.length 62 (by decide), rfl, by simp, by simp, fun j _ h => absurd h (by simp), (Below.refl _ _).alloc (Nat.le_refl _) _⟩
  go_enter Tryz.func84, Tryz.ntmps84
  go_wp2
  go_loopw [4] (fun i w1 => ∃ k : Nat, k ≤ xs.length ∧ i = .int .i64 k ∧ ∃ f bss, OFill OStrs w 62 xs k w1 f bss) (fun i _ => xs.length - (intOf i).toNat)
  case atStart => exact ⟨0, Nat.zero_le _, rfl, _, _, hrow0⟩
  case round =>
    obtain ⟨k, hk, rfl, f, bss, hfil⟩ := hrel
    by_cases hlt : k < xs.length
    · obtain ⟨b, off, rfl, _, hbl, ve, hcell, hel⟩ := hc k hlt
      have hb := hfil.bel
      have h1 : wr.cell? ⟨b, off + k, none⟩ = some ve := by rw [hb.cell (p := ⟨b, off + k, none⟩) hbl]; simpa using hcell
      have hel' := At.kept kept_str hel hb
      have HC := hide hc
      have HFIL := hide hfil
      clear hc hcell
      have h2 := hfil.row.cell hlt
      have h3 := hfil.row.frozen k
      have hB := hfil.row.lt
      clear hfil
      go_wp2_with fail
      refine (toRepO xs[k] ve _ (HN.out k hlt) hel').mono ?_
      rintro e w2 ⟨u, rfl, bs, hu, hnd, hge, hb2⟩
      have h4 : w2.cell? ⟨w.heap.size, k, none⟩ = some (f k) := by rw [hb2.cell (p := ⟨w.heap.size, k, none⟩) hB]; exact h2
      have h5 : w2.frozen? ⟨w.heap.size, k, none⟩ = false := by rw [hb2.frozen (p := ⟨w.heap.size, k, none⟩) hB]; exact h3
      have hfin := hide (OFill.step keepO_strs HFIL.out hb2 hlt hu hnd hge (OAt.lt ltO_str hu))
      obtain ⟨a2, cap2, rfl⟩ := oform hu
      clear hu hnd hge hb2
      go_wp2_with fail
      go_roundw
      case rel => exact ⟨k + 1, by omega, by go_num, _, _, hfin.out⟩
      case measure => simp [intOf]; omega
    · obtain rfl : k = xs.length := by omega
      go_wp2
      go_ret
      obtain ⟨q1, q2, q3⟩ := toRepsO_of (cap := xs.length) hl hfil
      exact ⟨_, rfl, _, q1, q2, q3, hfil.bel⟩

set_option maxHeartbeats 400000 in
theorem toFieldO (x : Field) (v : Value) (w : World) (hn : FieldFits x) {lo : Nat} (hv : RepsAt lo w v x) :
    Calls Tryz.prog 71 #[.agg #[v]] w fun e w' => ∃ u, e = .returned (.agg #[u]) ∧ ToO OReps w x u w' := by
  have hb0 := (((Below.refl w.heap.size w).alloc (Nat.le_refl _) (Obj.cells #[v] 105)).alloc (by simp) (Obj.cells #[.slice none 0 0] 60)).alloc (by simp; omega) (Obj.cells #[.slice none 0 0] 60)
  have hv' := At.kept kept_rep hv hb0
  go_enter Tryz.func71, Tryz.ntmps71
  go_wp2_with fail
  refine (toRepsO x v _ hn.1 hn.2 hv').mono ?_
  rintro e w4 ⟨B, rfl, bs, hu, hnd, hge, hb⟩
  obtain ⟨hc, hf⟩ := bcells hb
  have hz : w.heap.size + 2 < w4.heap.size := by have := hb.size; simp at this; omega
  have hge2 : ∀ b ∈ bs, w.heap.size + 3 ≤ b := fun b h => by have := hge b h; simp at this; omega
  have HU := hide hu
  have HND := hide hnd
  have HGE := hide hge2
  have HB := hide hb
  have HB0 := hide hb0
  clear hu hnd hge hge2 hb hb0 hv' hv
  go_wp2_with fail
  refine bodyPost_ret (v := .agg #[.slice (some ⟨B, 0, none⟩) x.length x.length]) (by simp [results, Tryz.results71, go_sem, hc, hz]) rfl ⟨_, rfl, bs, ?_, HND.out, fun b h => by have := HGE.out b h; omega, ?_⟩
  · refine OAt.kept keptO_rep HU.out (by simp only [Deep.nblk_setCell]; exact Nat.le_refl _) fun d hd => ?_
    have := HGE.out d hd
    iterate 2 (refine (Deep.blk_setCell_other _ _ _ _ (by dsimp only; omega)).trans ?_)
    rfl
  · exact ((HB0.out.trans (HB.out.mono (by simp; omega))).setCell (by simp; omega) _).setCell (by simp) _

theorem toFieldsO_of {w w1 : World} {t : TypeId} {xs : List Field} {cap : Nat} {f : Nat → Value} {bss : List (List Nat)} (hl : xs.length ≤ 9223372036854775807) (h : OFill OReps w t xs xs.length w1 f bss) :
    OFields w1 (.slice (some ⟨w.heap.size, 0, none⟩) xs.length cap) xs (w.heap.size :: bss.flatten) ∧ (w.heap.size :: bss.flatten).Nodup ∧ ∀ b ∈ w.heap.size :: bss.flatten, w.heap.size ≤ b := by
  refine ⟨⟨hl, .inr ⟨_, 0, cap, bss, rfl, h.row.lt, rfl, h.len, fun i hi h2 => ⟨f i, by have := h.row.cell hi; simpa using this, h.el i hi h2⟩⟩⟩, ?_, fun b hb => ?_⟩
  · rw [List.nodup_cons]
    exact ⟨fun hm => by have := (h.rng _ hm).1; omega, h.nd⟩
  · rw [List.mem_cons] at hb
    rcases hb with rfl | hb
    · exact Nat.le_refl _
    · have := (h.rng b hb).1; omega

set_option maxHeartbeats 400000 in
theorem toFieldsO (xs : List Field) (v : Value) (w : World) (hn : xs.length ≤ 1048576) (hne : ∀ i (h : i < xs.length), FieldFits xs[i]) {lo : Nat} (hv : FieldsAt lo w v xs) :
    Calls Tryz.prog 55 #[v] w fun e w' => ∃ B, e = .returned (.slice (some ⟨B, 0, none⟩) xs.length xs.length) ∧ ToO OFields w xs (.slice (some ⟨B, 0, none⟩) xs.length xs.length) w' := by
  have hl := hv.1
  have HN := hide hne
  clear hne
  obtain ⟨a, cap, rfl, hc⟩ := hv.form
  clear hv
  have hmk := make_rows (P := Tryz.prog) 43 60 (.agg #[.slice none 0 0]) #[.slice none 0 0] 1 24 Tryz.underlying43 info_Field rfl xs.length (by omega) (by omega)
  have hrow0 : OFill OReps w 60 xs 0 (w.alloc (Obj.cells (madeCells #[Value.slice none 0 0] xs.length) 60)) _ [] :=
    ⟨made_row w #[Value.slice none 0 0] xs.length 60 (by decide), rfl, by simp, by simp, fun j _ h => absurd h (by simp), (Below.refl _ _).alloc (Nat.le_refl _) _⟩
  go_enter Tryz.func55, Tryz.ntmps55
  go_wp2
  go_loopw [4] (fun i w1 => ∃ k : Nat, k ≤ xs.length ∧ i = .int .i64 k ∧ ∃ f bss, OFill OReps w 60 xs k w1 f bss) (fun i _ => xs.length - (intOf i).toNat)
  case atStart => exact ⟨0, Nat.zero_le _, rfl, _, _, hrow0⟩
  case round =>
    obtain ⟨k, hk, rfl, f, bss, hfil⟩ := hrel
    by_cases hlt : k < xs.length
    · obtain ⟨b, off, rfl, _, hbl, ve, hcell, hel⟩ := hc k hlt
      have hb := hfil.bel
      have h1 : wr.cell? ⟨b, off + k, none⟩ = some ve := by rw [hb.cell (p := ⟨b, off + k, none⟩) hbl]; simpa using hcell
      have hel' := At.kept kept_rep hel hb
      have HC := hide hc
      have HFIL := hide hfil
      clear hc hcell
      have h2 := hfil.row.cell hlt
      have h3 := hfil.row.frozen k
      have hB := hfil.row.lt
      clear hfil
      go_wp2_with fail
      refine (toFieldO xs[k] ve _ (HN.out k hlt) hel').mono ?_
      rintro e w2 ⟨u, rfl, bs, hu, hnd, hge, hb2⟩
      have h4 : w2.cell? ⟨w.heap.size, k, none⟩ = some (f k) := by rw [hb2.cell (p := ⟨w.heap.size, k, none⟩) hB]; exact h2
      have h5 : w2.frozen? ⟨w.heap.size, k, none⟩ = false := by rw [hb2.frozen (p := ⟨w.heap.size, k, none⟩) hB]; exact h3
      have hfin := hide (OFill.step keep_reps HFIL.out hb2 hlt hu hnd hge (OAt.lt ltO_rep hu))
      obtain ⟨a2, cap2, rfl⟩ := oform hu
      clear hu hnd hge hb2
      go_wp2_with fail
      go_roundw
      case rel => exact ⟨k + 1, by omega, by go_num, _, _, hfin.out⟩
      case measure => simp [intOf]; omega
    · obtain rfl : k = xs.length := by omega
      go_wp2
      go_ret
      obtain ⟨q1, q2, q3⟩ := toFieldsO_of (cap := xs.length) hl hfil
      exact ⟨_, rfl, _, q1, q2, q3, hfil.bel⟩

set_option maxHeartbeats 400000 in
theorem toSegO (x : Seg) (v : Value) (w : World) (hn : FieldsFit x.fields) {lo : Nat} (hv : FieldsAt lo w v x.fields) :
    Calls Tryz.prog 34 #[.agg #[.string x.name, v]] w fun e w' => ∃ u, e = .returned (.agg #[.string x.name, u]) ∧ ToO OFields w x.fields u w' := by
  have hb0 := (((Below.refl w.heap.size w).alloc (Nat.le_refl _) (Obj.cells #[.string x.name, v] 57)).alloc (by simp) (Obj.cells #[.string ⟨#[]⟩, .slice none 0 0] 45)).alloc (by simp; omega) (Obj.cells #[.string x.name, .slice none 0 0] 45)
  have hv' := At.kept kept_field hv hb0
  go_enter Tryz.func34, Tryz.ntmps34
  go_wp2_with fail
  refine (toFieldsO x.fields v _ hn.1 hn.2 hv').mono ?_
  rintro e w4 ⟨B, rfl, bs, hu, hnd, hge, hb⟩
  obtain ⟨hc, hf⟩ := bcells hb
  have hz : w.heap.size + 2 < w4.heap.size := by have := hb.size; simp at this; omega
  have hge2 : ∀ b ∈ bs, w.heap.size + 3 ≤ b := fun b h => by have := hge b h; simp at this; omega
  have HU := hide hu
  have HND := hide hnd
  have HGE := hide hge2
  have HB := hide hb
  have HB0 := hide hb0
  clear hu hnd hge hge2 hb hb0 hv' hv
  go_wp2_with fail
  refine bodyPost_ret (v := .agg #[.string x.name, .slice (some ⟨B, 0, none⟩) x.fields.length x.fields.length]) (by simp [results, Tryz.results34, go_sem, hc, hz]) rfl ⟨_, rfl, bs, ?_, HND.out, fun b h => by have := HGE.out b h; omega, ?_⟩
  · refine OAt.kept keptO_field HU.out (by simp only [Deep.nblk_setCell]; exact Nat.le_refl _) fun d hd => ?_
    have := HGE.out d hd
    iterate 3 (refine (Deep.blk_setCell_other _ _ _ _ (by dsimp only; omega)).trans ?_)
    rfl
  · exact (((HB0.out.trans (HB.out.mono (by simp; omega))).setCell (by simp; omega) _).setCell (by simp) _).setCell (by simp) _

/-- the state of the loop that fills a row of new segments -/
structure OSegFill (w : World) (t : TypeId) (xs : List Seg) (k : Nat) (w1 : World) (f : Nat → Value) (bss : List (List Nat)) : Prop where
  row : w1.rowIs w.heap.size t (xs.length * 2) f
  len : bss.length = k
  nd : bss.flatten.Nodup
  rng : ∀ b ∈ bss.flatten, w.heap.size + 1 ≤ b ∧ b < w1.heap.size
  el : ∀ j (h : j < xs.length) (h2 : j < bss.length), f (j * 2) = .string xs[j].name ∧ OFields w1 (f (j * 2 + 1)) xs[j].fields bss[j]
  bel : Below w.heap.size w w1
theorem OSegFill.step {w wr w2 : World} {t : TypeId} {xs : List Seg} {k : Nat} {f : Nat → Value} {bss : List (List Nat)} (h : OSegFill w t xs k wr f bss) (hb2 : Below wr.heap.size wr w2) (hk : k < xs.length) {u : Value} {bs : List Nat} (hu : OFields w2 u xs[k].fields bs) (hnd : bs.Nodup) (hge : ∀ b ∈ bs, wr.heap.size ≤ b) :
    ∃ g, OSegFill w t xs (k + 1) ((w2.setCell ⟨w.heap.size, k * 2, none⟩ (.string xs[k].name)).setCell ⟨w.heap.size, k * 2 + 1, none⟩ u) g (bss ++ [bs]) := by
  have hlt0 := h.row.lt
  have hs2 := hb2.size
  have hrow2 := h.row.of_block (hb2.block _ hlt0)
  have hlt := OAt.lt ltO_field hu
  refine ⟨_, (hrow2.set (k * 2) (.string xs[k].name)).set (k * 2 + 1) u, by simp [h.len], nodup_push h.nd (fun b hb => (h.rng b hb).2) hnd hge, fun b hb => ?_, fun j hj h2 => ?_, ((h.bel.trans (hb2.mono h.bel.size)).setCell (by simp) _).setCell (by simp) _⟩
  · simp only [Deep.nblk_setCell]
    rcases mem_push hb with hb | hb
    · have := h.rng b hb; omega
    · have := hge b hb; have := hlt b hb; omega
  · have key : ∀ d, w.heap.size + 1 ≤ d → ((w2.setCell ⟨w.heap.size, k * 2, none⟩ (.string xs[k].name)).setCell ⟨w.heap.size, k * 2 + 1, none⟩ u).heap[d]? = w2.heap[d]? := fun d hd => by
      rw [Deep.blk_setCell_other _ ⟨w.heap.size, k * 2 + 1, none⟩ _ d (by dsimp only; omega), Deep.blk_setCell_other _ ⟨w.heap.size, k * 2, none⟩ _ d (by dsimp only; omega)]
    have hl := h.len
    by_cases hjk : j < bss.length
    · have e : (bss ++ [bs])[j] = bss[j] := List.getElem_append_left hjk
      obtain ⟨q1, q2⟩ := h.el j hj hjk
      rw [e]
      refine ⟨by rw [if_neg (by omega), if_neg (by omega)]; exact q1, ?_⟩
      rw [if_neg (by omega), if_neg (by omega)]
      refine OAt.kept keptO_field q2 (by simp only [Deep.nblk_setCell]; exact hs2) fun d hd => ?_
      have hd' := h.rng d (mem_flat hjk hd)
      rw [key d hd'.1]
      exact hb2.block d hd'.2
    · have hj2 : j = k := by simp at h2; omega
      subst hj2
      have e : (bss ++ [bs])[j] = bs := by rw [List.getElem_append_right (by omega)]; simp [hl]
      rw [e]
      refine ⟨by rw [if_neg (by omega), if_pos rfl], ?_⟩
      rw [if_pos rfl]
      exact OAt.kept keptO_field hu (by simp only [Deep.nblk_setCell]; exact Nat.le_refl _) fun d hd => key d (by have := hge d hd; omega)
theorem toSegsO_of {w w1 : World} {t : TypeId} {xs : List Seg} {cap : Nat} {f : Nat → Value} {bss : List (List Nat)} (hl : xs.length ≤ 9223372036854775807) (hs : ∀ i (h : i < xs.length), xs[i].name.size ≤ 9223372036854775807) (h : OSegFill w t xs xs.length w1 f bss) :
    OSegs w1 (.slice (some ⟨w.heap.size, 0, none⟩) xs.length cap) xs (w.heap.size :: bss.flatten) ∧ (w.heap.size :: bss.flatten).Nodup ∧ ∀ b ∈ w.heap.size :: bss.flatten, w.heap.size ≤ b := by
  refine ⟨⟨hl, .inr ⟨_, 0, cap, bss, rfl, h.row.lt, rfl, h.len, fun i hi h2 => ?_⟩⟩, ?_, fun b hb => ?_⟩
  · obtain ⟨q1, q2⟩ := h.el i hi h2
    have c0 := h.row.cell (i := i * 2) (by omega)
    have c1 := h.row.cell (i := i * 2 + 1) (by omega)
    have f0 := h.row.frozen (i * 2)
    rw [q1] at c0
    exact ⟨by simpa using c0, by simpa using f0, hs i hi, _, by simpa using c1, q2⟩
  · rw [List.nodup_cons]
    exact ⟨fun hm => by have := (h.rng _ hm).1; omega, h.nd⟩
  · rw [List.mem_cons] at hb
    rcases hb with rfl | hb
    · exact Nat.le_refl _
    · have := (h.rng b hb).1; omega

set_option maxHeartbeats 800000 in
theorem toSegsO (xs : List Seg) (v : Value) (w : World) (hn : MsgFits xs) {lo : Nat} (hv : SegsAt lo w v xs) :
    Calls Tryz.prog 18 #[v] w fun e w' => ∃ B, e = .returned (.slice (some ⟨B, 0, none⟩) xs.length xs.length) ∧ ToO OSegs w xs (.slice (some ⟨B, 0, none⟩) xs.length xs.length) w' := by
  have hl := hv.1
  have hl2 := hn.1
  have HZ : Hid (∀ i (h : i < xs.length), xs[i].name.size ≤ 9223372036854775807) := fun i h => by
    obtain ⟨a, cap, _, hc⟩ := hv.form
    obtain ⟨b, off, _, _, _, hr⟩ := hc i h
    exact hr.2.1
  obtain ⟨a, cap, rfl, hc⟩ := hv.form
  clear hv
  have HN := hide hn.2
  have hmk := make_rows (P := Tryz.prog) 31 45 (.agg #[.string ByteArray.empty, .slice none 0 0]) #[.string ByteArray.empty, .slice none 0 0] 2 40 Tryz.underlying31 info_Seg rfl xs.length (by omega) (by omega)
  have hrow0 : OSegFill w 45 xs 0 (w.alloc (Obj.cells (madeCells #[Value.string ByteArray.empty, Value.slice none 0 0] (xs.length * 2)) 45)) _ [] :=
    ⟨made_row w #[Value.string ByteArray.empty, Value.slice none 0 0] (xs.length * 2) 45 (by decide), rfl, by simp, by simp, fun j _ h => absurd h (by simp), (Below.refl _ _).alloc (Nat.le_refl _) _⟩
  clear hn
  go_enter Tryz.func18, Tryz.ntmps18
  go_wp2
  go_loopw [4] (fun i w1 => ∃ k : Nat, k ≤ xs.length ∧ i = .int .i64 k ∧ ∃ f bss, OSegFill w 45 xs k w1 f bss) (fun i _ => xs.length - (intOf i).toNat)
  case atStart => exact ⟨0, Nat.zero_le _, rfl, _, _, hrow0⟩
  case round =>
    obtain ⟨k, hk, rfl, f, bss, hfil⟩ := hrel
    by_cases hlt : k < xs.length
    · obtain ⟨b, off, rfl, _, hbl, hc0, _, ve, hcell, hel⟩ := hc k hlt
      have hb := hfil.bel
      have h0 : wr.cell? ⟨b, off + k * 2, none⟩ = some (.string xs[k].name) := by rw [hb.cell (p := ⟨b, off + k * 2, none⟩) hbl]; exact hc0
      have h1 : wr.cell? ⟨b, off + k * 2 + 1, none⟩ = some ve := by rw [hb.cell (p := ⟨b, off + k * 2 + 1, none⟩) hbl]; exact hcell
      have hel' := At.kept kept_field hel hb
      clear hc hcell hc0
      have HFIL := hide hfil
      have h2 := hfil.row.cell (i := k * 2) (by omega)
      have h3 := hfil.row.frozen (k * 2)
      have h2b := hfil.row.cell (i := k * 2 + 1) (by omega)
      have h3b := hfil.row.frozen (k * 2 + 1)
      have hB := hfil.row.lt
      clear hfil
      go_wp2_with fail
      refine (toSegO xs[k] ve _ (HN.out k hlt) hel').mono ?_
      rintro e w2 ⟨u, rfl, bs, hu, hnd, hge, hb2⟩
      have h4 : w2.cell? ⟨w.heap.size, k * 2, none⟩ = some (f (k * 2)) := by rw [hb2.cell (p := ⟨w.heap.size, k * 2, none⟩) hB]; exact h2
      have h5 : w2.frozen? ⟨w.heap.size, k * 2, none⟩ = false := by rw [hb2.frozen (p := ⟨w.heap.size, k * 2, none⟩) hB]; exact h3
      have h4b : w2.cell? ⟨w.heap.size, k * 2 + 1, none⟩ = some (f (k * 2 + 1)) := by rw [hb2.cell (p := ⟨w.heap.size, k * 2 + 1, none⟩) hB]; exact h2b
      have h5b : w2.frozen? ⟨w.heap.size, k * 2 + 1, none⟩ = false := by rw [hb2.frozen (p := ⟨w.heap.size, k * 2 + 1, none⟩) hB]; exact h3b
      have hfin := hide (OSegFill.step HFIL.out hb2 hlt hu hnd hge)
      obtain ⟨a2, cap2, rfl⟩ := oform hu
      clear hu hnd hge hb2
      go_wp2_with fail
      go_roundw
      case rel =>
        obtain ⟨g, hg⟩ := hfin.out
        exact ⟨k + 1, by omega, by go_num, _, _, hg⟩
      case measure => simp [intOf]; omega
    · obtain rfl : k = xs.length := by omega
      go_wp2
      go_ret
      obtain ⟨q1, q2, q3⟩ := toSegsO_of (cap := xs.length) hl HZ.out hfil
      exact ⟨_, rfl, _, q1, q2, q3, hfil.bel⟩

set_option maxHeartbeats 400000 in
theorem toMsgO (x : List Seg) (v : Value) (w : World) (hn : MsgFits x) {lo : Nat} (hv : SegsAt lo w v x) :
    Calls Tryz.prog 6 #[.agg #[v]] w fun e w' => ∃ B, e = .returned (.agg #[.slice (some ⟨B, 0, none⟩) x.length x.length]) ∧ ToO OSegs w x (.slice (some ⟨B, 0, none⟩) x.length x.length) w' := by
  have hb0 := (((Below.refl w.heap.size w).alloc (Nat.le_refl _) (Obj.cells #[v] 24)).alloc (by simp) (Obj.cells #[.slice none 0 0] 33)).alloc (by simp; omega) (Obj.cells #[.slice none 0 0] 33)
  have hv' := At.kept kept_seg hv hb0
  go_enter Tryz.func6, Tryz.ntmps6
  go_wp2_with fail
  refine (toSegsO x v _ hn hv').mono ?_
  rintro e w4 ⟨B, rfl, bs, hu, hnd, hge, hb⟩
  obtain ⟨hc, hf⟩ := bcells hb
  have hz : w.heap.size + 2 < w4.heap.size := by have := hb.size; simp at this; omega
  have hge2 : ∀ b ∈ bs, w.heap.size + 3 ≤ b := fun b h => by have := hge b h; simp at this; omega
  have HU := hide hu
  have HND := hide hnd
  have HGE := hide hge2
  have HB := hide hb
  have HB0 := hide hb0
  clear hu hnd hge hge2 hb hb0 hv' hv
  go_wp2_with fail
  refine bodyPost_ret (v := .agg #[.slice (some ⟨B, 0, none⟩) x.length x.length]) (by simp [results, Tryz.results6, go_sem, hc, hz]) rfl ⟨_, rfl, bs, ?_, HND.out, fun b h => by have := HGE.out b h; omega, ?_⟩
  · refine OAt.kept keptO_seg HU.out (by simp only [Deep.nblk_setCell]; exact Nat.le_refl _) fun d hd => ?_
    have := HGE.out d hd
    iterate 2 (refine (Deep.blk_setCell_other _ _ _ _ (by dsimp only; omega)).trans ?_)
    rfl
  · exact ((HB0.out.trans (HB.out.mono (by simp; omega))).setCell (by simp; omega) _).setCell (by simp) _
end Go.Proofs.YtfcmhnfdbobnlaaGreatDoor.Msg
