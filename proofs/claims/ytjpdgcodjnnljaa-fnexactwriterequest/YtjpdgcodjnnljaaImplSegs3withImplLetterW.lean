import Derived.Test.YtjpdgcodjnnljaaImplHead3withSpecHead
import Derived.Deep.RegionHeld3
namespace Go.Proofs.Ytjpdgcodjnnljaa.Msg
open Go.ChangeShapes Go.WideShapes Go.ChangeAt Go.RowKit
set_option linter.unusedVariables false
set_option linter.unusedSimpArgs false

/-- a repetition of two components that are not empty -/
theorem newRep2 (s1 s2 : ByteArray) (w : World) (h1 : s1.size ≤ 1048576) (h2 : s2.size ≤ 1048576) (h20 : s2.size ≠ 0) :
    Calls Try.prog 185 #[.slice (some ⟨w.heap.size, 0, none⟩) 2 2] (w.alloc (.cells #[.string s1, .string s2] 9)) fun e w' => ∃ u, e = .returned (.agg #[u]) ∧ ∃ bs, OStrs w' u [s1, s2] bs ∧ bs.Nodup ∧ (∀ b ∈ bs, w.heap.size ≤ b ∧ b < w'.heap.size) ∧ Below w.heap.size w w' := by
  have hb1 := (Below.refl w.heap.size w).alloc (Nat.le_refl _) (.cells #[.string s1, .string s2] 9)
  have hsb : SBuf w.heap.size (w.alloc (.cells #[.string s1, .string s2] 9)) (.slice (some ⟨w.heap.size, 0, none⟩) 2 2) ([s1.data.toList, s2.data.toList].map txt) := by
    unfold SBuf
    have h := World.ownsRow_lit (base := w.heap.size) (e := 9) (size := 1) w #[.string s1, .string s2] 2 (Nat.le_refl _) (by unfold maxLen; omega) rfl
    simpa [txt_of] using h
  refine (newRep_any [s1.data.toList, s2.data.toList] _ _ _ hsb (by simp) (by simp) (by intro p hp; simp at hp; rcases hp with rfl | rfl <;> simp <;> assumption)).mono ?_
  rintro e w' ⟨u, rfl, hu, hb⟩
  have e2 : keepN List.isEmpty [s1.data.toList, s2.data.toList] = 2 := by
    unfold keepN
    unfold keepN
    rw [show keepN List.isEmpty ([] : List (List UInt8)) = 0 from rfl]
    simp only
    rw [isE (s := s2), decide_eq_false h20]
    rfl
  have hT : trimE List.isEmpty [s1.data.toList, s2.data.toList] = [s1.data.toList, s2.data.toList] := by unfold trimE; rw [e2]; rfl
  rw [hT] at hu
  have hu' : w'.ownsRow (w.alloc (.cells #[.string s1, .string s2] 9)).heap.size 9 1 u [Value.string s1, .string s2].length [.string s1, .string s2] := by
    unfold SBuf at hu
    simpa [txt_of] using hu
  obtain ⟨h, _⟩ | ⟨g, cap, rfl, hg, hlt, hc⟩ := own_cells hu'
  · cases h
  have hg' : w.heap.size + 1 ≤ g := by simpa using hg
  refine ⟨_, rfl, [g], ⟨by simp, .inr ⟨g, 0, cap, [[], []], rfl, hlt, rfl, rfl, fun i hi hi2 => ?_⟩⟩, by simp, ?_, bjoin' hb hb1⟩
  · have hc' := hc i hi
    have hi' : i < 2 := hi
    match i, hi' with
    | 0, _ => exact ⟨hc'.1, hc'.2, by show s1.size ≤ _; omega, rfl⟩
    | 1, _ => exact ⟨hc'.1, hc'.2, by show s2.size ≤ _; omega, rfl⟩
  · intro b hb'
    simp at hb'
    subst hb'
    exact ⟨by omega, hlt⟩

/-- a list of segments out of what newSegment gave -/
theorem segsO (segs : List Seg) (us : List Value) (bss : List (List Nat)) (base : Nat) (w : World) (hP : Parts OFields base w us (segs.map Seg.fields) bss) (hn : ∀ x ∈ segs, x.name.size ≤ 9223372036854775807) (hl : segs.length ≤ 9223372036854775807) (hp : 0 < segs.length) :
    OSegs (w.alloc (.cells (segCells segs us).toArray 111)) (.slice (some ⟨w.heap.size, 0, none⟩) segs.length segs.length) segs (w.heap.size :: bss.flatten) ∧ (w.heap.size :: bss.flatten).Nodup ∧ (∀ b ∈ bss.flatten, base ≤ b ∧ b < w.heap.size) := by
  obtain ⟨h1, h2, h3, h4⟩ := hP
  rw [List.length_map] at h1 h2
  have hb1 := (Below.refl w.heap.size w).alloc (Nat.le_refl _) (.cells (segCells segs us).toArray 111)
  have hin : ∀ b ∈ bss.flatten, base ≤ b ∧ b < w.heap.size := fun b hb' => by
    rw [List.mem_flatten] at hb'
    obtain ⟨l, hl', ha⟩ := hb'
    obtain ⟨i, hi, rfl⟩ := List.getElem_of_mem hl'
    exact (h4 i (by rw [List.length_map]; omega) (by omega) hi).2 b ha
  refine ⟨⟨hl, .inr ⟨w.heap.size, 0, segs.length, bss, rfl, by simp, rfl, h2, fun i hi hi2 => ?_⟩⟩, ?_, hin⟩
  · have hc := segCells_at segs us i h1 hi
    obtain ⟨k1, k2⟩ := h4 i (by rw [List.length_map]; exact hi) (by omega) hi2
    rw [List.getElem_map] at k1
    refine ⟨?_, ?_, hn _ (List.getElem_mem _), us[i]'(by omega), ?_, OAt.kept keptO_field k1 hb1.size fun d hd => hb1.block d (k2 d hd).2⟩
    · rw [World.cell?_alloc_new]; simpa using hc.1
    · exact World.frozen?_alloc_new _ _ _ _
    · rw [World.cell?_alloc_new]; simpa using hc.2
  · rw [List.nodup_cons]
    exact ⟨fun hm => by have := (hin _ hm).2; omega, h3⟩
end Go.Proofs.Ytjpdgcodjnnljaa.Msg

namespace Go.Proofs.Ytjpdgcodjnnljaa.Msg
open Go.ChangeShapes Go.WideShapes Go.ChangeAt Go.RowKit
set_option linter.unusedVariables false
set_option linter.unusedSimpArgs false

def cancelM (control tag : ByteArray) : List Seg := [⟨⟨#[77, 83, 72]⟩, headF [⟨#[81, 67, 78]⟩, ⟨#[74, 48, 49]⟩] control⟩, ⟨⟨#[81, 73, 68]⟩, trimE List.isEmpty [wordF tag]⟩]
/-- what a letter writes -/
def MsgPost (w : World) (xs : List Seg) (e : Ending) (w' : World) : Prop := ∃ u, e = .returned (.agg #[u]) ∧ ∃ bs, OSegs w' u xs bs ∧ bs.Nodup ∧ (∀ b ∈ bs, w.heap.size ≤ b) ∧ Below w.heap.size w w'
theorem one_field (w0 w1 : World) (s : ByteArray) (u : Value) (bs : List Nat) (base : Nat) (hbase : base ≤ w0.heap.size) (hb : Below w0.heap.size w0 w1) (hO : OReps w1 u (wordF s) bs) (hn : bs.Nodup) (hf : ∀ b ∈ bs, w0.heap.size ≤ b) : Parts OReps base w1 [u] [wordF s] [bs] :=
  Parts.push keep_reps (Parts.nil OReps base w0) hbase hb hO hn fun b h => ⟨hf b h, OAt.lt ltO_rep hO b h⟩

set_option maxRecDepth 100000 in
set_option maxHeartbeats 4000000 in
theorem cancelWrite_any (control tag : ByteArray) (w : World) (hc : control.size ≤ 1048576) (ht : tag.size ≤ 1048576) :
    Calls Try.prog 211 #[.agg #[.string control, .string tag]] w (MsgPost w (cancelM control tag)) := by
  obtain ⟨x1, hx1⟩ : ∃ x1, w.alloc (Obj.cells #[.string control, .string tag] 157) = x1 := ⟨_, rfl⟩
  obtain ⟨w1, hw1⟩ : ∃ w1, x1.alloc (Obj.cells #[.slice none 0 0] 55) = w1 := ⟨_, rfl⟩
  have sx1 : x1.heap.size = w.heap.size + 1 := by rw [← hx1]; simp
  have sw1 : w1.heap.size = w.heap.size + 1 + 1 := by rw [← hw1]; simp [sx1]
  have bx1 : Below w.heap.size w x1 := by rw [← hx1]; exact (Below.refl _ _).alloc (Nat.le_refl _) _
  have bw1 : Below x1.heap.size x1 w1 := by rw [← hw1]; exact (Below.refl _ _).alloc (Nat.le_refl _) _
  have c0 : w1.cell? ⟨w.heap.size, 0, none⟩ = some (.string control) := (bw1.cell (p := ⟨w.heap.size, 0, none⟩) (by rw [sx1]; simp)).trans (by rw [← hx1]; simp)
  have c1 : w1.cell? ⟨w.heap.size, 1, none⟩ = some (.string tag) := (bw1.cell (p := ⟨w.heap.size, 1, none⟩) (by rw [sx1]; simp)).trans (by rw [← hx1]; simp)
  have c2 : w1.cell? ⟨w.heap.size + 1, 0, none⟩ = some (.slice none 0 0) := by rw [← hw1, ← sx1]; simp
  have f2 : w1.frozen? ⟨w.heap.size + 1, 0, none⟩ = false := by rw [← hw1, ← sx1]; simp
  have HB1 := hide (bjoin' bw1 bx1)
  have HW1 : Hid ((w.alloc (Obj.cells #[.string control, .string tag] 157)).alloc (Obj.cells #[.slice none 0 0] 55) = w1) := by rw [hx1]; exact hw1
  have KEEP : Hid (∀ X, Below w1.heap.size w1 X → X.cell? ⟨w.heap.size, 0, none⟩ = some (.string control) ∧ X.cell? ⟨w.heap.size, 1, none⟩ = some (.string tag) ∧ Below w.heap.size w X) := fun X h =>
    ⟨(h.cell (p := ⟨w.heap.size, 0, none⟩) (by rw [sw1]; dsimp only; omega)).trans c0, (h.cell (p := ⟨w.heap.size, 1, none⟩) (by rw [sw1]; dsimp only; omega)).trans c1, bjoin' h HB1.out⟩
  have KRES : Hid (∀ X, Below w1.heap.size w1 X → X.cell? ⟨w.heap.size + 1, 0, none⟩ = some (.slice none 0 0) ∧ X.frozen? ⟨w.heap.size + 1, 0, none⟩ = false ∧ w.heap.size + 1 < X.heap.size) := fun X h =>
    ⟨(h.cell (p := ⟨w.heap.size + 1, 0, none⟩) (by rw [sw1]; dsimp only; omega)).trans c2, (h.frozen (p := ⟨w.heap.size + 1, 0, none⟩) (by rw [sw1]; dsimp only; omega)).trans f2, by have := h.size; omega⟩
  have n1 : (⟨w.heap.size + 1, 0, none⟩ : Addr).block ≠ w.heap.size := by dsimp only; omega
  have HST : Hid (∀ X, Below w1.heap.size w1 X → ∀ x, (X.setCell ⟨w.heap.size + 1, 0, none⟩ x).cell? ⟨w.heap.size, 0, none⟩ = some (.string control) ∧ (X.setCell ⟨w.heap.size + 1, 0, none⟩ x).cell? ⟨w.heap.size, 1, none⟩ = some (.string tag) ∧ Below w.heap.size w (X.setCell ⟨w.heap.size + 1, 0, none⟩ x)) := fun X h x => by
    obtain ⟨g1, g2, g3⟩ := KEEP.out X h
    exact ⟨(World.cell?_setCell_far _ ⟨w.heap.size + 1, 0, none⟩ ⟨w.heap.size, 0, none⟩ _ n1).trans g1, (World.cell?_setCell_far _ ⟨w.heap.size + 1, 0, none⟩ ⟨w.heap.size, 1, none⟩ _ n1).trans g2, g3.setCell (p := ⟨w.heap.size + 1, 0, none⟩) (Nat.le_succ _) x⟩
  obtain ⟨wd, hwd⟩ : ∃ wd, w1.drew = wd := ⟨_, rfl⟩
  have hbd : Below w1.heap.size w1 wd := by rw [← hwd]; exact (Below.refl _ _).drew
  have sd : wd.heap.size = w1.heap.size := by rw [← hwd]; rfl
  have HWD := hide hwd
  have HSW := hide sw1
  have HSD := hide sd
  clear hx1 hw1 sx1 sw1 bx1 bw1 c0 c1 c2 f2 hwd sd n1
  go_enter Try.func211, Try.ntmps211
  go_wp2_with fail
  rw [HW1.out]
  have hbd0 := (Below.refl w1.heap.size w1).drew
  have hwd := HWD.out
  go_region_held3 (fun X => X.cell? ⟨w.heap.size, 0, none⟩ = some (.string control) ∧ X.cell? ⟨w.heap.size, 1, none⟩ = some (.string tag) ∧ Below w.heap.size w X)
    (first | with_reducible exact KEEP.out _ hbd0 | with_reducible exact KEEP.out _ hbd | with_reducible exact KEEP.out _ (hbd.alloc hbd.size _) | with_reducible exact KEEP.out _ hbA | with_reducible exact KEEP.out _ hbB | with_reducible exact KEEP.out _ hbC | with_reducible exact KEEP.out _ (hbC.alloc hbC.size _) | with_reducible exact KEEP.out _ hbD | with_reducible exact KEEP.out _ (hbD.alloc hbD.size _) | with_reducible exact HST.out _ (hbD.alloc hbD.size _) _)
    (first
      | (go_at_call 185; refine (newRep2 ⟨#[81, 67, 78]⟩ ⟨#[74, 48, 49]⟩ wd (by decide) (by decide) (by decide)).mono ?_; rintro e w2 ⟨u1, rfl, bk, hO1, hn1, hf1, hb2⟩; obtain ⟨a1, c1, rfl⟩ := form_strs hO1; have hbA := bjoin hb2 hbd)
      | (go_at_call 184; refine (newHeader_any [⟨#[81, 67, 78]⟩, ⟨#[74, 48, 49]⟩] control _ bk w1.heap.size w2 hO1 (by simp) (by simp) hn1 (fun b h => ⟨by have h1 := (hf1 b h).1; have h2 := HSD.out; omega, (hf1 b h).2⟩) hbA.size hc).mono ?_; rintro e w3 ⟨u2, rfl, bh, hO2, hn2, hf2, hb3⟩; obtain ⟨a2, c2, rfl⟩ := form_fields hO2; have hbB := bjoin hb3 hbA)
      | (go_at_call 187; refine (newWord_any tag w3 ht).mono ?_; rintro e w4 ⟨u3, rfl, bt, hO3, hn3, hf3, hb4⟩; obtain ⟨a3, c3, rfl⟩ := form_reps hO3; have hbC := bjoin hb4 hbB)
      | (go_at_call 186; refine (newSegO _ [.slice a3 (wordF tag).length c3] [wordF tag] [bt] w1.heap.size w4 hbC.size (one_field w3 w4 tag _ bt _ hbB.size hb4 hO3 hn3 hf3) (by simp) (by simp) (by intro x hx; simp at hx; subst hx; have := wordF_len tag; omega) 1 rfl).mono ?_; rintro e w5 ⟨u4, rfl, bs, hO4, hn4, hf4, hb5⟩; obtain ⟨a4, c4, rfl⟩ := form_fields hO4; have hbD := bjoin hb5 hbC; obtain ⟨r0, rf, rl⟩ := KRES.out _ (hbD.alloc hbD.size (Obj.cells #[.string ⟨#[77, 83, 72]⟩, .slice a2 (headF [⟨#[81, 67, 78]⟩, ⟨#[74, 48, 49]⟩] control).length c2, .string ⟨#[81, 73, 68]⟩, .slice a4 (trimE List.isEmpty [wordF tag]).length c4] 111))))
  have hs1 := HB1.out.size
  have hsB := hbB.size
  have hsD := hbD.size
  have hsw := HSW.out
  have p1 : Parts OFields w1.heap.size w3 [.slice a2 (headF [⟨#[81, 67, 78]⟩, ⟨#[74, 48, 49]⟩] control).length c2] [headF [⟨#[81, 67, 78]⟩, ⟨#[74, 48, 49]⟩] control] [bh] := Parts.pushAny keep_fields (Parts.nil OFields w1.heap.size w2) hb3 hO2 hn2 (fun b h => ⟨(hf2 b h).1, (hf2 b h).2.1, by simp⟩)
  have p2 : Parts OFields w1.heap.size w5 [.slice a2 (headF [⟨#[81, 67, 78]⟩, ⟨#[74, 48, 49]⟩] control).length c2, .slice a4 (trimE List.isEmpty [wordF tag]).length c4] ((cancelM control tag).map Seg.fields) [bh, bs] := Parts.push keep_fields p1 hsB (bjoin hb5 hb4) hO4 hn4 (fun b h => ⟨by
    rcases (hf4 b h).2.2 with h' | h'
    · have := hb4.size; omega
    · simp at h'; exact hf3 b h', (hf4 b h).2.1⟩)
  obtain ⟨hS, hN, hin⟩ := segsO (cancelM control tag) _ _ _ w5 p2 (by intro x hx; simp [cancelM] at hx; rcases hx with rfl | rfl <;> exact (by decide : (3 : Nat) ≤ 9223372036854775807)) (by simp [cancelM]) (by simp [cancelM])
  have HS : Hid (∀ x, OSegs ((w5.alloc (.cells (segCells (cancelM control tag) [.slice a2 (headF [⟨#[81, 67, 78]⟩, ⟨#[74, 48, 49]⟩] control).length c2, .slice a4 (trimE List.isEmpty [wordF tag]).length c4]).toArray 111)).setCell ⟨w.heap.size + 1, 0, none⟩ x) (.slice (some ⟨w5.heap.size, 0, none⟩) 2 2) (cancelM control tag) (w5.heap.size :: [bh, bs].flatten)) := fun x =>
    OAt.kept keptO_seg hS (by rw [Deep.nblk_setCell]; exact Nat.le_refl _) fun d hd => Deep.blk_setCell_other _ ⟨w.heap.size + 1, 0, none⟩ _ d (by
      rw [List.mem_cons] at hd
      dsimp only
      rcases hd with rfl | hd
      · omega
      · have := (hin d hd).1; omega)
  have HN := hide hN
  have HFR := hide (show ∀ b ∈ (w5.heap.size :: [bh, bs].flatten), w.heap.size ≤ b by
    intro d hd
    rw [List.mem_cons] at hd
    rcases hd with rfl | hd
    · omega
    · have := (hin d hd).1; omega)
  have HBF : Hid (∀ o x, Below w.heap.size w ((w5.alloc o).setCell ⟨w.heap.size + 1, 0, none⟩ x)) := fun o x => (HST.out _ (hbD.alloc hbD.size o) x).2.2
  clear hsw
  go_wp2_with fail
  exact bodyPost_ret (v := .agg #[.slice (some ⟨w5.heap.size, 0, none⟩) 2 2]) (by simp [results, Try.results211, go_sem, r0, rl]) rfl ⟨_, rfl, _, HS.out _, HN.out, HFR.out, HBF.out _ _⟩
end Go.Proofs.Ytjpdgcodjnnljaa.Msg
