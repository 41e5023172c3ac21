import Derived.Test.YtjpdgcodjnnljaaImplSegs3withImplLetterW
namespace Go.Proofs.Ytjpdgcodjnnljaa.Msg
open Go.ChangeShapes Go.WideShapes Go.ChangeAt Go.RowKit
set_option linter.unusedVariables false
set_option linter.unusedSimpArgs false

def nextM (control tag query pointer : ByteArray) : List Seg := [⟨⟨#[77, 83, 72]⟩, headF [⟨#[81, 66, 80]⟩, ⟨#[90, 48, 49]⟩] control⟩, ⟨⟨#[81, 80, 68]⟩, trimE List.isEmpty [wordF ⟨#[81]⟩, wordF tag, wordF query]⟩, ⟨⟨#[68, 83, 67]⟩, trimE List.isEmpty [wordF pointer]⟩]
theorem words_sz {xs : List Field} (h : ∀ x ∈ xs, x = [] ∨ ∃ s, x = wordF s) : ∀ x ∈ xs, x.length ≤ 1048576 := fun x hx => by
  rcases h x hx with rfl | ⟨s, rfl⟩
  · simp
  · have := wordF_len s; omega

set_option maxRecDepth 100000 in
set_option maxHeartbeats 8000000 in
theorem nextWrite_any (control tag query pointer : ByteArray) (w : World) (hc : control.size ≤ 1048576) (ht : tag.size ≤ 1048576) (hq : query.size ≤ 1048576) (hp : pointer.size ≤ 1048576) :
    Calls Try.prog 208 #[.agg #[.string control, .string tag, .string query, .string pointer]] w (MsgPost w (nextM control tag query pointer)) := by
  obtain ⟨x1, hx1⟩ : ∃ x1, w.alloc (Obj.cells #[.string control, .string tag, .string query, .string pointer] 155) = x1 := ⟨_, rfl⟩
  obtain ⟨w1, hw1⟩ : ∃ w1, x1.alloc (Obj.cells #[.slice none 0 0] 55) = w1 := ⟨_, rfl⟩
  have sx1 : x1.heap.size = w.heap.size + 1 := by rw [← hx1]; simp
  have sw1 : w1.heap.size = w.heap.size + 1 + 1 := by rw [← hw1]; simp [sx1]
  have bx1 : Below w.heap.size w x1 := by rw [← hx1]; exact (Below.refl _ _).alloc (Nat.le_refl _) _
  have bw1 : Below x1.heap.size x1 w1 := by rw [← hw1]; exact (Below.refl _ _).alloc (Nat.le_refl _) _
  have c0 : w1.cell? ⟨w.heap.size, 0, none⟩ = some (.string control) := (bw1.cell (p := ⟨w.heap.size, 0, none⟩) (by rw [sx1]; simp)).trans (by rw [← hx1]; simp)
  have c1 : w1.cell? ⟨w.heap.size, 1, none⟩ = some (.string tag) := (bw1.cell (p := ⟨w.heap.size, 1, none⟩) (by rw [sx1]; simp)).trans (by rw [← hx1]; simp)
  have c2 : w1.cell? ⟨w.heap.size, 2, none⟩ = some (.string query) := (bw1.cell (p := ⟨w.heap.size, 2, none⟩) (by rw [sx1]; simp)).trans (by rw [← hx1]; simp)
  have c3 : w1.cell? ⟨w.heap.size, 3, none⟩ = some (.string pointer) := (bw1.cell (p := ⟨w.heap.size, 3, none⟩) (by rw [sx1]; simp)).trans (by rw [← hx1]; simp)
  have cr : w1.cell? ⟨w.heap.size + 1, 0, none⟩ = some (.slice none 0 0) := by rw [← hw1, ← sx1]; simp
  have fr : w1.frozen? ⟨w.heap.size + 1, 0, none⟩ = false := by rw [← hw1, ← sx1]; simp
  have HB1 := hide (bjoin' bw1 bx1)
  have HW1 : Hid ((w.alloc (Obj.cells #[.string control, .string tag, .string query, .string pointer] 155)).alloc (Obj.cells #[.slice none 0 0] 55) = w1) := by rw [hx1]; exact hw1
  have KEEP : Hid (∀ X, Below w1.heap.size w1 X → X.cell? ⟨w.heap.size, 0, none⟩ = some (.string control) ∧ X.cell? ⟨w.heap.size, 1, none⟩ = some (.string tag) ∧ X.cell? ⟨w.heap.size, 2, none⟩ = some (.string query) ∧ X.cell? ⟨w.heap.size, 3, none⟩ = some (.string pointer) ∧ Below w.heap.size w X) := fun X h =>
    ⟨(h.cell (p := ⟨w.heap.size, 0, none⟩) (by rw [sw1]; dsimp only; omega)).trans c0, (h.cell (p := ⟨w.heap.size, 1, none⟩) (by rw [sw1]; dsimp only; omega)).trans c1, (h.cell (p := ⟨w.heap.size, 2, none⟩) (by rw [sw1]; dsimp only; omega)).trans c2, (h.cell (p := ⟨w.heap.size, 3, none⟩) (by rw [sw1]; dsimp only; omega)).trans c3, bjoin' h HB1.out⟩
  have KRES : Hid (∀ X, Below w1.heap.size w1 X → X.cell? ⟨w.heap.size + 1, 0, none⟩ = some (.slice none 0 0) ∧ X.frozen? ⟨w.heap.size + 1, 0, none⟩ = false ∧ w.heap.size + 1 < X.heap.size) := fun X h =>
    ⟨(h.cell (p := ⟨w.heap.size + 1, 0, none⟩) (by rw [sw1]; dsimp only; omega)).trans cr, (h.frozen (p := ⟨w.heap.size + 1, 0, none⟩) (by rw [sw1]; dsimp only; omega)).trans fr, by have := h.size; omega⟩
  have n1 : (⟨w.heap.size + 1, 0, none⟩ : Addr).block ≠ w.heap.size := by dsimp only; omega
  have HST : Hid (∀ X, Below w1.heap.size w1 X → ∀ x, (X.setCell ⟨w.heap.size + 1, 0, none⟩ x).cell? ⟨w.heap.size, 0, none⟩ = some (.string control) ∧ (X.setCell ⟨w.heap.size + 1, 0, none⟩ x).cell? ⟨w.heap.size, 1, none⟩ = some (.string tag) ∧ (X.setCell ⟨w.heap.size + 1, 0, none⟩ x).cell? ⟨w.heap.size, 2, none⟩ = some (.string query) ∧ (X.setCell ⟨w.heap.size + 1, 0, none⟩ x).cell? ⟨w.heap.size, 3, none⟩ = some (.string pointer) ∧ Below w.heap.size w (X.setCell ⟨w.heap.size + 1, 0, none⟩ x)) := fun X h x => by
    obtain ⟨g0, g1, g2, g3, gB⟩ := KEEP.out X h
    exact ⟨(World.cell?_setCell_far _ ⟨w.heap.size + 1, 0, none⟩ ⟨w.heap.size, 0, none⟩ _ n1).trans g0, (World.cell?_setCell_far _ ⟨w.heap.size + 1, 0, none⟩ ⟨w.heap.size, 1, none⟩ _ n1).trans g1, (World.cell?_setCell_far _ ⟨w.heap.size + 1, 0, none⟩ ⟨w.heap.size, 2, none⟩ _ n1).trans g2, (World.cell?_setCell_far _ ⟨w.heap.size + 1, 0, none⟩ ⟨w.heap.size, 3, none⟩ _ n1).trans g3, gB.setCell (p := ⟨w.heap.size + 1, 0, none⟩) (Nat.le_succ _) x⟩
  obtain ⟨wd, hwd⟩ : ∃ wd, w1.drew = wd := ⟨_, rfl⟩
  have hbd : Below w1.heap.size w1 wd := by rw [← hwd]; exact (Below.refl _ _).drew
  have sd : wd.heap.size = w1.heap.size := by rw [← hwd]; rfl
  have HWD := hide hwd
  have HSW := hide sw1
  have HSD := hide sd
  clear hx1 hw1 sx1 sw1 bx1 bw1 c0 c1 c2 c3 cr fr hwd sd n1
  go_enter Try.func208, Try.ntmps208
  go_wp2_with fail
  rw [HW1.out]
  have hbd0 := (Below.refl w1.heap.size w1).drew
  have hwd := HWD.out
  go_region_held3 (fun X => X.cell? ⟨w.heap.size, 0, none⟩ = some (.string control) ∧ X.cell? ⟨w.heap.size, 1, none⟩ = some (.string tag) ∧ X.cell? ⟨w.heap.size, 2, none⟩ = some (.string query) ∧ X.cell? ⟨w.heap.size, 3, none⟩ = some (.string pointer) ∧ Below w.heap.size w X)
    (first | with_reducible exact KEEP.out _ hbd0 | with_reducible exact KEEP.out _ hbd | with_reducible exact KEEP.out _ (hbd.alloc hbd.size _) | with_reducible exact KEEP.out _ hB0 | with_reducible exact KEEP.out _ hB1 | with_reducible exact KEEP.out _ hB2 | with_reducible exact KEEP.out _ (hB2.alloc hB2.size _) | with_reducible exact KEEP.out _ hB3 | with_reducible exact KEEP.out _ (hB3.alloc hB3.size _) | with_reducible exact KEEP.out _ hB4 | with_reducible exact KEEP.out _ (hB4.alloc hB4.size _) | with_reducible exact KEEP.out _ hB5 | with_reducible exact KEEP.out _ (hB5.alloc hB5.size _) | with_reducible exact KEEP.out _ hB6 | with_reducible exact KEEP.out _ (hB6.alloc hB6.size _) | with_reducible exact KEEP.out _ hB7 | with_reducible exact KEEP.out _ (hB7.alloc hB7.size _) | with_reducible exact HST.out _ (hB7.alloc hB7.size _) _)
    (first
      | (go_at_call 186; refine (newSegO _ [.slice aw3 (wordF pointer).length kw3] [wordF pointer] [bw3] w1.heap.size v6 hB6.size (Parts.push keep_reps (Parts.nil OReps w1.heap.size v5) hB5.size hb6 hOw3 hnw3 (fun b h => ⟨hfw3 b h, OAt.lt ltO_rep hOw3 b h⟩)) (by simp) (by simp) (words_sz (by intro x hx; simp at hx; first | (subst hx; exact .inr ⟨_, rfl⟩) | (rcases hx with rfl | rfl | rfl <;> exact .inr ⟨_, rfl⟩))) 1 rfl).mono ?_; rintro e v7 ⟨us2, rfl, bs2, hOs2, hns2, hfs2, hb7⟩; obtain ⟨as2, ks2, rfl⟩ := form_fields hOs2; have hB7 := bjoin hb7 hB6; obtain ⟨r0, rf, rl⟩ := KRES.out _ (hB7.alloc hB7.size (Obj.cells #[.string ⟨#[77, 83, 72]⟩, .slice a2 (headF [⟨#[81, 66, 80]⟩, ⟨#[90, 48, 49]⟩] control).length k2, .string ⟨#[81, 80, 68]⟩, .slice as1 (trimE List.isEmpty [wordF ⟨#[81]⟩, wordF tag, wordF query]).length ks1, .string ⟨#[68, 83, 67]⟩, .slice as2 (trimE List.isEmpty [wordF pointer]).length ks2] 111)))
      | (go_at_call 187; refine (newWord_any pointer v5 hp).mono ?_; rintro e v6 ⟨uw3, rfl, bw3, hOw3, hnw3, hfw3, hb6⟩; obtain ⟨aw3, kw3, rfl⟩ := form_reps hOw3; have hB6 := bjoin hb6 hB5)
      | (go_at_call 186; refine (newSegO _ [.slice aw0 (wordF ⟨#[81]⟩).length kw0, .slice aw1 (wordF tag).length kw1, .slice aw2 (wordF query).length kw2] [wordF ⟨#[81]⟩, wordF tag, wordF query] [bw0, bw1, bw2] w1.heap.size v4 hB4.size (Parts.push keep_reps (Parts.push keep_reps (Parts.push keep_reps (Parts.nil OReps w1.heap.size v1) hB1.size hb2 hOw0 hnw0 (fun b h => ⟨hfw0 b h, OAt.lt ltO_rep hOw0 b h⟩)) hB2.size hb3 hOw1 hnw1 (fun b h => ⟨hfw1 b h, OAt.lt ltO_rep hOw1 b h⟩)) hB3.size hb4 hOw2 hnw2 (fun b h => ⟨hfw2 b h, OAt.lt ltO_rep hOw2 b h⟩)) (by simp) (by simp) (words_sz (by intro x hx; simp at hx; first | (subst hx; exact .inr ⟨_, rfl⟩) | (rcases hx with rfl | rfl | rfl <;> exact .inr ⟨_, rfl⟩))) 3 rfl).mono ?_; rintro e v5 ⟨us1, rfl, bs1, hOs1, hns1, hfs1, hb5⟩; obtain ⟨as1, ks1, rfl⟩ := form_fields hOs1; have hB5 := bjoin hb5 hB4)
      | (go_at_call 187; refine (newWord_any query v3 hq).mono ?_; rintro e v4 ⟨uw2, rfl, bw2, hOw2, hnw2, hfw2, hb4⟩; obtain ⟨aw2, kw2, rfl⟩ := form_reps hOw2; have hB4 := bjoin hb4 hB3)
      | (go_at_call 187; refine (newWord_any tag v2 ht).mono ?_; rintro e v3 ⟨uw1, rfl, bw1, hOw1, hnw1, hfw1, hb3⟩; obtain ⟨aw1, kw1, rfl⟩ := form_reps hOw1; have hB3 := bjoin hb3 hB2)
      | (go_at_call 187; refine (newWord_any ⟨#[81]⟩ v1 (by decide)).mono ?_; rintro e v2 ⟨uw0, rfl, bw0, hOw0, hnw0, hfw0, hb2⟩; obtain ⟨aw0, kw0, rfl⟩ := form_reps hOw0; have hB2 := bjoin hb2 hB1)
      | (go_at_call 184; refine (newHeader_any [⟨#[81, 66, 80]⟩, ⟨#[90, 48, 49]⟩] control _ bk w1.heap.size v0 hO1 (by simp) (by simp) hn1 (fun b h => ⟨by have h1 := (hf1 b h).1; have h2 := HSD.out; omega, (hf1 b h).2⟩) hB0.size hc).mono ?_; rintro e v1 ⟨u2, rfl, bh, hO2, hn2, hf2, hb1⟩; obtain ⟨a2, k2, rfl⟩ := form_fields hO2; have hB1 := bjoin hb1 hB0)
      | (go_at_call 185; refine (newRep2 ⟨#[81, 66, 80]⟩ ⟨#[90, 48, 49]⟩ wd (by decide) (by decide) (by decide)).mono ?_; rintro e v0 ⟨u1, rfl, bk, hO1, hn1, hf1, hb0⟩; obtain ⟨a1, k1, rfl⟩ := form_strs hO1; have hB0 := bjoin hb0 hbd))
  have hs1 := HB1.out.size
  have hsw := HSW.out
  have hz0 := hB0.size
  have hy0 := hb0.size
  have hz1 := hB1.size
  have hy1 := hb1.size
  have hz2 := hB2.size
  have hy2 := hb2.size
  have hz3 := hB3.size
  have hy3 := hb3.size
  have hz4 := hB4.size
  have hy4 := hb4.size
  have hz5 := hB5.size
  have hy5 := hb5.size
  have hz6 := hB6.size
  have hy6 := hb6.size
  have hz7 := hB7.size
  have hy7 := hb7.size
  have p1 : Parts OFields w1.heap.size v1 [.slice a2 (headF [⟨#[81, 66, 80]⟩, ⟨#[90, 48, 49]⟩] control).length k2] [headF [⟨#[81, 66, 80]⟩, ⟨#[90, 48, 49]⟩] control] [bh] := Parts.pushAny keep_fields (Parts.nil OFields w1.heap.size v0) hb1 hO2 hn2 (fun b h => ⟨(hf2 b h).1, (hf2 b h).2.1, by simp⟩)
  have p2 : Parts OFields w1.heap.size v5 [.slice a2 (headF [⟨#[81, 66, 80]⟩, ⟨#[90, 48, 49]⟩] control).length k2, .slice as1 (trimE List.isEmpty [wordF ⟨#[81]⟩, wordF tag, wordF query]).length ks1] [headF [⟨#[81, 66, 80]⟩, ⟨#[90, 48, 49]⟩] control, trimE List.isEmpty [wordF ⟨#[81]⟩, wordF tag, wordF query]] [bh, bs1] := Parts.push keep_fields p1 hz1 (bjoin (bjoin (bjoin (hb5) hb4) hb3) hb2) hOs1 hns1 (fun b h => ⟨by
    rcases (hfs1 b h).2.2 with h' | h'
    · omega
    · simp only [List.flatten_cons, List.flatten_nil, List.nil_append, List.append_nil, List.mem_append] at h'
      rcases h' with h' | h' | h'
      · have := hfw0 b h'; omega
      · have := hfw1 b h'; omega
      · have := hfw2 b h'; omega, (hfs1 b h).2.1⟩)
  have p3 : Parts OFields w1.heap.size v7 [.slice a2 (headF [⟨#[81, 66, 80]⟩, ⟨#[90, 48, 49]⟩] control).length k2, .slice as1 (trimE List.isEmpty [wordF ⟨#[81]⟩, wordF tag, wordF query]).length ks1, .slice as2 (trimE List.isEmpty [wordF pointer]).length ks2] [headF [⟨#[81, 66, 80]⟩, ⟨#[90, 48, 49]⟩] control, trimE List.isEmpty [wordF ⟨#[81]⟩, wordF tag, wordF query], trimE List.isEmpty [wordF pointer]] [bh, bs1, bs2] := Parts.push keep_fields p2 hz5 (bjoin (hb7) hb6) hOs2 hns2 (fun b h => ⟨by
    rcases (hfs2 b h).2.2 with h' | h'
    · omega
    · simp at h'; have := hfw3 b h'; omega, (hfs2 b h).2.1⟩)
  obtain ⟨hS, hN, hin⟩ := segsO (nextM control tag query pointer) [.slice a2 (headF [⟨#[81, 66, 80]⟩, ⟨#[90, 48, 49]⟩] control).length k2, .slice as1 (trimE List.isEmpty [wordF ⟨#[81]⟩, wordF tag, wordF query]).length ks1, .slice as2 (trimE List.isEmpty [wordF pointer]).length ks2] [bh, bs1, bs2] _ v7 p3 (by intro x hx; simp [nextM] at hx; rcases hx with rfl | rfl | rfl <;> exact (by decide : (3 : Nat) ≤ 9223372036854775807)) (by simp [nextM]) (by simp [nextM])
  have HS : Hid (∀ x, OSegs ((v7.alloc (.cells (segCells (nextM control tag query pointer) [.slice a2 (headF [⟨#[81, 66, 80]⟩, ⟨#[90, 48, 49]⟩] control).length k2, .slice as1 (trimE List.isEmpty [wordF ⟨#[81]⟩, wordF tag, wordF query]).length ks1, .slice as2 (trimE List.isEmpty [wordF pointer]).length ks2]).toArray 111)).setCell ⟨w.heap.size + 1, 0, none⟩ x) (.slice (some ⟨v7.heap.size, 0, none⟩) 3 3) (nextM control tag query pointer) (v7.heap.size :: [bh, bs1, bs2].flatten)) := fun x =>
    OAt.kept keptO_seg hS (by rw [Deep.nblk_setCell]; exact Nat.le_refl _) fun d hd => Deep.blk_setCell_other _ ⟨w.heap.size + 1, 0, none⟩ _ d (by
      rw [List.mem_cons] at hd
      dsimp only
      rcases hd with rfl | hd
      · omega
      · have := (hin d hd).1; omega)
  have HN := hide hN
  have HFR := hide (show ∀ b ∈ (v7.heap.size :: [bh, bs1, bs2].flatten), w.heap.size ≤ b by
    intro d hd
    rw [List.mem_cons] at hd
    rcases hd with rfl | hd
    · omega
    · have := (hin d hd).1; omega)
  have HBF : Hid (∀ o x, Below w.heap.size w ((v7.alloc o).setCell ⟨w.heap.size + 1, 0, none⟩ x)) := fun o x => (HST.out _ (hB7.alloc hB7.size o) x).2.2.2.2
  clear hsw hz0 hy0 hz1 hy1 hz2 hy2 hz3 hy3 hz4 hy4 hz5 hy5 hz6 hy6 hz7 hy7
  go_wp2_with fail
  exact bodyPost_ret (v := .agg #[.slice (some ⟨v7.heap.size, 0, none⟩) 3 3]) (by simp [results, Try.results208, go_sem, r0, rl]) rfl ⟨_, rfl, _, HS.out _, HN.out, HFR.out, HBF.out _ _⟩
end Go.Proofs.Ytjpdgcodjnnljaa.Msg

namespace Go.Proofs.Ytjpdgcodjnnljaa.Msg
open Go.ChangeShapes Go.WideShapes Go.ChangeAt Go.RowKit
set_option linter.unusedVariables false
set_option linter.unusedSimpArgs false

def newM (control tag query dt : ByteArray) : List Seg := [⟨⟨#[77, 83, 72]⟩, headF [⟨#[81, 66, 80]⟩, ⟨#[90, 48, 49]⟩] control⟩, ⟨⟨#[81, 80, 68]⟩, trimE List.isEmpty [wordF ⟨#[81]⟩, wordF tag, wordF query]⟩, ⟨⟨#[82, 67, 80]⟩, trimE List.isEmpty [([] : Field), wordF dt]⟩]

set_option maxRecDepth 100000 in
set_option maxHeartbeats 8000000 in
theorem newWrite_any (control tag query dt : ByteArray) (page : Int) (w : World) (hc : control.size ≤ 1048576) (ht : tag.size ≤ 1048576) (hq : query.size ≤ 1048576) (hp : dt.size ≤ 1048576) (HI : Hid (∀ W, Calls Try.prog 188 #[.int .i64 page] W fun e w' => e = .returned (.string dt) ∧ w' = W)) :
    Calls Try.prog 179 #[.agg #[.string control, .string tag, .string query, .int .i64 page]] w (MsgPost w (newM control tag query dt)) := by
  obtain ⟨x1, hx1⟩ : ∃ x1, w.alloc (Obj.cells #[.string control, .string tag, .string query, .int .i64 page] 153) = x1 := ⟨_, rfl⟩
  obtain ⟨w1, hw1⟩ : ∃ w1, x1.alloc (Obj.cells #[.slice none 0 0] 55) = w1 := ⟨_, rfl⟩
  have sx1 : x1.heap.size = w.heap.size + 1 := by rw [← hx1]; simp
  have sw1 : w1.heap.size = w.heap.size + 1 + 1 := by rw [← hw1]; simp [sx1]
  have bx1 : Below w.heap.size w x1 := by rw [← hx1]; exact (Below.refl _ _).alloc (Nat.le_refl _) _
  have bw1 : Below x1.heap.size x1 w1 := by rw [← hw1]; exact (Below.refl _ _).alloc (Nat.le_refl _) _
  have c0 : w1.cell? ⟨w.heap.size, 0, none⟩ = some (.string control) := (bw1.cell (p := ⟨w.heap.size, 0, none⟩) (by rw [sx1]; simp)).trans (by rw [← hx1]; simp)
  have c1 : w1.cell? ⟨w.heap.size, 1, none⟩ = some (.string tag) := (bw1.cell (p := ⟨w.heap.size, 1, none⟩) (by rw [sx1]; simp)).trans (by rw [← hx1]; simp)
  have c2 : w1.cell? ⟨w.heap.size, 2, none⟩ = some (.string query) := (bw1.cell (p := ⟨w.heap.size, 2, none⟩) (by rw [sx1]; simp)).trans (by rw [← hx1]; simp)
  have c3 : w1.cell? ⟨w.heap.size, 3, none⟩ = some (.int .i64 page) := (bw1.cell (p := ⟨w.heap.size, 3, none⟩) (by rw [sx1]; simp)).trans (by rw [← hx1]; simp)
  have cr : w1.cell? ⟨w.heap.size + 1, 0, none⟩ = some (.slice none 0 0) := by rw [← hw1, ← sx1]; simp
  have fr : w1.frozen? ⟨w.heap.size + 1, 0, none⟩ = false := by rw [← hw1, ← sx1]; simp
  have HB1 := hide (bjoin' bw1 bx1)
  have HW1 : Hid ((w.alloc (Obj.cells #[.string control, .string tag, .string query, .int .i64 page] 153)).alloc (Obj.cells #[.slice none 0 0] 55) = w1) := by rw [hx1]; exact hw1
  have KEEP : Hid (∀ X, Below w1.heap.size w1 X → X.cell? ⟨w.heap.size, 0, none⟩ = some (.string control) ∧ X.cell? ⟨w.heap.size, 1, none⟩ = some (.string tag) ∧ X.cell? ⟨w.heap.size, 2, none⟩ = some (.string query) ∧ X.cell? ⟨w.heap.size, 3, none⟩ = some (.int .i64 page) ∧ Below w.heap.size w X) := fun X h =>
    ⟨(h.cell (p := ⟨w.heap.size, 0, none⟩) (by rw [sw1]; dsimp only; omega)).trans c0, (h.cell (p := ⟨w.heap.size, 1, none⟩) (by rw [sw1]; dsimp only; omega)).trans c1, (h.cell (p := ⟨w.heap.size, 2, none⟩) (by rw [sw1]; dsimp only; omega)).trans c2, (h.cell (p := ⟨w.heap.size, 3, none⟩) (by rw [sw1]; dsimp only; omega)).trans c3, bjoin' h HB1.out⟩
  have KRES : Hid (∀ X, Below w1.heap.size w1 X → X.cell? ⟨w.heap.size + 1, 0, none⟩ = some (.slice none 0 0) ∧ X.frozen? ⟨w.heap.size + 1, 0, none⟩ = false ∧ w.heap.size + 1 < X.heap.size) := fun X h =>
    ⟨(h.cell (p := ⟨w.heap.size + 1, 0, none⟩) (by rw [sw1]; dsimp only; omega)).trans cr, (h.frozen (p := ⟨w.heap.size + 1, 0, none⟩) (by rw [sw1]; dsimp only; omega)).trans fr, by have := h.size; omega⟩
  have n1 : (⟨w.heap.size + 1, 0, none⟩ : Addr).block ≠ w.heap.size := by dsimp only; omega
  have HST : Hid (∀ X, Below w1.heap.size w1 X → ∀ x, (X.setCell ⟨w.heap.size + 1, 0, none⟩ x).cell? ⟨w.heap.size, 0, none⟩ = some (.string control) ∧ (X.setCell ⟨w.heap.size + 1, 0, none⟩ x).cell? ⟨w.heap.size, 1, none⟩ = some (.string tag) ∧ (X.setCell ⟨w.heap.size + 1, 0, none⟩ x).cell? ⟨w.heap.size, 2, none⟩ = some (.string query) ∧ (X.setCell ⟨w.heap.size + 1, 0, none⟩ x).cell? ⟨w.heap.size, 3, none⟩ = some (.int .i64 page) ∧ Below w.heap.size w (X.setCell ⟨w.heap.size + 1, 0, none⟩ x)) := fun X h x => by
    obtain ⟨g0, g1, g2, g3, gB⟩ := KEEP.out X h
    exact ⟨(World.cell?_setCell_far _ ⟨w.heap.size + 1, 0, none⟩ ⟨w.heap.size, 0, none⟩ _ n1).trans g0, (World.cell?_setCell_far _ ⟨w.heap.size + 1, 0, none⟩ ⟨w.heap.size, 1, none⟩ _ n1).trans g1, (World.cell?_setCell_far _ ⟨w.heap.size + 1, 0, none⟩ ⟨w.heap.size, 2, none⟩ _ n1).trans g2, (World.cell?_setCell_far _ ⟨w.heap.size + 1, 0, none⟩ ⟨w.heap.size, 3, none⟩ _ n1).trans g3, gB.setCell (p := ⟨w.heap.size + 1, 0, none⟩) (Nat.le_succ _) x⟩
  obtain ⟨wd, hwd⟩ : ∃ wd, w1.drew = wd := ⟨_, rfl⟩
  have hbd : Below w1.heap.size w1 wd := by rw [← hwd]; exact (Below.refl _ _).drew
  have sd : wd.heap.size = w1.heap.size := by rw [← hwd]; rfl
  have HWD := hide hwd
  have HSW := hide sw1
  have HSD := hide sd
  clear hx1 hw1 sx1 sw1 bx1 bw1 c0 c1 c2 c3 cr fr hwd sd n1
  go_enter Try.func179, Try.ntmps179
  go_wp2_with fail
  rw [HW1.out]
  have hbd0 := (Below.refl w1.heap.size w1).drew
  have hwd := HWD.out
  go_region_held3 (fun X => X.cell? ⟨w.heap.size, 0, none⟩ = some (.string control) ∧ X.cell? ⟨w.heap.size, 1, none⟩ = some (.string tag) ∧ X.cell? ⟨w.heap.size, 2, none⟩ = some (.string query) ∧ X.cell? ⟨w.heap.size, 3, none⟩ = some (.int .i64 page) ∧ Below w.heap.size w X)
    (first | with_reducible exact KEEP.out _ hbd0 | with_reducible exact KEEP.out _ hbd | with_reducible exact KEEP.out _ (hbd.alloc hbd.size _) | with_reducible exact KEEP.out _ hB0 | with_reducible exact KEEP.out _ hB1 | with_reducible exact KEEP.out _ hB2 | with_reducible exact KEEP.out _ (hB2.alloc hB2.size _) | with_reducible exact KEEP.out _ hB3 | with_reducible exact KEEP.out _ (hB3.alloc hB3.size _) | with_reducible exact KEEP.out _ hB4 | with_reducible exact KEEP.out _ (hB4.alloc hB4.size _) | with_reducible exact KEEP.out _ hB5 | with_reducible exact KEEP.out _ (hB5.alloc hB5.size _) | with_reducible exact KEEP.out _ hB6 | with_reducible exact KEEP.out _ (hB6.alloc hB6.size _) | with_reducible exact KEEP.out _ hB7 | with_reducible exact KEEP.out _ (hB7.alloc hB7.size _) | with_reducible exact HST.out _ (hB7.alloc hB7.size _) _)
    (first
      | (go_at_call 188; refine (HI.out _).mono ?_; rintro e w' ⟨rfl, hw'⟩; rw [hw']; clear hw' w')
      | (go_at_call 186; refine (newSegO _ [.slice none 0 0, .slice aw3 (wordF dt).length kw3] [([] : Field), wordF dt] [[], bw3] w1.heap.size v6 hB6.size (Parts.push keep_reps (Parts.push0 keep_reps (Parts.nil OReps w1.heap.size v5) hB5.size (o_nil v5 none 0)) hB5.size hb6 hOw3 hnw3 (fun b h => ⟨hfw3 b h, OAt.lt ltO_rep hOw3 b h⟩)) (by simp) (by simp) (words_sz (by intro x hx; simp at hx; first | (subst hx; exact .inr ⟨_, rfl⟩) | (rcases hx with rfl | rfl | rfl <;> exact .inr ⟨_, rfl⟩) | (rcases hx with rfl | rfl; exact .inl rfl; exact .inr ⟨_, rfl⟩))) 2 rfl).mono ?_; rintro e v7 ⟨us2, rfl, bs2, hOs2, hns2, hfs2, hb7⟩; obtain ⟨as2, ks2, rfl⟩ := form_fields hOs2; have hB7 := bjoin hb7 hB6; obtain ⟨r0, rf, rl⟩ := KRES.out _ (hB7.alloc hB7.size (Obj.cells #[.string ⟨#[77, 83, 72]⟩, .slice a2 (headF [⟨#[81, 66, 80]⟩, ⟨#[90, 48, 49]⟩] control).length k2, .string ⟨#[81, 80, 68]⟩, .slice as1 (trimE List.isEmpty [wordF ⟨#[81]⟩, wordF tag, wordF query]).length ks1, .string ⟨#[82, 67, 80]⟩, .slice as2 (trimE List.isEmpty [([] : Field), wordF dt]).length ks2] 111)))
      | (go_at_call 187; refine (newWord_any dt v5 hp).mono ?_; rintro e v6 ⟨uw3, rfl, bw3, hOw3, hnw3, hfw3, hb6⟩; obtain ⟨aw3, kw3, rfl⟩ := form_reps hOw3; have hB6 := bjoin hb6 hB5)
      | (go_at_call 186; refine (newSegO _ [.slice aw0 (wordF ⟨#[81]⟩).length kw0, .slice aw1 (wordF tag).length kw1, .slice aw2 (wordF query).length kw2] [wordF ⟨#[81]⟩, wordF tag, wordF query] [bw0, bw1, bw2] w1.heap.size v4 hB4.size (Parts.push keep_reps (Parts.push keep_reps (Parts.push keep_reps (Parts.nil OReps w1.heap.size v1) hB1.size hb2 hOw0 hnw0 (fun b h => ⟨hfw0 b h, OAt.lt ltO_rep hOw0 b h⟩)) hB2.size hb3 hOw1 hnw1 (fun b h => ⟨hfw1 b h, OAt.lt ltO_rep hOw1 b h⟩)) hB3.size hb4 hOw2 hnw2 (fun b h => ⟨hfw2 b h, OAt.lt ltO_rep hOw2 b h⟩)) (by simp) (by simp) (words_sz (by intro x hx; simp at hx; first | (subst hx; exact .inr ⟨_, rfl⟩) | (rcases hx with rfl | rfl | rfl <;> exact .inr ⟨_, rfl⟩) | (rcases hx with rfl | rfl; exact .inl rfl; exact .inr ⟨_, rfl⟩))) 3 rfl).mono ?_; rintro e v5 ⟨us1, rfl, bs1, hOs1, hns1, hfs1, hb5⟩; obtain ⟨as1, ks1, rfl⟩ := form_fields hOs1; have hB5 := bjoin hb5 hB4)
      | (go_at_call 187; refine (newWord_any query v3 hq).mono ?_; rintro e v4 ⟨uw2, rfl, bw2, hOw2, hnw2, hfw2, hb4⟩; obtain ⟨aw2, kw2, rfl⟩ := form_reps hOw2; have hB4 := bjoin hb4 hB3)
      | (go_at_call 187; refine (newWord_any tag v2 ht).mono ?_; rintro e v3 ⟨uw1, rfl, bw1, hOw1, hnw1, hfw1, hb3⟩; obtain ⟨aw1, kw1, rfl⟩ := form_reps hOw1; have hB3 := bjoin hb3 hB2)
      | (go_at_call 187; refine (newWord_any ⟨#[81]⟩ v1 (by decide)).mono ?_; rintro e v2 ⟨uw0, rfl, bw0, hOw0, hnw0, hfw0, hb2⟩; obtain ⟨aw0, kw0, rfl⟩ := form_reps hOw0; have hB2 := bjoin hb2 hB1)
      | (go_at_call 184; refine (newHeader_any [⟨#[81, 66, 80]⟩, ⟨#[90, 48, 49]⟩] control _ bk w1.heap.size v0 hO1 (by simp) (by simp) hn1 (fun b h => ⟨by have h1 := (hf1 b h).1; have h2 := HSD.out; omega, (hf1 b h).2⟩) hB0.size hc).mono ?_; rintro e v1 ⟨u2, rfl, bh, hO2, hn2, hf2, hb1⟩; obtain ⟨a2, k2, rfl⟩ := form_fields hO2; have hB1 := bjoin hb1 hB0)
      | (go_at_call 185; refine (newRep2 ⟨#[81, 66, 80]⟩ ⟨#[90, 48, 49]⟩ wd (by decide) (by decide) (by decide)).mono ?_; rintro e v0 ⟨u1, rfl, bk, hO1, hn1, hf1, hb0⟩; obtain ⟨a1, k1, rfl⟩ := form_strs hO1; have hB0 := bjoin hb0 hbd))
  have hs1 := HB1.out.size
  have hsw := HSW.out
  have hz0 := hB0.size
  have hy0 := hb0.size
  have hz1 := hB1.size
  have hy1 := hb1.size
  have hz2 := hB2.size
  have hy2 := hb2.size
  have hz3 := hB3.size
  have hy3 := hb3.size
  have hz4 := hB4.size
  have hy4 := hb4.size
  have hz5 := hB5.size
  have hy5 := hb5.size
  have hz6 := hB6.size
  have hy6 := hb6.size
  have hz7 := hB7.size
  have hy7 := hb7.size
  have p1 : Parts OFields w1.heap.size v1 [.slice a2 (headF [⟨#[81, 66, 80]⟩, ⟨#[90, 48, 49]⟩] control).length k2] [headF [⟨#[81, 66, 80]⟩, ⟨#[90, 48, 49]⟩] control] [bh] := Parts.pushAny keep_fields (Parts.nil OFields w1.heap.size v0) hb1 hO2 hn2 (fun b h => ⟨(hf2 b h).1, (hf2 b h).2.1, by simp⟩)
  have p2 : Parts OFields w1.heap.size v5 [.slice a2 (headF [⟨#[81, 66, 80]⟩, ⟨#[90, 48, 49]⟩] control).length k2, .slice as1 (trimE List.isEmpty [wordF ⟨#[81]⟩, wordF tag, wordF query]).length ks1] [headF [⟨#[81, 66, 80]⟩, ⟨#[90, 48, 49]⟩] control, trimE List.isEmpty [wordF ⟨#[81]⟩, wordF tag, wordF query]] [bh, bs1] := Parts.push keep_fields p1 hz1 (bjoin (bjoin (bjoin (hb5) hb4) hb3) hb2) hOs1 hns1 (fun b h => ⟨by
    rcases (hfs1 b h).2.2 with h' | h'
    · omega
    · simp only [List.flatten_cons, List.flatten_nil, List.nil_append, List.append_nil, List.mem_append] at h'
      rcases h' with h' | h' | h'
      · have := hfw0 b h'; omega
      · have := hfw1 b h'; omega
      · have := hfw2 b h'; omega, (hfs1 b h).2.1⟩)
  have p3 : Parts OFields w1.heap.size v7 [.slice a2 (headF [⟨#[81, 66, 80]⟩, ⟨#[90, 48, 49]⟩] control).length k2, .slice as1 (trimE List.isEmpty [wordF ⟨#[81]⟩, wordF tag, wordF query]).length ks1, .slice as2 (trimE List.isEmpty [([] : Field), wordF dt]).length ks2] [headF [⟨#[81, 66, 80]⟩, ⟨#[90, 48, 49]⟩] control, trimE List.isEmpty [wordF ⟨#[81]⟩, wordF tag, wordF query], trimE List.isEmpty [([] : Field), wordF dt]] [bh, bs1, bs2] := Parts.push keep_fields p2 hz5 (bjoin (hb7) hb6) hOs2 hns2 (fun b h => ⟨by
    rcases (hfs2 b h).2.2 with h' | h'
    · omega
    · simp at h'; have := hfw3 b h'; omega, (hfs2 b h).2.1⟩)
  obtain ⟨hS, hN, hin⟩ := segsO (newM control tag query dt) [.slice a2 (headF [⟨#[81, 66, 80]⟩, ⟨#[90, 48, 49]⟩] control).length k2, .slice as1 (trimE List.isEmpty [wordF ⟨#[81]⟩, wordF tag, wordF query]).length ks1, .slice as2 (trimE List.isEmpty [([] : Field), wordF dt]).length ks2] [bh, bs1, bs2] _ v7 p3 (by intro x hx; simp [newM] at hx; rcases hx with rfl | rfl | rfl <;> exact (by decide : (3 : Nat) ≤ 9223372036854775807)) (by simp [newM]) (by simp [newM])
  have HS : Hid (∀ x, OSegs ((v7.alloc (.cells (segCells (newM control tag query dt) [.slice a2 (headF [⟨#[81, 66, 80]⟩, ⟨#[90, 48, 49]⟩] control).length k2, .slice as1 (trimE List.isEmpty [wordF ⟨#[81]⟩, wordF tag, wordF query]).length ks1, .slice as2 (trimE List.isEmpty [([] : Field), wordF dt]).length ks2]).toArray 111)).setCell ⟨w.heap.size + 1, 0, none⟩ x) (.slice (some ⟨v7.heap.size, 0, none⟩) 3 3) (newM control tag query dt) (v7.heap.size :: [bh, bs1, bs2].flatten)) := fun x =>
    OAt.kept keptO_seg hS (by rw [Deep.nblk_setCell]; exact Nat.le_refl _) fun d hd => Deep.blk_setCell_other _ ⟨w.heap.size + 1, 0, none⟩ _ d (by
      rw [List.mem_cons] at hd
      dsimp only
      rcases hd with rfl | hd
      · omega
      · have := (hin d hd).1; omega)
  have HN := hide hN
  have HFR := hide (show ∀ b ∈ (v7.heap.size :: [bh, bs1, bs2].flatten), w.heap.size ≤ b by
    intro d hd
    rw [List.mem_cons] at hd
    rcases hd with rfl | hd
    · omega
    · have := (hin d hd).1; omega)
  have HBF : Hid (∀ o x, Below w.heap.size w ((v7.alloc o).setCell ⟨w.heap.size + 1, 0, none⟩ x)) := fun o x => (HST.out _ (hB7.alloc hB7.size o) x).2.2.2.2
  clear hsw hz0 hy0 hz1 hy1 hz2 hy2 hz3 hy3 hz4 hy4 hz5 hy5 hz6 hy6 hz7 hy7
  go_wp2_with fail
  exact bodyPost_ret (v := .agg #[.slice (some ⟨v7.heap.size, 0, none⟩) 3 3]) (by simp [results, Try.results179, go_sem, r0, rl]) rfl ⟨_, rfl, _, HS.out _, HN.out, HFR.out, HBF.out _ _⟩
end Go.Proofs.Ytjpdgcodjnnljaa.Msg
