import Derived.Test.YtfcmhnfdbobnlaaGreatDoorImplWord3withImplSegCutwithImplParts
import Derived.Deep.RegionHeld3
namespace Go.Proofs.YtfcmhnfdbobnlaaGreatDoor.Msg
open Go.ChangeShapes Go.WideShapes Go.ChangeAt Go.RowKit
set_option linter.unusedVariables false
set_option linter.unusedSimpArgs false

def v251 : ByteArray := ⟨#[50, 46, 53, 46, 49]⟩
/-- the fields of a header -/
def headF (kr : Rep) (ctl : ByteArray) : List Field := [[], [], [], [], [], [], [kr], wordF ctl, [], wordF v251]
theorem headF_trim (kr : Rep) (ctl : ByteArray) : trimE List.isEmpty (headF kr ctl) = headF kr ctl := by
  have e : keepN List.isEmpty (headF kr ctl) = 10 := rfl
  unfold trimE
  rw [e]
  rfl
theorem wordF_len (s : ByteArray) : (wordF s).length ≤ 1 := by unfold wordF; split <;> simp
theorem form_reps {w : World} {v : Value} {xs : List Rep} {bs : List Nat} (h : OReps w v xs bs) : ∃ a c, v = .slice a xs.length c := by
  obtain ⟨a, c, e, _⟩ := (OAt.toAt toAt_rep h (lo := 0) (fun _ _ => Nat.zero_le _)).form
  exact ⟨a, c, e⟩
theorem form_strs {w : World} {v : Value} {xs : List ByteArray} {bs : List Nat} (h : OStrs w v xs bs) : ∃ a c, v = .slice a xs.length c := by
  obtain ⟨a, c, e, _⟩ := (OAt.toAt toAt_str h (lo := 0) (fun _ _ => Nat.zero_le _)).form
  exact ⟨a, c, e⟩
theorem form_fields {w : World} {v : Value} {xs : List Field} {bs : List Nat} (h : OFields w v xs bs) : ∃ a c, v = .slice a xs.length c := by
  obtain ⟨a, c, e, _⟩ := (OAt.toAt toAt_field h (lo := 0) (fun _ _ => Nat.zero_le _)).form
  exact ⟨a, c, e⟩

theorem headParts (kr : Rep) (ctl : ByteArray) {base : Nat} {W w2 w3 w4 : World} {a6 a7 a9 : Option Addr} {c6 c7 c9 : Nat} {bs6 bs7 bs9 : List Nat} (hbase : base ≤ W.heap.size) (hb2 : Below W.heap.size W w2) (hO6 : OReps w2 (.slice a6 1 c6) [kr] bs6) (hn6 : bs6.Nodup) (hf6 : ∀ b ∈ bs6, base ≤ b ∧ b < w2.heap.size)
    (hb3 : Below w2.heap.size w2 w3) (hO7 : OReps w3 (.slice a7 (wordF ctl).length c7) (wordF ctl) bs7) (hn7 : bs7.Nodup) (hf7 : ∀ b ∈ bs7, w2.heap.size ≤ b) (hb4 : Below w3.heap.size w3 w4) (hO9 : OReps w4 (.slice a9 (wordF v251).length c9) (wordF v251) bs9) (hn9 : bs9.Nodup) (hf9 : ∀ b ∈ bs9, w3.heap.size ≤ b) :
    Parts OReps base w4 [.slice none 0 0, .slice none 0 0, .slice none 0 0, .slice none 0 0, .slice none 0 0, .slice none 0 0, .slice a6 1 c6, .slice a7 (wordF ctl).length c7, .slice none 0 0, .slice a9 (wordF v251).length c9] (headF kr ctl) [[], [], [], [], [], [], bs6, bs7, [], bs9] := by
  have s2 := hb2.size
  have s3 := hb3.size
  have p0 := Parts.nil OReps base W
  have p1 := Parts.push0 keep_reps p0 hbase (o_nil W none 0)
  have p2 := Parts.push0 keep_reps p1 hbase (o_nil W none 0)
  have p3 := Parts.push0 keep_reps p2 hbase (o_nil W none 0)
  have p4 := Parts.push0 keep_reps p3 hbase (o_nil W none 0)
  have p5 := Parts.push0 keep_reps p4 hbase (o_nil W none 0)
  have p6 := Parts.push0 keep_reps p5 hbase (o_nil W none 0)
  have p7 := Parts.pushAny keep_reps p6 hb2 hO6 hn6 (fun b h => ⟨(hf6 b h).1, (hf6 b h).2, by simp⟩)
  have p8 := Parts.push keep_reps p7 (by omega) hb3 hO7 hn7 (fun b h => ⟨hf7 b h, OAt.lt ltO_rep hO7 b h⟩)
  have p9 := Parts.push0 keep_reps p8 (by omega) (o_nil w3 none 0)
  exact Parts.push keep_reps p9 (by omega) hb4 hO9 hn9 (fun b h => ⟨hf9 b h, OAt.lt ltO_rep hO9 b h⟩)
theorem headF_sz (kr : Rep) (ctl : ByteArray) : ∀ x ∈ headF kr ctl, x.length ≤ 1048576 := by
  intro x hx
  have h1 := wordF_len ctl
  have h2 := wordF_len v251
  simp only [headF, List.mem_cons, List.not_mem_nil, or_false] at hx
  rcases hx with rfl | rfl | rfl | rfl | rfl | rfl | rfl | rfl | rfl | rfl <;> first | (simp; done) | omega

set_option maxRecDepth 100000 in
set_option maxHeartbeats 4000000 in
theorem newHeader_any (kr : Rep) (ctl : ByteArray) (k : Value) (bk : List Nat) (base : Nat) (w : World) (hk : OStrs w k kr bk) (hkn : 0 < kr.length) (hkl : kr.length ≤ 20) (hnd : bk.Nodup) (hb : ∀ b ∈ bk, base ≤ b ∧ b < w.heap.size) (hbase : base ≤ w.heap.size) (hctl : ctl.size ≤ 1048576) :
    Calls Tryz.prog 148 #[.agg #[k], .string ctl] w fun e w' => ∃ u, e = .returned (.agg #[.string ⟨#[77, 83, 72]⟩, u]) ∧ ∃ bs, OFields w' u (headF kr ctl) bs ∧ bs.Nodup ∧ (∀ b ∈ bs, base ≤ b ∧ b < w'.heap.size ∧ (w.heap.size ≤ b ∨ b ∈ bk)) ∧ Below w.heap.size w w' := by
  obtain ⟨ak, ck, rfl⟩ := form_strs hk
  obtain ⟨w1, hw1⟩ : ∃ w1, ((w.alloc (Obj.cells #[.slice ak kr.length ck] 62)).alloc (Obj.cells #[.string ⟨#[]⟩, .slice none 0 0] 45)).alloc (Obj.cells #[.slice none 0 0] 60) = w1 := ⟨_, rfl⟩
  have hb01 := (Below.refl w.heap.size w).alloc (Nat.le_refl _) (Obj.cells #[.slice ak kr.length ck] 62)
  have hb02 := hb01.alloc hb01.size (Obj.cells #[.string ⟨#[]⟩, .slice none 0 0] 45)
  have hb1 := hb02.alloc hb02.size (Obj.cells #[.slice none 0 0] 60)
  obtain ⟨x1, hx1⟩ : ∃ x1, w.alloc (Obj.cells #[.slice ak kr.length ck] 62) = x1 := ⟨_, rfl⟩
  obtain ⟨x2, hx2⟩ : ∃ x2, x1.alloc (Obj.cells #[.string ⟨#[]⟩, .slice none 0 0] 45) = x2 := ⟨_, rfl⟩
  have sx1 : x1.heap.size = w.heap.size + 1 := by rw [← hx1]; simp
  have sx2 : x2.heap.size = w.heap.size + 1 + 1 := by rw [← hx2]; simp [sx1]
  have hw1' : x2.alloc (Obj.cells #[.slice none 0 0] 60) = w1 := by rw [← hx2, ← hx1]; exact hw1
  have sw1 : w1.heap.size = w.heap.size + 1 + 1 + 1 := by rw [← hw1']; simp [sx2]
  have bx12 : Below x1.heap.size x1 x2 := by rw [← hx2]; exact (Below.refl _ _).alloc (Nat.le_refl _) _
  have bx2w : Below x2.heap.size x2 w1 := by rw [← hw1']; exact (Below.refl _ _).alloc (Nat.le_refl _) _
  have bx1w := bjoin' bx2w bx12
  have c0 : w1.cell? ⟨w.heap.size, 0, none⟩ = some (.slice ak kr.length ck) := (bx1w.cell (p := ⟨w.heap.size, 0, none⟩) (by rw [sx1]; simp)).trans (by rw [← hx1]; simp)
  have c1 : w1.cell? ⟨w.heap.size + 1, 0, none⟩ = some (.string ⟨#[]⟩) := (bx2w.cell (p := ⟨w.heap.size + 1, 0, none⟩) (by rw [sx2]; simp)).trans (by rw [← hx2, ← sx1]; simp)
  have c2 : w1.cell? ⟨w.heap.size + 1, 1, none⟩ = some (.slice none 0 0) := (bx2w.cell (p := ⟨w.heap.size + 1, 1, none⟩) (by rw [sx2]; simp)).trans (by rw [← hx2, ← sx1]; simp)
  have f1 : ∀ i, w1.frozen? ⟨w.heap.size + 1, i, none⟩ = false := fun i => (bx2w.frozen (p := ⟨w.heap.size + 1, i, none⟩) (by rw [sx2]; simp)).trans (by rw [← hx2, ← sx1]; simp)
  have c3 : w1.cell? ⟨w.heap.size + 1 + 1, 0, none⟩ = some (.slice none 0 0) := by rw [← hw1', ← sx2]; simp
  rw [hw1] at hb1
  have HB1 := hide hb1
  have HK := hide (OAt.kept keptO_str hk hb1.size fun d hd => hb1.block d (hb d hd).2)
  have HBK : Hid (∀ b ∈ bk, base ≤ b ∧ b < w1.heap.size) := fun b h => ⟨(hb b h).1, Nat.lt_of_lt_of_le (hb b h).2 hb1.size⟩
  have HND := hide hnd
  have HBW : Hid (∀ b ∈ bk, b < w.heap.size) := fun b h => (hb b h).2
  have hbase1 : base ≤ w1.heap.size := by omega
  have KEEP : Hid (∀ X, Below w1.heap.size w1 X → X.cell? ⟨w.heap.size, 0, none⟩ = some (.slice ak kr.length ck) ∧ X.cell? ⟨w.heap.size + 1 + 1, 0, none⟩ = some (.slice none 0 0) ∧ Below w.heap.size w X) := fun X h =>
    ⟨(h.cell (p := ⟨w.heap.size, 0, none⟩) (by rw [sw1]; dsimp only; omega)).trans c0, (h.cell (p := ⟨w.heap.size + 1 + 1, 0, none⟩) (by rw [sw1]; dsimp only; omega)).trans c3, bjoin' h HB1.out⟩
  have n1 : (⟨w.heap.size + 1, 0, none⟩ : Addr).block ≠ w.heap.size := by dsimp only; omega
  have n2 : (⟨w.heap.size + 1, 0, none⟩ : Addr).block ≠ w.heap.size + 1 + 1 := by dsimp only; omega
  have HST : Hid (∀ X, Below w1.heap.size w1 X → ∀ x y, ((X.setCell ⟨w.heap.size + 1, 0, none⟩ x).setCell ⟨w.heap.size + 1, 1, none⟩ y).cell? ⟨w.heap.size, 0, none⟩ = some (.slice ak kr.length ck) ∧ ((X.setCell ⟨w.heap.size + 1, 0, none⟩ x).setCell ⟨w.heap.size + 1, 1, none⟩ y).cell? ⟨w.heap.size + 1 + 1, 0, none⟩ = some (.slice none 0 0) ∧ Below w.heap.size w ((X.setCell ⟨w.heap.size + 1, 0, none⟩ x).setCell ⟨w.heap.size + 1, 1, none⟩ y)) := fun X h x y => by
    obtain ⟨g1, g2, g3⟩ := KEEP.out X h
    exact ⟨(World.cell?_setCell_far _ ⟨w.heap.size + 1, 1, none⟩ ⟨w.heap.size, 0, none⟩ _ n1).trans ((World.cell?_setCell_far _ ⟨w.heap.size + 1, 0, none⟩ ⟨w.heap.size, 0, none⟩ _ n1).trans g1),
      (World.cell?_setCell_far _ ⟨w.heap.size + 1, 1, none⟩ ⟨w.heap.size + 1 + 1, 0, none⟩ _ n2).trans ((World.cell?_setCell_far _ ⟨w.heap.size + 1, 0, none⟩ ⟨w.heap.size + 1 + 1, 0, none⟩ _ n2).trans g2),
      (g3.setCell (p := ⟨w.heap.size + 1, 0, none⟩) (Nat.le_succ _) x).setCell (p := ⟨w.heap.size + 1, 1, none⟩) (Nat.le_succ _) y⟩
  have KRES : Hid (∀ X, Below w1.heap.size w1 X → X.cell? ⟨w.heap.size + 1, 0, none⟩ = some (.string ⟨#[]⟩) ∧ X.cell? ⟨w.heap.size + 1, 1, none⟩ = some (.slice none 0 0) ∧ (∀ i, X.frozen? ⟨w.heap.size + 1, i, none⟩ = false) ∧ w.heap.size + 1 < X.heap.size) := fun X h =>
    ⟨(h.cell (p := ⟨w.heap.size + 1, 0, none⟩) (by rw [sw1]; dsimp only; omega)).trans c1, (h.cell (p := ⟨w.heap.size + 1, 1, none⟩) (by rw [sw1]; dsimp only; omega)).trans c2, fun i => (h.frozen (p := ⟨w.heap.size + 1, i, none⟩) (by rw [sw1]; dsimp only; omega)).trans (f1 i), by have := h.size; omega⟩
  obtain ⟨wd, hwd⟩ : ∃ wd, w1.drew = wd := ⟨_, rfl⟩
  have hbd : Below w1.heap.size w1 wd := by rw [← hwd]; exact (Below.refl _ _).drew
  have sd : wd.heap.size = w1.heap.size := by rw [← hwd]; rfl
  have HF := hide (newField1 kr _ bk base wd (OAt.kept keptO_str HK.out hbd.size fun d hd => hbd.block d (HBK.out d hd).2) hkn (by omega) HND.out (fun b h => ⟨(HBK.out b h).1, by rw [sd]; exact (HBK.out b h).2⟩) (by rw [sd]; exact hbase1))
  have HW1 := hide hw1
  have HWD := hide hwd
  have HSW := hide sw1
  have HSD := hide sd
  clear hw1 hwd sw1 sd
  clear hb01 hb02 hb1 hx1 hx2 sx1 sx2 hw1' bx12 bx2w bx1w c0 c1 c2 c3 f1 hk hnd hb
  go_enter Tryz.func148, Tryz.ntmps148
  go_wp2_with fail
  rw [HW1.out]
  have hbd0 := (Below.refl w1.heap.size w1).drew
  have hwd := HWD.out
  go_region_held3 (fun X => X.cell? ⟨w.heap.size, 0, none⟩ = some (.slice ak kr.length ck) ∧ X.cell? ⟨w.heap.size + 1 + 1, 0, none⟩ = some (.slice none 0 0) ∧ Below w.heap.size w X)
    (first | with_reducible exact KEEP.out _ hbd0 | with_reducible exact KEEP.out _ hbd | with_reducible exact KEEP.out _ (hbd.alloc hbd.size _) | with_reducible exact KEEP.out _ hbA | with_reducible exact KEEP.out _ hbB | with_reducible exact KEEP.out _ hbC | with_reducible exact KEEP.out _ (hbC.alloc hbC.size _) | with_reducible exact KEEP.out _ hbD | with_reducible exact HST.out _ hbD _ _)
    (first
      | (go_at_call 154; refine HF.out.mono ?_; rintro e w2 ⟨u6, rfl, bs6, hO6, hn6, hf6, hb2⟩; obtain ⟨a6, c6, rfl⟩ := form_reps hO6; have hbA := bjoin hb2 hbd)
      | (go_at_call 151; refine (newWord_any _ w3 (by decide)).mono ?_; rintro e w4 ⟨u9, rfl, bs9, hO9, hn9, hf9, hb4⟩; obtain ⟨a9, c9, rfl⟩ := form_reps hO9; have hbC := bjoin hb4 hbB)
      | (go_at_call 151; refine (newWord_any ctl w2 hctl).mono ?_; rintro e w3 ⟨u7, rfl, bs7, hO7, hn7, hf7, hb3⟩; obtain ⟨a7, c7, rfl⟩ := form_reps hO7; have hbB := bjoin hb3 hbA)
      | (go_at_call 150; refine (newSegO _ [.slice none 0 0, .slice none 0 0, .slice none 0 0, .slice none 0 0, .slice none 0 0, .slice none 0 0, .slice a6 1 c6, .slice a7 (wordF ctl).length c7, .slice none 0 0, .slice a9 (wordF v251).length c9] (headF kr ctl) [[], [], [], [], [], [], bs6, bs7, [], bs9] base w4 (by have h1 := hbC.size; omega) (headParts kr ctl (W := wd) (by rw [HSD.out]; exact hbase1) hb2 hO6 hn6 (fun b h => ⟨(hf6 b h).1, (hf6 b h).2.1⟩) hb3 hO7 hn7 hf7 hb4 hO9 hn9 hf9) (by simp) (by simp) (headF_sz kr ctl) 10 rfl).mono ?_; rintro e w5 ⟨u, rfl, bs, hO, hn, hf, hb5⟩; rw [headF_trim] at hO; obtain ⟨a, c, rfl⟩ := form_fields hO; have hbD := bjoin hb5 hbC; obtain ⟨r0, r1, rf, rl⟩ := KRES.out _ hbD))
  have hs1 := HB1.out.size
  have hsA := hbA.size
  have hsB := hbB.size
  have hsC := hbC.size
  have hsw := HSW.out
  have hsd := HSD.out
  have HOLD : Hid (∀ b ∈ bs, w.heap.size + 1 < b ∨ b ∈ bk) := fun b hb' => by
    rcases (hf b hb').2.2 with h | h
    · exact .inl (by omega)
    · simp only [List.flatten_cons, List.flatten_nil, List.nil_append, List.append_nil, List.mem_append] at h
      rcases h with h | h | h
      · rcases (hf6 b h).2.2 with h' | h'
        · exact .inl (by omega)
        · exact .inr h'
      · exact .inl (by have := hf7 b h; omega)
      · exact .inl (by have := hf9 b h; omega)
  have HNE : Hid (∀ b ∈ bs, b ≠ w.heap.size + 1) := fun b hb' => by
    rcases HOLD.out b hb' with h | h
    · omega
    · have := HBW.out b h; omega
  have HOF : Hid (∀ x y, OFields ((w5.setCell ⟨w.heap.size + 1, 0, none⟩ x).setCell ⟨w.heap.size + 1, 1, none⟩ y) (.slice a (headF kr ctl).length c) (headF kr ctl) bs) := fun x y =>
    OAt.kept keptO_field hO (by rw [Deep.nblk_setCell, Deep.nblk_setCell]; exact Nat.le_refl _) fun d hd => (Deep.blk_setCell_other _ ⟨w.heap.size + 1, 1, none⟩ _ d (HNE.out d hd)).trans (Deep.blk_setCell_other _ ⟨w.heap.size + 1, 0, none⟩ _ d (HNE.out d hd))
  have HLT : Hid (∀ x y, ∀ b ∈ bs, base ≤ b ∧ b < ((w5.setCell ⟨w.heap.size + 1, 0, none⟩ x).setCell ⟨w.heap.size + 1, 1, none⟩ y).heap.size ∧ (w.heap.size ≤ b ∨ b ∈ bk)) := fun x y b hb' => ⟨(hf b hb').1, by rw [Deep.nblk_setCell, Deep.nblk_setCell]; exact (hf b hb').2.1, by
    rcases HOLD.out b hb' with h | h
    · exact .inl (by omega)
    · exact .inr h⟩
  have HBF : Hid (∀ x y, Below w.heap.size w ((w5.setCell ⟨w.heap.size + 1, 0, none⟩ x).setCell ⟨w.heap.size + 1, 1, none⟩ y)) := fun x y => (HST.out _ hbD x y).2.2
  have HN := hide hn
  clear hsw hsd
  go_wp2_with fail
  exact bodyPost_ret (v := .agg #[.string ⟨#[77, 83, 72]⟩, .slice a (headF kr ctl).length c]) (by simp [results, Tryz.results148, go_sem, r0, r1, rl]) rfl ⟨_, rfl, bs, HOF.out _ _, HN.out, HLT.out _ _, HBF.out _ _⟩
end Go.Proofs.YtfcmhnfdbobnlaaGreatDoor.Msg

namespace Go.Proofs.YtfcmhnfdbobnlaaGreatDoor.Msg
open Go.ChangeShapes Go.WideShapes Go.ChangeAt Go.RowKit
set_option linter.unusedVariables false
set_option linter.unusedSimpArgs false

/-- a repetition of two components that are not empty -/
theorem newRep2 (s1 s2 : ByteArray) (w : World) (h1 : s1.size ≤ 1048576) (h2 : s2.size ≤ 1048576) (h20 : s2.size ≠ 0) :
    Calls Tryz.prog 149 #[.slice (some ⟨w.heap.size, 0, none⟩) 2 2] (w.alloc (.cells #[.string s1, .string s2] 9)) fun e w' => ∃ u, e = .returned (.agg #[u]) ∧ ∃ bs, OStrs w' u [s1, s2] bs ∧ bs.Nodup ∧ (∀ b ∈ bs, w.heap.size ≤ b ∧ b < w'.heap.size) ∧ Below w.heap.size w w' := by
  have hb1 := (Below.refl w.heap.size w).alloc (Nat.le_refl _) (.cells #[.string s1, .string s2] 9)
  have hsb : SBuf w.heap.size (w.alloc (.cells #[.string s1, .string s2] 9)) (.slice (some ⟨w.heap.size, 0, none⟩) 2 2) ([s1.data.toList, s2.data.toList].map txt) := by
    unfold SBuf
    have h := World.ownsRow_lit (base := w.heap.size) (e := 9) (size := 1) w #[.string s1, .string s2] 2 (Nat.le_refl _) (by unfold maxLen; omega) rfl
    simpa [txt_of] using h
  refine (newRep_any [s1.data.toList, s2.data.toList] _ _ _ hsb (by simp) (by simp) (by intro p hp; simp at hp; rcases hp with rfl | rfl <;> simp <;> assumption)).mono ?_
  rintro e w' ⟨u, rfl, hu, hb⟩
  have e2 : keepN List.isEmpty [s1.data.toList, s2.data.toList] = 2 := by
    unfold keepN
    unfold keepN
    rw [show keepN List.isEmpty ([] : List (List UInt8)) = 0 from rfl]
    simp only
    rw [isE (s := s2), decide_eq_false h20]
    rfl
  have hT : trimE List.isEmpty [s1.data.toList, s2.data.toList] = [s1.data.toList, s2.data.toList] := by unfold trimE; rw [e2]; rfl
  rw [hT] at hu
  have hu' : w'.ownsRow (w.alloc (.cells #[.string s1, .string s2] 9)).heap.size 9 1 u [Value.string s1, .string s2].length [.string s1, .string s2] := by
    unfold SBuf at hu
    simpa [txt_of] using hu
  obtain ⟨h, _⟩ | ⟨g, cap, rfl, hg, hlt, hc⟩ := own_cells hu'
  · cases h
  have hg' : w.heap.size + 1 ≤ g := by simpa using hg
  refine ⟨_, rfl, [g], ⟨by simp, .inr ⟨g, 0, cap, [[], []], rfl, hlt, rfl, rfl, fun i hi hi2 => ?_⟩⟩, by simp, ?_, bjoin' hb hb1⟩
  · have hc' := hc i hi
    have hi' : i < 2 := hi
    match i, hi' with
    | 0, _ => exact ⟨hc'.1, hc'.2, by show s1.size ≤ _; omega, rfl⟩
    | 1, _ => exact ⟨hc'.1, hc'.2, by show s2.size ≤ _; omega, rfl⟩
  · intro b hb'
    simp at hb'
    subst hb'
    exact ⟨by omega, hlt⟩

/-- a list of segments out of what newSegment gave -/
theorem segsO (segs : List Seg) (us : List Value) (bss : List (List Nat)) (base : Nat) (w : World) (hP : Parts OFields base w us (segs.map Seg.fields) bss) (hn : ∀ x ∈ segs, x.name.size ≤ 9223372036854775807) (hl : segs.length ≤ 9223372036854775807) (hp : 0 < segs.length) :
    OSegs (w.alloc (.cells (segCells segs us).toArray 45)) (.slice (some ⟨w.heap.size, 0, none⟩) segs.length segs.length) segs (w.heap.size :: bss.flatten) ∧ (w.heap.size :: bss.flatten).Nodup ∧ (∀ b ∈ bss.flatten, base ≤ b ∧ b < w.heap.size) := by
  obtain ⟨h1, h2, h3, h4⟩ := hP
  rw [List.length_map] at h1 h2
  have hb1 := (Below.refl w.heap.size w).alloc (Nat.le_refl _) (.cells (segCells segs us).toArray 45)
  have hin : ∀ b ∈ bss.flatten, base ≤ b ∧ b < w.heap.size := fun b hb' => by
    rw [List.mem_flatten] at hb'
    obtain ⟨l, hl', ha⟩ := hb'
    obtain ⟨i, hi, rfl⟩ := List.getElem_of_mem hl'
    exact (h4 i (by rw [List.length_map]; omega) (by omega) hi).2 b ha
  refine ⟨⟨hl, .inr ⟨w.heap.size, 0, segs.length, bss, rfl, by simp, rfl, h2, fun i hi hi2 => ?_⟩⟩, ?_, hin⟩
  · have hc := segCells_at segs us i h1 hi
    obtain ⟨k1, k2⟩ := h4 i (by rw [List.length_map]; exact hi) (by omega) hi2
    rw [List.getElem_map] at k1
    refine ⟨?_, ?_, hn _ (List.getElem_mem _), us[i]'(by omega), ?_, OAt.kept keptO_field k1 hb1.size fun d hd => hb1.block d (k2 d hd).2⟩
    · rw [World.cell?_alloc_new]; simpa using hc.1
    · exact World.frozen?_alloc_new _ _ _ _
    · rw [World.cell?_alloc_new]; simpa using hc.2
  · rw [List.nodup_cons]
    exact ⟨fun hm => by have := (hin _ hm).2; omega, h3⟩
end Go.Proofs.YtfcmhnfdbobnlaaGreatDoor.Msg

namespace Go.Proofs.YtfcmhnfdbobnlaaGreatDoor.Msg
open Go.ChangeShapes Go.WideShapes Go.ChangeAt Go.RowKit
set_option linter.unusedVariables false
set_option linter.unusedSimpArgs false

def cancelM (control tag : ByteArray) : List Seg := [⟨⟨#[77, 83, 72]⟩, headF [⟨#[81, 67, 78]⟩, ⟨#[74, 48, 49]⟩] control⟩, ⟨⟨#[81, 73, 68]⟩, trimE List.isEmpty [wordF tag]⟩]
/-- what a letter writes -/
def MsgPost (w : World) (xs : List Seg) (e : Ending) (w' : World) : Prop := ∃ u, e = .returned (.agg #[u]) ∧ ∃ bs, OSegs w' u xs bs ∧ bs.Nodup ∧ (∀ b ∈ bs, w.heap.size ≤ b) ∧ Below w.heap.size w w'
theorem one_field (w0 w1 : World) (s : ByteArray) (u : Value) (bs : List Nat) (base : Nat) (hbase : base ≤ w0.heap.size) (hb : Below w0.heap.size w0 w1) (hO : OReps w1 u (wordF s) bs) (hn : bs.Nodup) (hf : ∀ b ∈ bs, w0.heap.size ≤ b) : Parts OReps base w1 [u] [wordF s] [bs] :=
  Parts.push keep_reps (Parts.nil OReps base w0) hbase hb hO hn fun b h => ⟨hf b h, OAt.lt ltO_rep hO b h⟩

end Go.Proofs.YtfcmhnfdbobnlaaGreatDoor.Msg
