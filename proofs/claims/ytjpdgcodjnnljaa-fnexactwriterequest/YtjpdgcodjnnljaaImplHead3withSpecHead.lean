import Derived.Test.YtjpdgcodjnnljaaImplSegCutwithImplParts
import Derived.Deep.RegionHeld3
import Derived.Test.YtjpdgcodjnnljaaQrySpecFwithSpecSeg
namespace Go.Proofs.Ytjpdgcodjnnljaa.Msg
open Go.ChangeShapes Go.WideShapes Go.ChangeAt Go.RowKit
set_option linter.unusedVariables false
set_option linter.unusedSimpArgs false

def v251 : ByteArray := ⟨#[50, 46, 53, 46, 49]⟩
/-- the fields of a header -/
def headF (kr : Rep) (ctl : ByteArray) : List Field := [[], [], [], [], [], [], [kr], wordF ctl, [], wordF v251]
theorem headF_trim (kr : Rep) (ctl : ByteArray) : trimE List.isEmpty (headF kr ctl) = headF kr ctl := by
  have e : keepN List.isEmpty (headF kr ctl) = 10 := rfl
  unfold trimE
  rw [e]
  rfl
theorem wordF_len (s : ByteArray) : (wordF s).length ≤ 1 := by unfold wordF; split <;> simp
theorem form_reps {w : World} {v : Value} {xs : List Rep} {bs : List Nat} (h : OReps w v xs bs) : ∃ a c, v = .slice a xs.length c := by
  obtain ⟨a, c, e, _⟩ := (OAt.toAt toAt_rep h (lo := 0) (fun _ _ => Nat.zero_le _)).form
  exact ⟨a, c, e⟩
theorem form_strs {w : World} {v : Value} {xs : List ByteArray} {bs : List Nat} (h : OStrs w v xs bs) : ∃ a c, v = .slice a xs.length c := by
  obtain ⟨a, c, e, _⟩ := (OAt.toAt toAt_str h (lo := 0) (fun _ _ => Nat.zero_le _)).form
  exact ⟨a, c, e⟩
theorem form_fields {w : World} {v : Value} {xs : List Field} {bs : List Nat} (h : OFields w v xs bs) : ∃ a c, v = .slice a xs.length c := by
  obtain ⟨a, c, e, _⟩ := (OAt.toAt toAt_field h (lo := 0) (fun _ _ => Nat.zero_le _)).form
  exact ⟨a, c, e⟩

theorem headParts (kr : Rep) (ctl : ByteArray) {base : Nat} {W w2 w3 w4 : World} {a6 a7 a9 : Option Addr} {c6 c7 c9 : Nat} {bs6 bs7 bs9 : List Nat} (hbase : base ≤ W.heap.size) (hb2 : Below W.heap.size W w2) (hO6 : OReps w2 (.slice a6 1 c6) [kr] bs6) (hn6 : bs6.Nodup) (hf6 : ∀ b ∈ bs6, base ≤ b ∧ b < w2.heap.size)
    (hb3 : Below w2.heap.size w2 w3) (hO7 : OReps w3 (.slice a7 (wordF ctl).length c7) (wordF ctl) bs7) (hn7 : bs7.Nodup) (hf7 : ∀ b ∈ bs7, w2.heap.size ≤ b) (hb4 : Below w3.heap.size w3 w4) (hO9 : OReps w4 (.slice a9 (wordF v251).length c9) (wordF v251) bs9) (hn9 : bs9.Nodup) (hf9 : ∀ b ∈ bs9, w3.heap.size ≤ b) :
    Parts OReps base w4 [.slice none 0 0, .slice none 0 0, .slice none 0 0, .slice none 0 0, .slice none 0 0, .slice none 0 0, .slice a6 1 c6, .slice a7 (wordF ctl).length c7, .slice none 0 0, .slice a9 (wordF v251).length c9] (headF kr ctl) [[], [], [], [], [], [], bs6, bs7, [], bs9] := by
  have s2 := hb2.size
  have s3 := hb3.size
  have p0 := Parts.nil OReps base W
  have p1 := Parts.push0 keep_reps p0 hbase (o_nil W none 0)
  have p2 := Parts.push0 keep_reps p1 hbase (o_nil W none 0)
  have p3 := Parts.push0 keep_reps p2 hbase (o_nil W none 0)
  have p4 := Parts.push0 keep_reps p3 hbase (o_nil W none 0)
  have p5 := Parts.push0 keep_reps p4 hbase (o_nil W none 0)
  have p6 := Parts.push0 keep_reps p5 hbase (o_nil W none 0)
  have p7 := Parts.pushAny keep_reps p6 hb2 hO6 hn6 (fun b h => ⟨(hf6 b h).1, (hf6 b h).2, by simp⟩)
  have p8 := Parts.push keep_reps p7 (by omega) hb3 hO7 hn7 (fun b h => ⟨hf7 b h, OAt.lt ltO_rep hO7 b h⟩)
  have p9 := Parts.push0 keep_reps p8 (by omega) (o_nil w3 none 0)
  exact Parts.push keep_reps p9 (by omega) hb4 hO9 hn9 (fun b h => ⟨hf9 b h, OAt.lt ltO_rep hO9 b h⟩)
theorem headF_sz (kr : Rep) (ctl : ByteArray) : ∀ x ∈ headF kr ctl, x.length ≤ 1048576 := by
  intro x hx
  have h1 := wordF_len ctl
  have h2 := wordF_len v251
  simp only [headF, List.mem_cons, List.not_mem_nil, or_false] at hx
  rcases hx with rfl | rfl | rfl | rfl | rfl | rfl | rfl | rfl | rfl | rfl <;> first | (simp; done) | omega

set_option maxRecDepth 100000 in
set_option maxHeartbeats 4000000 in
theorem newHeader_any (kr : Rep) (ctl : ByteArray) (k : Value) (bk : List Nat) (base : Nat) (w : World) (hk : OStrs w k kr bk) (hkn : 0 < kr.length) (hkl : kr.length ≤ 20) (hnd : bk.Nodup) (hb : ∀ b ∈ bk, base ≤ b ∧ b < w.heap.size) (hbase : base ≤ w.heap.size) (hctl : ctl.size ≤ 1048576) :
    Calls Try.prog 184 #[.agg #[k], .string ctl] w fun e w' => ∃ u, e = .returned (.agg #[.string ⟨#[77, 83, 72]⟩, u]) ∧ ∃ bs, OFields w' u (headF kr ctl) bs ∧ bs.Nodup ∧ (∀ b ∈ bs, base ≤ b ∧ b < w'.heap.size ∧ (w.heap.size ≤ b ∨ b ∈ bk)) ∧ Below w.heap.size w w' := by
  obtain ⟨ak, ck, rfl⟩ := form_strs hk
  obtain ⟨w1, hw1⟩ : ∃ w1, ((w.alloc (Obj.cells #[.slice ak kr.length ck] 116)).alloc (Obj.cells #[.string ⟨#[]⟩, .slice none 0 0] 111)).alloc (Obj.cells #[.slice none 0 0] 114) = w1 := ⟨_, rfl⟩
  have hb01 := (Below.refl w.heap.size w).alloc (Nat.le_refl _) (Obj.cells #[.slice ak kr.length ck] 116)
  have hb02 := hb01.alloc hb01.size (Obj.cells #[.string ⟨#[]⟩, .slice none 0 0] 111)
  have hb1 := hb02.alloc hb02.size (Obj.cells #[.slice none 0 0] 114)
  obtain ⟨x1, hx1⟩ : ∃ x1, w.alloc (Obj.cells #[.slice ak kr.length ck] 116) = x1 := ⟨_, rfl⟩
  obtain ⟨x2, hx2⟩ : ∃ x2, x1.alloc (Obj.cells #[.string ⟨#[]⟩, .slice none 0 0] 111) = x2 := ⟨_, rfl⟩
  have sx1 : x1.heap.size = w.heap.size + 1 := by rw [← hx1]; simp
  have sx2 : x2.heap.size = w.heap.size + 1 + 1 := by rw [← hx2]; simp [sx1]
  have hw1' : x2.alloc (Obj.cells #[.slice none 0 0] 114) = w1 := by rw [← hx2, ← hx1]; exact hw1
  have sw1 : w1.heap.size = w.heap.size + 1 + 1 + 1 := by rw [← hw1']; simp [sx2]
  have bx12 : Below x1.heap.size x1 x2 := by rw [← hx2]; exact (Below.refl _ _).alloc (Nat.le_refl _) _
  have bx2w : Below x2.heap.size x2 w1 := by rw [← hw1']; exact (Below.refl _ _).alloc (Nat.le_refl _) _
  have bx1w := bjoin' bx2w bx12
  have c0 : w1.cell? ⟨w.heap.size, 0, none⟩ = some (.slice ak kr.length ck) := (bx1w.cell (p := ⟨w.heap.size, 0, none⟩) (by rw [sx1]; simp)).trans (by rw [← hx1]; simp)
  have c1 : w1.cell? ⟨w.heap.size + 1, 0, none⟩ = some (.string ⟨#[]⟩) := (bx2w.cell (p := ⟨w.heap.size + 1, 0, none⟩) (by rw [sx2]; simp)).trans (by rw [← hx2, ← sx1]; simp)
  have c2 : w1.cell? ⟨w.heap.size + 1, 1, none⟩ = some (.slice none 0 0) := (bx2w.cell (p := ⟨w.heap.size + 1, 1, none⟩) (by rw [sx2]; simp)).trans (by rw [← hx2, ← sx1]; simp)
  have f1 : ∀ i, w1.frozen? ⟨w.heap.size + 1, i, none⟩ = false := fun i => (bx2w.frozen (p := ⟨w.heap.size + 1, i, none⟩) (by rw [sx2]; simp)).trans (by rw [← hx2, ← sx1]; simp)
  have c3 : w1.cell? ⟨w.heap.size + 1 + 1, 0, none⟩ = some (.slice none 0 0) := by rw [← hw1', ← sx2]; simp
  rw [hw1] at hb1
  have HB1 := hide hb1
  have HK := hide (OAt.kept keptO_str hk hb1.size fun d hd => hb1.block d (hb d hd).2)
  have HBK : Hid (∀ b ∈ bk, base ≤ b ∧ b < w1.heap.size) := fun b h => ⟨(hb b h).1, Nat.lt_of_lt_of_le (hb b h).2 hb1.size⟩
  have HND := hide hnd
  have HBW : Hid (∀ b ∈ bk, b < w.heap.size) := fun b h => (hb b h).2
  have hbase1 : base ≤ w1.heap.size := by omega
  have KEEP : Hid (∀ X, Below w1.heap.size w1 X → X.cell? ⟨w.heap.size, 0, none⟩ = some (.slice ak kr.length ck) ∧ X.cell? ⟨w.heap.size + 1 + 1, 0, none⟩ = some (.slice none 0 0) ∧ Below w.heap.size w X) := fun X h =>
    ⟨(h.cell (p := ⟨w.heap.size, 0, none⟩) (by rw [sw1]; dsimp only; omega)).trans c0, (h.cell (p := ⟨w.heap.size + 1 + 1, 0, none⟩) (by rw [sw1]; dsimp only; omega)).trans c3, bjoin' h HB1.out⟩
  have n1 : (⟨w.heap.size + 1, 0, none⟩ : Addr).block ≠ w.heap.size := by dsimp only; omega
  have n2 : (⟨w.heap.size + 1, 0, none⟩ : Addr).block ≠ w.heap.size + 1 + 1 := by dsimp only; omega
  have HST : Hid (∀ X, Below w1.heap.size w1 X → ∀ x y, ((X.setCell ⟨w.heap.size + 1, 0, none⟩ x).setCell ⟨w.heap.size + 1, 1, none⟩ y).cell? ⟨w.heap.size, 0, none⟩ = some (.slice ak kr.length ck) ∧ ((X.setCell ⟨w.heap.size + 1, 0, none⟩ x).setCell ⟨w.heap.size + 1, 1, none⟩ y).cell? ⟨w.heap.size + 1 + 1, 0, none⟩ = some (.slice none 0 0) ∧ Below w.heap.size w ((X.setCell ⟨w.heap.size + 1, 0, none⟩ x).setCell ⟨w.heap.size + 1, 1, none⟩ y)) := fun X h x y => by
    obtain ⟨g1, g2, g3⟩ := KEEP.out X h
    exact ⟨(World.cell?_setCell_far _ ⟨w.heap.size + 1, 1, none⟩ ⟨w.heap.size, 0, none⟩ _ n1).trans ((World.cell?_setCell_far _ ⟨w.heap.size + 1, 0, none⟩ ⟨w.heap.size, 0, none⟩ _ n1).trans g1),
      (World.cell?_setCell_far _ ⟨w.heap.size + 1, 1, none⟩ ⟨w.heap.size + 1 + 1, 0, none⟩ _ n2).trans ((World.cell?_setCell_far _ ⟨w.heap.size + 1, 0, none⟩ ⟨w.heap.size + 1 + 1, 0, none⟩ _ n2).trans g2),
      (g3.setCell (p := ⟨w.heap.size + 1, 0, none⟩) (Nat.le_succ _) x).setCell (p := ⟨w.heap.size + 1, 1, none⟩) (Nat.le_succ _) y⟩
  have KRES : Hid (∀ X, Below w1.heap.size w1 X → X.cell? ⟨w.heap.size + 1, 0, none⟩ = some (.string ⟨#[]⟩) ∧ X.cell? ⟨w.heap.size + 1, 1, none⟩ = some (.slice none 0 0) ∧ (∀ i, X.frozen? ⟨w.heap.size + 1, i, none⟩ = false) ∧ w.heap.size + 1 < X.heap.size) := fun X h =>
    ⟨(h.cell (p := ⟨w.heap.size + 1, 0, none⟩) (by rw [sw1]; dsimp only; omega)).trans c1, (h.cell (p := ⟨w.heap.size + 1, 1, none⟩) (by rw [sw1]; dsimp only; omega)).trans c2, fun i => (h.frozen (p := ⟨w.heap.size + 1, i, none⟩) (by rw [sw1]; dsimp only; omega)).trans (f1 i), by have := h.size; omega⟩
  obtain ⟨wd, hwd⟩ : ∃ wd, w1.drew = wd := ⟨_, rfl⟩
  have hbd : Below w1.heap.size w1 wd := by rw [← hwd]; exact (Below.refl _ _).drew
  have sd : wd.heap.size = w1.heap.size := by rw [← hwd]; rfl
  have HF := hide (newField1 kr _ bk base wd (OAt.kept keptO_str HK.out hbd.size fun d hd => hbd.block d (HBK.out d hd).2) hkn (by omega) HND.out (fun b h => ⟨(HBK.out b h).1, by rw [sd]; exact (HBK.out b h).2⟩) (by rw [sd]; exact hbase1))
  have HW1 := hide hw1
  have HWD := hide hwd
  have HSW := hide sw1
  have HSD := hide sd
  clear hw1 hwd sw1 sd
  clear hb01 hb02 hb1 hx1 hx2 sx1 sx2 hw1' bx12 bx2w bx1w c0 c1 c2 c3 f1 hk hnd hb
  go_enter Try.func184, Try.ntmps184
  go_wp2_with fail
  rw [HW1.out]
  have hbd0 := (Below.refl w1.heap.size w1).drew
  have hwd := HWD.out
  go_region_held3 (fun X => X.cell? ⟨w.heap.size, 0, none⟩ = some (.slice ak kr.length ck) ∧ X.cell? ⟨w.heap.size + 1 + 1, 0, none⟩ = some (.slice none 0 0) ∧ Below w.heap.size w X)
    (first | with_reducible exact KEEP.out _ hbd0 | with_reducible exact KEEP.out _ hbd | with_reducible exact KEEP.out _ (hbd.alloc hbd.size _) | with_reducible exact KEEP.out _ hbA | with_reducible exact KEEP.out _ hbB | with_reducible exact KEEP.out _ hbC | with_reducible exact KEEP.out _ (hbC.alloc hbC.size _) | with_reducible exact KEEP.out _ hbD | with_reducible exact HST.out _ hbD _ _)
    (first
      | (go_at_call 189; refine HF.out.mono ?_; rintro e w2 ⟨u6, rfl, bs6, hO6, hn6, hf6, hb2⟩; obtain ⟨a6, c6, rfl⟩ := form_reps hO6; have hbA := bjoin hb2 hbd)
      | (go_at_call 187; refine (newWord_any _ w3 (by decide)).mono ?_; rintro e w4 ⟨u9, rfl, bs9, hO9, hn9, hf9, hb4⟩; obtain ⟨a9, c9, rfl⟩ := form_reps hO9; have hbC := bjoin hb4 hbB)
      | (go_at_call 187; refine (newWord_any ctl w2 hctl).mono ?_; rintro e w3 ⟨u7, rfl, bs7, hO7, hn7, hf7, hb3⟩; obtain ⟨a7, c7, rfl⟩ := form_reps hO7; have hbB := bjoin hb3 hbA)
      | (go_at_call 186; refine (newSegO _ [.slice none 0 0, .slice none 0 0, .slice none 0 0, .slice none 0 0, .slice none 0 0, .slice none 0 0, .slice a6 1 c6, .slice a7 (wordF ctl).length c7, .slice none 0 0, .slice a9 (wordF v251).length c9] (headF kr ctl) [[], [], [], [], [], [], bs6, bs7, [], bs9] base w4 (by have h1 := hbC.size; omega) (headParts kr ctl (W := wd) (by rw [HSD.out]; exact hbase1) hb2 hO6 hn6 (fun b h => ⟨(hf6 b h).1, (hf6 b h).2.1⟩) hb3 hO7 hn7 hf7 hb4 hO9 hn9 hf9) (by simp) (by simp) (headF_sz kr ctl) 10 rfl).mono ?_; rintro e w5 ⟨u, rfl, bs, hO, hn, hf, hb5⟩; rw [headF_trim] at hO; obtain ⟨a, c, rfl⟩ := form_fields hO; have hbD := bjoin hb5 hbC; obtain ⟨r0, r1, rf, rl⟩ := KRES.out _ hbD))
  have hs1 := HB1.out.size
  have hsA := hbA.size
  have hsB := hbB.size
  have hsC := hbC.size
  have hsw := HSW.out
  have hsd := HSD.out
  have HOLD : Hid (∀ b ∈ bs, w.heap.size + 1 < b ∨ b ∈ bk) := fun b hb' => by
    rcases (hf b hb').2.2 with h | h
    · exact .inl (by omega)
    · simp only [List.flatten_cons, List.flatten_nil, List.nil_append, List.append_nil, List.mem_append] at h
      rcases h with h | h | h
      · rcases (hf6 b h).2.2 with h' | h'
        · exact .inl (by omega)
        · exact .inr h'
      · exact .inl (by have := hf7 b h; omega)
      · exact .inl (by have := hf9 b h; omega)
  have HNE : Hid (∀ b ∈ bs, b ≠ w.heap.size + 1) := fun b hb' => by
    rcases HOLD.out b hb' with h | h
    · omega
    · have := HBW.out b h; omega
  have HOF : Hid (∀ x y, OFields ((w5.setCell ⟨w.heap.size + 1, 0, none⟩ x).setCell ⟨w.heap.size + 1, 1, none⟩ y) (.slice a (headF kr ctl).length c) (headF kr ctl) bs) := fun x y =>
    OAt.kept keptO_field hO (by rw [Deep.nblk_setCell, Deep.nblk_setCell]; exact Nat.le_refl _) fun d hd => (Deep.blk_setCell_other _ ⟨w.heap.size + 1, 1, none⟩ _ d (HNE.out d hd)).trans (Deep.blk_setCell_other _ ⟨w.heap.size + 1, 0, none⟩ _ d (HNE.out d hd))
  have HLT : Hid (∀ x y, ∀ b ∈ bs, base ≤ b ∧ b < ((w5.setCell ⟨w.heap.size + 1, 0, none⟩ x).setCell ⟨w.heap.size + 1, 1, none⟩ y).heap.size ∧ (w.heap.size ≤ b ∨ b ∈ bk)) := fun x y b hb' => ⟨(hf b hb').1, by rw [Deep.nblk_setCell, Deep.nblk_setCell]; exact (hf b hb').2.1, by
    rcases HOLD.out b hb' with h | h
    · exact .inl (by omega)
    · exact .inr h⟩
  have HBF : Hid (∀ x y, Below w.heap.size w ((w5.setCell ⟨w.heap.size + 1, 0, none⟩ x).setCell ⟨w.heap.size + 1, 1, none⟩ y)) := fun x y => (HST.out _ hbD x y).2.2
  have HN := hide hn
  clear hsw hsd
  go_wp2_with fail
  exact bodyPost_ret (v := .agg #[.string ⟨#[77, 83, 72]⟩, .slice a (headF kr ctl).length c]) (by simp [results, Try.results184, go_sem, r0, r1, rl]) rfl ⟨_, rfl, bs, HOF.out _ _, HN.out, HLT.out _ _, HBF.out _ _⟩
end Go.Proofs.Ytjpdgcodjnnljaa.Msg

namespace Go.Proofs.Ytjpdgcodjnnljaa.Msg
open Go.ChangeShapes Go.WideShapes Go.ChangeAt Go.RowKit
set_option linter.unusedVariables false
set_option linter.unusedSimpArgs false

theorem trimR_word (s : ByteArray) : trimR (wordF s) = wordF s := by
  unfold wordF
  split
  · rfl
  · rename_i h
    have e : emptyB s = false := by unfold emptyB; rw [beq_eq_false_iff_ne]; exact h
    have e1 : trimC [s] = [s] := by unfold trimC trimE; simp [keepN, e]
    unfold trimR
    simp only [List.map_cons, List.map_nil, e1]
    rfl
theorem trimF_words (texts : List ByteArray) : trimF (texts.map wordF) = trimE List.isEmpty (texts.map wordF) := by
  unfold trimF
  rw [List.map_map]
  congr 1
  apply List.map_congr_left
  intro s _
  exact trimR_word s
/-- a list that was built for reading, read -/
theorem RBuf.fields {P : Nat → Prop} {base : Nat} {w : World} {v : Value} {xs : List Field} (h : RBuf OReps P 114 base w v xs) (hP : ∀ b, P b → base ≤ b) (hl : xs.length ≤ 9223372036854775807) : FieldsAt base w v xs := by
  obtain ⟨a, cap, rfl, _, _, _, bs, hO, hb⟩ := RBuf.first (R := FieldO) (fun w b off x bs v h1 h2 => ⟨v, h1, h2⟩) h hl (n := xs.length) (Nat.le_refl _)
  rw [List.take_length] at hO
  exact OAt.toAt toAt_field hO fun c hc => by
    rcases (hb c hc).2 with h | h
    · exact hP c h
    · exact h
/-- its row -/
theorem RBuf.row {P : Nat → Prop} {base : Nat} {w : World} {v : Value} {xs : List Field} (h : RBuf OReps P 114 base w v xs) (hP : ∀ b, P b → base ≤ b) (h0 : 0 < xs.length) :
    ∃ g cap, v = .slice (some ⟨g, 0, none⟩) xs.length cap ∧ base ≤ g ∧ g < w.heap.size ∧ (∀ i, w.frozen? ⟨g, i, none⟩ = false) ∧ ∀ i (hi : i < xs.length), ∃ u bs, w.cell? ⟨g, i, none⟩ = some u ∧ OReps w u xs[i] bs ∧ ∀ b ∈ bs, base ≤ b ∧ b < w.heap.size ∧ b ≠ g := by
  obtain ⟨vs, bss, h1, h2, ⟨hlen, hown⟩, h5⟩ := h
  rcases hown with ⟨rfl, e⟩ | ⟨g, cap, cur, rfl, hg, hs, hcap, hm, hsz, ht⟩
  · omega
  · have hgl : g < w.heap.size := by rw [Array.getElem?_eq_some_iff] at hs; exact hs.1
    refine ⟨g, cap, rfl, hg, hgl, fun i => by simp [World.frozen?, hs], fun i hi => ⟨vs[i]'(by omega), bss[i]'(by omega), ?_, (h5 i hi (by omega) (by omega)).1, fun b hb => ?_⟩⟩
    · obtain ⟨ve, hve⟩ : ∃ ve, vs[i]'(by omega) = ve := ⟨_, rfl⟩
      have e1 : vs[i]? = some ve := by rw [← hve]; exact List.getElem?_eq_getElem (by omega)
      rw [hve]
      rw [← ht, List.getElem?_take, if_pos (by omega)] at e1
      simp only [World.cell?, hs]
      rw [← Array.getElem?_toList, e1]
      rfl
    · have k := (h5 i hi (by omega) (by omega)).2 b hb
      exact ⟨hP b k.1, k.2.1, fun e => k.2.2 (by simp [Value.ownBlock, e])⟩
def headT (a control : ByteArray) : List ByteArray := [⟨#[]⟩, ⟨#[]⟩, ⟨#[]⟩, ⟨#[]⟩, ⟨#[]⟩, ⟨#[]⟩, a, control, ⟨#[]⟩, v251]
theorem headT_trim (a control : ByteArray) : trimF ((headT a control).map wordF) = [[], [], [], [], [], [], wordF a, wordF control, [], wordF v251] := by
  rw [trimF_words]
  rfl
theorem words_at (w : World) (ts : List ByteArray) (hz : ∀ t ∈ ts, t.size ≤ 9223372036854775807) (hl : ts.length ≤ 9223372036854775807) :
    StrsAt 0 (w.alloc (.cells (ts.map Value.string).toArray 9)) (.slice (some ⟨w.heap.size, 0, none⟩) ts.length ts.length) ts :=
  ⟨hl, .inr ⟨w.heap.size, 0, ts.length, rfl, ⟨Nat.zero_le _, by simp⟩, fun i hi => ⟨by simp [hi], hz _ (List.getElem_mem hi)⟩⟩⟩

set_option maxRecDepth 100000 in
set_option maxHeartbeats 2000000 in
theorem headS_any (a b control : ByteArray) (w : World) (ha : a.size ≤ 1048576) (hb : b.size ≤ 1048576) (hc : control.size ≤ 1048576) :
    Calls Try.prog 80 #[.string a, .string b, .string control] w fun e w' => ∃ u, e = .returned (.agg #[.string ⟨#[77, 83, 72]⟩, u]) ∧ FieldsAt (w.heap.size + 1) w' u (headF [a, b] control) ∧ Below w.heap.size w w' := by
  have hz : ∀ t ∈ headT a control, t.size ≤ 1048576 := by
    intro t ht
    simp only [headT, List.mem_cons, List.not_mem_nil, or_false] at ht
    rcases ht with rfl | rfl | rfl | rfl | rfl | rfl | rfl | rfl | rfl | rfl <;> first | assumption | decide
  have HZ := hide hz
  clear hz
  obtain ⟨W0, hW0⟩ : ∃ W0, w.alloc (Obj.cells #[.string ⟨#[]⟩, .slice none 0 0] 111) = W0 := ⟨_, rfl⟩
  have hs0 : W0.heap.size = w.heap.size + 1 := by rw [← hW0]; simp
  have HB0 : Hid (Below w.heap.size w W0) := by rw [← hW0]; exact (Below.refl _ _).alloc (Nat.le_refl _) _
  have HR0 : Hid (W0.cell? ⟨w.heap.size, 0, none⟩ = some (.string ⟨#[]⟩) ∧ W0.cell? ⟨w.heap.size, 1, none⟩ = some (.slice none 0 0) ∧ ∀ i, W0.frozen? ⟨w.heap.size, i, none⟩ = false) := by rw [← hW0]; exact ⟨by simp, by simp, fun i => by simp⟩
  have HW : Hid (StrsAt 0 (W0.alloc (.cells #[.string ⟨#[]⟩, .string ⟨#[]⟩, .string ⟨#[]⟩, .string ⟨#[]⟩, .string ⟨#[]⟩, .string ⟨#[]⟩, .string a, .string control, .string ⟨#[]⟩, .string ⟨#[50, 46, 53, 46, 49]⟩] 9)) (.slice (some ⟨w.heap.size + 1, 0, none⟩) 10 10) (headT a control)) := by
    have := words_at W0 (headT a control) (fun t ht => Nat.le_trans (HZ.out t ht) (by omega)) (by simp [headT])
    rw [hs0] at this
    exact this
  obtain ⟨W1, hW1⟩ : ∃ W1, W0.alloc (.cells #[.string ⟨#[]⟩, .string ⟨#[]⟩, .string ⟨#[]⟩, .string ⟨#[]⟩, .string ⟨#[]⟩, .string ⟨#[]⟩, .string a, .string control, .string ⟨#[]⟩, .string ⟨#[50, 46, 53, 46, 49]⟩] 9) = W1 := ⟨_, rfl⟩
  have hs1 : W1.heap.size = w.heap.size + 1 + 1 := by rw [← hW1]; simp [hs0]
  have HB1 : Hid (Below W0.heap.size W0 W1) := by rw [← hW1]; exact (Below.refl _ _).alloc (Nat.le_refl _) _
  rw [hW1] at HW
  go_enter Try.func80, Try.ntmps80
  go_wp2_with fail
  try rw [hW0]
  try rw [hW1]
  refine (seg_any ⟨#[77, 83, 72]⟩ (headT a control) _ _ HW.out (by simp [headT]) HZ.out).mono ?_
  rintro e W2 ⟨u2, rfl, hR, hb2⟩
  rw [headT_trim] at hR
  obtain ⟨g, cap, rfl, hg, hgl, hgf, hrow⟩ := RBuf.row hR (fun b h => h) (by simp)
  rw [hs1] at hg hrow
  have hlen : ([[], [], [], [], [], [], wordF a, wordF control, [], wordF v251] : List Field).length = 10 := rfl
  rw [hlen]
  have hb12 : Below W0.heap.size W0 W2 := bjoin' hb2 HB1.out
  have c0 : W2.cell? ⟨w.heap.size, 0, none⟩ = some (.string ⟨#[]⟩) := by rw [hb12.cell (p := ⟨w.heap.size, 0, none⟩) (by simp; omega)]; exact HR0.out.1
  have c1 : W2.cell? ⟨w.heap.size, 1, none⟩ = some (.slice none 0 0) := by rw [hb12.cell (p := ⟨w.heap.size, 1, none⟩) (by simp; omega)]; exact HR0.out.2.1
  have f0 : ∀ i, W2.frozen? ⟨w.heap.size, i, none⟩ = false := fun i => by rw [hb12.frozen (p := ⟨w.heap.size, i, none⟩) (by simp; omega)]; exact HR0.out.2.2 i
  have hwb : w.heap.size < W2.heap.size := by have := hb12.size; omega
  obtain ⟨u6, bs6, c6, hO6, _⟩ := hrow 6 (by simp)
  have HROW := hide hrow
  have HB02 := hide (bjoin' hb12 HB0.out)
  have hne : w.heap.size ≠ g := by omega
  have hne2 : g ≠ W2.heap.size := by omega
  have w6f : W2.frozen? ⟨g, 6, none⟩ = false := hgf 6
  clear hrow hR hb2 hb12 hO6 HW HB1 HR0 HZ hW0 hW1
  obtain ⟨A1, hA1⟩ : ∃ A1, W2.alloc (Obj.cells #[.string ⟨#[77, 83, 72]⟩, .slice (some ⟨g, 0, none⟩) 10 cap] 111) = A1 := ⟨_, rfl⟩
  obtain ⟨A2, hA2⟩ : ∃ A2, A1.alloc (Obj.cells #[.string a, .string b] 9) = A2 := ⟨_, rfl⟩
  obtain ⟨A3, hA3⟩ : ∃ A3, A2.alloc (Obj.cells #[.slice (some ⟨W2.heap.size + 1, 0, none⟩) 2 2] 116) = A3 := ⟨_, rfl⟩
  have t1 : A1.heap.size = W2.heap.size + 1 := by rw [← hA1]; simp
  have t2 : A2.heap.size = W2.heap.size + 1 + 1 := by rw [← hA2]; simp [t1]
  have t3 : A3.heap.size = W2.heap.size + 1 + 1 + 1 := by rw [← hA3]; simp [t2]
  have q1 : Below W2.heap.size W2 A1 := by rw [← hA1]; exact (Below.refl _ _).alloc (Nat.le_refl _) _
  have q2 : Below A1.heap.size A1 A2 := by rw [← hA2]; exact (Below.refl _ _).alloc (Nat.le_refl _) _
  have q3 : Below A2.heap.size A2 A3 := by rw [← hA3]; exact (Below.refl _ _).alloc (Nat.le_refl _) _
  have q13 := bjoin' q3 q2
  have q03 := bjoin' q13 q1
  have m1 : A1.cell? ⟨W2.heap.size, 1, none⟩ = some (.slice (some ⟨g, 0, none⟩) 10 cap) := by rw [← hA1]; simp
  have g6 : A3.cell? ⟨g, 6, none⟩ = some u6 := by rw [q03.cell (p := ⟨g, 6, none⟩) hgl]; exact c6
  have g6f : A3.frozen? ⟨g, 6, none⟩ = false := by rw [q03.frozen (p := ⟨g, 6, none⟩) hgl]; exact hgf 6
  go_upto_region 3 with fail
  obtain ⟨A4, hA4⟩ : ∃ A4, A3.setCell ⟨g, 6, none⟩ (.slice (some ⟨W2.heap.size + 1 + 1, 0, none⟩) 1 1) = A4 := ⟨_, rfl⟩
  rw [hA4]
  have t4 : A4.heap.size = W2.heap.size + 1 + 1 + 1 := by rw [← hA4, Deep.nblk_setCell]; exact t3
  have oth : ∀ c, c ≠ g → A4.heap[c]? = A3.heap[c]? := fun c hc => by rw [← hA4]; exact Deep.blk_setCell_other _ _ _ _ hc
  have d0 : A4.cell? ⟨W2.heap.size, 0, none⟩ = some (.string ⟨#[77, 83, 72]⟩) := by
    rw [cellSame (oth _ (by omega)), q13.cell (p := ⟨W2.heap.size, 0, none⟩) (by rw [t1]; simp), ← hA1]; simp
  have d1 : A4.cell? ⟨W2.heap.size, 1, none⟩ = some (.slice (some ⟨g, 0, none⟩) 10 cap) := by
    rw [cellSame (oth _ (by omega)), q13.cell (p := ⟨W2.heap.size, 1, none⟩) (by rw [t1]; simp), ← hA1]; simp
  have e0 : A4.cell? ⟨w.heap.size, 0, none⟩ = some (.string ⟨#[]⟩) := by rw [cellSame (oth _ hne), q03.cell (p := ⟨w.heap.size, 0, none⟩) hwb]; exact c0
  have e1 : A4.cell? ⟨w.heap.size, 1, none⟩ = some (.slice none 0 0) := by rw [cellSame (oth _ hne), q03.cell (p := ⟨w.heap.size, 1, none⟩) hwb]; exact c1
  have ef : ∀ i, A4.frozen? ⟨w.heap.size, i, none⟩ = false := fun i => by rw [frozenSame (oth _ hne), q03.frozen (p := ⟨w.heap.size, i, none⟩) hwb]; exact f0 i
  have hw4 : w.heap.size < A4.heap.size := by omega
  have HREAD : Hid (FieldsAt (w.heap.size + 1) A4 (.slice (some ⟨g, 0, none⟩) 10 cap) (headF [a, b] control)) := by
    have hA36 : A4.cell? ⟨g, 6, none⟩ = some (.slice (some ⟨W2.heap.size + 1 + 1, 0, none⟩) 1 1) := by
      have h6 : A3.cell? ⟨g, 6, none⟩ = some u6 := by rw [q03.cell (p := ⟨g, 6, none⟩) hgl]; exact c6
      rw [← hA4]
      exact World.cell?_setCell_same _ _ _ h6
    have hoth : ∀ i, i ≠ 6 → A4.cell? ⟨g, i, none⟩ = W2.cell? ⟨g, i, none⟩ := fun i hi => by
      rw [← q03.cell (p := ⟨g, i, none⟩) hgl, ← hA4]
      exact World.cell?_setCell_other _ _ _ _ (by intro h; simp only [Addr.mk.injEq] at h; omega)
    refine ⟨by simp [headF], .inr ⟨g, 0, cap, rfl, ⟨by omega, by omega⟩, fun i hi => ?_⟩⟩
    have hi10 : i < 10 := hi
    by_cases h6 : i = 6
    · subst h6
      refine ⟨_, hA36, (by decide : 1 ≤ 9223372036854775807), .inr ⟨_, 0, 1, rfl, ⟨by omega, by omega⟩, fun j hj => ?_⟩⟩
      obtain rfl : j = 0 := by simp [headF] at hj; omega
      refine ⟨.slice (some ⟨W2.heap.size + 1, 0, none⟩) 2 2, ?_, (by decide : 2 ≤ 9223372036854775807), .inr ⟨_, 0, 2, rfl, ⟨by omega, by omega⟩, fun k hk => ?_⟩⟩
      · rw [cellSame (oth _ (by omega)), ← hA3, ← t2]; simp
      · have hk2 : k < 2 := hk
        have hkk : A4.cell? ⟨W2.heap.size + 1, 0 + k * 1, none⟩ = A2.cell? ⟨W2.heap.size + 1, k, none⟩ := by
          rw [cellSame (oth _ (by omega)), q3.cell (p := ⟨W2.heap.size + 1, 0 + k * 1, none⟩) (by rw [t2]; simp)]
          simp
        refine ⟨hkk.trans ?_, ?_⟩
        · rw [← hA2, ← t1]
          match k, hk2 with
          | 0, _ => simp [headF]
          | 1, _ => simp [headF]
        · match k, hk2 with
          | 0, _ => simp [headF]; omega
          | 1, _ => simp [headF]; omega
    · obtain ⟨u, bs, k1, k2, k3⟩ := HROW.out i hi10
      have hx : ([[], [], [], [], [], [], wordF a, wordF control, [], wordF v251] : List Field)[i]'hi10 = (headF [a, b] control)[i] := by
        match i, hi10, h6 with
        | 0, _, _ => rfl
        | 1, _, _ => rfl
        | 2, _, _ => rfl
        | 3, _, _ => rfl
        | 4, _, _ => rfl
        | 5, _, _ => rfl
        | 7, _, _ => rfl
        | 8, _, _ => rfl
        | 9, _, _ => rfl
      rw [hx] at k2
      refine ⟨u, ?_, OAt.toAt toAt_rep (OAt.kept keptO_rep k2 (w' := A4) (by omega) fun c hc => ?_) fun c hc => by have := (k3 c hc).1; omega⟩
      · have := hoth i h6
        rw [k1] at this
        simpa using this
      · rw [oth c (k3 c hc).2.2, q03.block c (k3 c hc).2.1]
  have HB4 : Hid (Below w.heap.size w A4) := by rw [← hA4]; exact (bjoin' q03 HB02.out).setCell (by simp; omega) _
  clear hA1 hA2 hA3 hA4 q1 q2 q3 q13 q03 oth HROW HB02 c0 c1 c6 f0 hgf t1 t2 t3
  go_wp2_with fail
  refine bodyPost_ret (v := .agg #[.string ⟨#[77, 83, 72]⟩, .slice (some ⟨g, 0, none⟩) 10 cap]) (by simp [results, Try.results80, go_sem, e0, e1, hw4]) rfl ⟨_, rfl, ?_, ?_⟩
  · refine At.same kept_field HREAD.out ⟨by rw [Deep.nblk_setCell, Deep.nblk_setCell]; exact Nat.le_refl _, fun c h1 h2 => ?_⟩
    rw [Deep.blk_setCell_other, Deep.blk_setCell_other] <;> (simp; omega)
  · exact (HB4.out.setCell (by simp) _).setCell (by simp) _
end Go.Proofs.Ytjpdgcodjnnljaa.Msg
