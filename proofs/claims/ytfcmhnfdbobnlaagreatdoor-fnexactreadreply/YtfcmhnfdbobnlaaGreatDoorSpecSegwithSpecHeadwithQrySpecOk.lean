import Derived.Test.YtfcmhnfdbobnlaaGreatDoorTrimBufwithTrimwithQrySpecF
import Derived.Test.YtfcmhnfdbobnlaaGreatDoorImplHead3withImplSegs3withImplLetterW
import Derived.Test.YtfcmhnfdbobnlaaGreatDoorQryReadwithImplOkwithTextImpl
import Derived.Deep.RegionHeld3
import Derived.BigQuiet
namespace Go.Proofs.YtfcmhnfdbobnlaaGreatDoor.Msg
open Go.ChangeShapes Go.WideShapes Go.ChangeAt Go.RowKit
set_option linter.unusedVariables false
set_option linter.unusedSimpArgs false

theorem RBuf.above {α : Type} {O : World → Value → α → List Nat → Prop} (hkeep : ∀ w w' v x bs, O w v x bs → w.heap.size ≤ w'.heap.size → (∀ d ∈ bs, w'.heap[d]? = w.heap[d]?) → O w' v x bs)
    {P : Nat → Prop} {e : TypeId} {base : Nat} {w w' : World} {v : Value} {xs : List α} (h : RBuf O P e base w v xs) (hs : w.heap.size ≤ w'.heap.size) (hb : ∀ b, base ≤ b ∨ P b → w'.heap[b]? = w.heap[b]?) : RBuf O P e base w' v xs := by
  obtain ⟨vs, bss, h1, h2, h3, h5⟩ := h
  refine ⟨vs, bss, h1, h2, own_above h3 fun b hb' => hb b (.inl hb'), fun i hi g1 g2 => ?_⟩
  obtain ⟨k1, k2⟩ := h5 i hi g1 g2
  exact ⟨hkeep _ _ _ _ _ k1 hs fun d hd => hb d (.inr (k2 d hd).1), fun b hb' => ⟨(k2 b hb').1, Nat.lt_of_lt_of_le (k2 b hb').2.1 hs, (k2 b hb').2.2⟩⟩
theorem RBuf.low {α : Type} {O : World → Value → α → List Nat → Prop} {P : Nat → Prop} {e : TypeId} {base base' : Nat} {w : World} {v : Value} {xs : List α} (h : RBuf O P e base w v xs) (hb : base' ≤ base) : RBuf O P e base' w v xs := by
  obtain ⟨vs, bss, h1, h2, ⟨hl, h3⟩, h5⟩ := h
  refine ⟨vs, bss, h1, h2, ⟨hl, ?_⟩, h5⟩
  rcases h3 with h3 | ⟨g, cap, cur, e1, hg, rest⟩
  · exact .inl h3
  · exact .inr ⟨g, cap, cur, e1, by omega, rest⟩

set_option maxRecDepth 100000 in
set_option maxHeartbeats 2000000 in
theorem seg_any (name : ByteArray) (texts : List ByteArray) (v : Value) (w : World) {lo : Nat} (hv : StrsAt lo w v texts) (hl : texts.length ≤ 1000) (hz : ∀ t ∈ texts, t.size ≤ 1048576) :
    Calls Tryz.prog 31 #[.string name, v] w fun e w' => ∃ u, e = .returned (.agg #[.string name, u]) ∧ RBuf OReps (fun d => w.heap.size + 1 ≤ d) 60 (w.heap.size + 1) w' u (trimF (texts.map wordF)) ∧ Below w.heap.size w w' := by
  obtain ⟨i0, hi, hz0, hz1, hz2⟩ := info_facts info_Field
  obtain ⟨a, cap, rfl, hc⟩ := hv.form
  have HC : Hid (∀ i (hi : i < texts.length), ∃ b off, a = some ⟨b, off, none⟩ ∧ b < w.heap.size ∧ w.cell? ⟨b, off + i, none⟩ = some (.string texts[i])) := fun i hi => by
    obtain ⟨b, off, e, _, h2, h3⟩ := hc i hi
    exact ⟨b, off, e, h2, by simpa using h3.1⟩
  have HZ := hide hz
  have hb0 := (Below.refl w.heap.size w).alloc (Nat.le_refl _) (Obj.cells #[.string ⟨#[]⟩, .slice none 0 0] 45)
  clear hc hv hz
  go_enter Tryz.func31, Tryz.ntmps31
  go_wp2_with fail
  obtain ⟨W0, hW0⟩ : ∃ W0, w.alloc (Obj.cells #[.string ⟨#[]⟩, .slice none 0 0] 45) = W0 := ⟨_, rfl⟩
  have hs0 : W0.heap.size = w.heap.size + 1 := by rw [← hW0]; simp
  have HB0 : Hid (Below w.heap.size w W0) := by rw [← hW0]; exact (Below.refl _ _).alloc (Nat.le_refl _) _
  have HR0 : Hid (W0.cell? ⟨w.heap.size, 0, none⟩ = some (.string ⟨#[]⟩) ∧ W0.cell? ⟨w.heap.size, 1, none⟩ = some (.slice none 0 0) ∧ ∀ i, W0.frozen? ⟨w.heap.size, i, none⟩ = false) := by rw [← hW0]; exact ⟨by simp, by simp, fun i => by simp⟩
  rw [hW0]
  clear hW0 hb0
  go_loopg [5, 6] texts.length (fun n v5 i wr => ∃ k : Nat, k ≤ texts.length ∧ n = texts.length - k ∧ i = .int .i64 k ∧ LBuf RepsC 60 W0.heap.size wr v5 ((texts.take k).map wordF) ∧ Below W0.heap.size W0 wr)
  case atStart => exact ⟨0, Nat.zero_le _, by simp, rfl, by rw [← hs0]; simpa using LBuf.empty RepsC 60 W0.heap.size W0 (Nat.le_refl _), (Below.refl _ _).alloc (Nat.le_refl _) _⟩
  case round =>
    obtain ⟨k, hk, rfl, rfl, hL, hb⟩ := hrel
    obtain ⟨W1, rfl⟩ : ∃ x, x = wr := ⟨_, rfl⟩
    obtain ⟨V1, rfl⟩ : ∃ x, x = u5 := ⟨_, rfl⟩
    have HL := hide hL
    have HB := hide hb
    have hbs1 := hb.size
    clear hL hb
    by_cases hlt : k < texts.length
    · obtain ⟨b, off, rfl, hbl, hcell⟩ := HC.out k hlt
      have hc1 : W1.cell? ⟨b, off + k, none⟩ = some (.string texts[k]) := by rw [HB.out.cell (p := ⟨b, off + k, none⟩) (show b < W0.heap.size by omega), HB0.out.cell (p := ⟨b, off + k, none⟩) hbl]; exact hcell
      have hki : (k : Int) < (texts.length : Int) := by omega
      have htz := HZ.out texts[k] (List.getElem_mem hlt)
      clear hcell
      go_wp2_with fail
      refine (l3FC_any texts[k] _ htz).mono ?_
      rintro e W2 ⟨u2, rfl, bs2, hO2, hnd2, hfr2, hb2⟩
      obtain ⟨a2, cap2, rfl, hform⟩ := OAt.form hO2
      clear hform
      obtain ⟨vs, bss, hv1, hv2, hv3, hv4, hv5⟩ := HL.out
      have hbA : Below W1.heap.size W1 (W2.alloc (Obj.cells #[.slice a2 (wordF texts[k]).length cap2] 60)) := hb2.alloc hb2.size _
      have hOA := OAt.kept keptO_repC hO2 (w' := W2.alloc (Obj.cells #[.slice a2 (wordF texts[k]).length cap2] 60)) (by simp) (fun c hc => Deep.blk_alloc_lt _ _ _ (OAt.lt ltO_repC hO2 c hc))
      have hownA := own_below hv3 hbA
      have hvl : ((texts.take k).map wordF).length = k := by rw [List.length_map, List.length_take]; omega
      have HVL := hide hvl
      have HV3 := hide hv3
      have HBA := hide hbA
      have HOA := hide hOA
      have HND := hide hnd2
      have HFR := hide hfr2
      have hbs2 := hb2.size
      rw [hvl] at hownA
      generalize hM : (wordF texts[k]).length = M at *
      clear hv1 hv2 hv3 hv4 hv5 hbA hOA hnd2 hfr2 hO2 hb2 hc1 hvl
      go_wp2_with (first
        | (at_builtin; refine wpList_append_own_at _ rfl _ _ 43 rfl W0.heap.size 60 i0 (.agg #[.slice none 0 0]) 1 24 Tryz.underlying43 hi hz0 hz1 hz2 rfl (by decide) _ _ _ rfl hownA ⟨W2.heap.size, 0, none⟩ 1 1 [.slice a2 M cap2] rfl rfl (new_cell _ _ _) (one_slice _ _ _) (by unfold maxLen; omega) (by omega) (by rw [Deep.nblk_alloc]; omega) ?_)
        | fail)
      intro v' w6 hown' hgrow hnil hat
      rw [← hs0] at hown'
      have HPU := hide (LBuf.push (O := RepsC) (fun _ _ _ _ _ h s d => OAt.kept keptO_repC h s d) (fun _ _ _ _ h => OAt.lt ltO_repC h) HL.out hbs1 HBA.out HOA.out HFR.out HND.out HV3.out HVL.out.symm hown' hgrow (by simpa using hat))
      have HBW6 : Hid (Below W0.heap.size W0 w6) := (HB.out.trans (HBA.out.mono hbs1)).grown hgrow (by simp; omega) (fun b hb' => (own_lt hownA hb').1)
      have HSN : Hid ((texts.take k).map wordF ++ [wordF texts[k]] = (texts.take (k + 1)).map wordF) := by rw [List.take_succ_eq_append_getElem hlt, List.map_append]; rfl
      clear hown' hgrow hnil hat hownA
      go_wp2_with fail
      go_roundg (texts.length - (k + 1))
      case measure => omega
      case rel => exact ⟨k + 1, by omega, rfl, by go_num, by rw [← HSN.out]; exact HPU.out, HBW6.out⟩
    · obtain rfl : k = texts.length := by omega
      have hL := HL.out
      rw [List.take_length] at hL
      have hln : (texts.map wordF).length = texts.length := List.length_map _
      obtain ⟨a4, cap4, rfl, _, _, bs4, hO4, hnd4, hfr4⟩ := LBuf.take (R := FieldC) (fun w b off x bs v h1 h2 => ⟨v, h1, h2⟩) hL (by rw [hln]; omega) (n := texts.length) (by rw [hln]; exact Nat.le_refl _)
      rw [← hln, List.take_length] at hO4
      rw [hln] at hO4 ⊢
      have hO5 : FieldsC W1 (.slice a4 texts.length cap4) (texts.map wordF) bs4 := hO4
      clear hL hO4
      go_wp2_with fail
      refine (trim_any (fun d => w.heap.size + 1 ≤ d) (texts.map wordF) _ bs4 _ (fun d hd => by have := hfr4 d hd; omega) (fun d hd => by omega) (by rw [hln]; omega) (fun f hf => by
        rw [List.mem_map] at hf
        obtain ⟨x, _, rfl⟩ := hf
        have : (wordF x).length ≤ 1 := by unfold wordF; split <;> simp
        omega) hO5).mono ?_
      rintro e W2 ⟨u2, rfl, hR, hb2⟩
      have hbs2 := hb2.size
      have hb02 : Below W0.heap.size W0 W2 := HB.out.trans (hb2.mono hbs1)
      have c0 : W2.cell? ⟨w.heap.size, 0, none⟩ = some (.string ⟨#[]⟩) := by rw [hb02.cell (p := ⟨w.heap.size, 0, none⟩) (by simp; omega)]; exact HR0.out.1
      have c1 : W2.cell? ⟨w.heap.size, 1, none⟩ = some (.slice none 0 0) := by rw [hb02.cell (p := ⟨w.heap.size, 1, none⟩) (by simp; omega)]; exact HR0.out.2.1
      have f0 : ∀ i, W2.frozen? ⟨w.heap.size, i, none⟩ = false := fun i => by rw [hb02.frozen (p := ⟨w.heap.size, i, none⟩) (by simp; omega)]; exact HR0.out.2.2 i
      have hwb : w.heap.size < W2.heap.size := by omega
      have HB02 := hide (HB0.out.trans (hb02.mono (by omega)))
      have HR := hide hR
      clear hR hb2 hb02 hO5
      obtain ⟨a5, cap5, n5, hu5⟩ : ∃ a5 cap5 n5, u2 = .slice a5 n5 cap5 := by
        obtain ⟨vs, bss, _, _, ⟨_, h3⟩, _⟩ := HR.out
        rcases h3 with ⟨e, _⟩ | ⟨g, cap, cur, e, _⟩
        · exact ⟨_, _, _, e⟩
        · exact ⟨_, _, _, e⟩
      subst hu5
      go_wp2_with fail
      refine bodyPost_ret (v := .agg #[.string name, .slice a5 n5 cap5]) (by simp [results, Tryz.results31, go_sem, c0, c1, hwb]) rfl ⟨_, rfl, ?_, ?_⟩
      · refine RBuf.above (O := OReps) (base := w.heap.size + 1) (fun _ _ _ _ _ h s d => OAt.kept keptO_rep h s d) (HR.out.low (by omega)) ?_ ?_
        · rw [Deep.nblk_setCell, Deep.nblk_setCell]; exact Nat.le_refl _
        · intro b hb
          have hb' : w.heap.size + 1 ≤ b := by rcases hb with hb | hb <;> exact hb
          rw [Deep.blk_setCell_other, Deep.blk_setCell_other] <;> (simp; omega)
      · exact (HB02.out.setCell (by simp) _).setCell (by simp) _
end Go.Proofs.YtfcmhnfdbobnlaaGreatDoor.Msg

namespace Go.Proofs.YtfcmhnfdbobnlaaGreatDoor.Msg
open Go.ChangeShapes Go.WideShapes Go.ChangeAt Go.RowKit
set_option linter.unusedVariables false
set_option linter.unusedSimpArgs false

theorem trimR_word (s : ByteArray) : trimR (wordF s) = wordF s := by
  unfold wordF
  split
  · rfl
  · rename_i h
    have e : emptyB s = false := by unfold emptyB; rw [beq_eq_false_iff_ne]; exact h
    have e1 : trimC [s] = [s] := by unfold trimC trimE; simp [keepN, e]
    unfold trimR
    simp only [List.map_cons, List.map_nil, e1]
    rfl
theorem trimF_words (texts : List ByteArray) : trimF (texts.map wordF) = trimE List.isEmpty (texts.map wordF) := by
  unfold trimF
  rw [List.map_map]
  congr 1
  apply List.map_congr_left
  intro s _
  exact trimR_word s
/-- a list that was built for reading, read -/
theorem RBuf.fields {P : Nat → Prop} {base : Nat} {w : World} {v : Value} {xs : List Field} (h : RBuf OReps P 60 base w v xs) (hP : ∀ b, P b → base ≤ b) (hl : xs.length ≤ 9223372036854775807) : FieldsAt base w v xs := by
  obtain ⟨a, cap, rfl, _, _, _, bs, hO, hb⟩ := RBuf.first (R := FieldO) (fun w b off x bs v h1 h2 => ⟨v, h1, h2⟩) h hl (n := xs.length) (Nat.le_refl _)
  rw [List.take_length] at hO
  exact OAt.toAt toAt_field hO fun c hc => by
    rcases (hb c hc).2 with h | h
    · exact hP c h
    · exact h
/-- its row -/
theorem RBuf.row {P : Nat → Prop} {base : Nat} {w : World} {v : Value} {xs : List Field} (h : RBuf OReps P 60 base w v xs) (hP : ∀ b, P b → base ≤ b) (h0 : 0 < xs.length) :
    ∃ g cap, v = .slice (some ⟨g, 0, none⟩) xs.length cap ∧ base ≤ g ∧ g < w.heap.size ∧ (∀ i, w.frozen? ⟨g, i, none⟩ = false) ∧ ∀ i (hi : i < xs.length), ∃ u bs, w.cell? ⟨g, i, none⟩ = some u ∧ OReps w u xs[i] bs ∧ ∀ b ∈ bs, base ≤ b ∧ b < w.heap.size ∧ b ≠ g := by
  obtain ⟨vs, bss, h1, h2, ⟨hlen, hown⟩, h5⟩ := h
  rcases hown with ⟨rfl, e⟩ | ⟨g, cap, cur, rfl, hg, hs, hcap, hm, hsz, ht⟩
  · omega
  · have hgl : g < w.heap.size := by rw [Array.getElem?_eq_some_iff] at hs; exact hs.1
    refine ⟨g, cap, rfl, hg, hgl, fun i => by simp [World.frozen?, hs], fun i hi => ⟨vs[i]'(by omega), bss[i]'(by omega), ?_, (h5 i hi (by omega) (by omega)).1, fun b hb => ?_⟩⟩
    · obtain ⟨ve, hve⟩ : ∃ ve, vs[i]'(by omega) = ve := ⟨_, rfl⟩
      have e1 : vs[i]? = some ve := by rw [← hve]; exact List.getElem?_eq_getElem (by omega)
      rw [hve]
      rw [← ht, List.getElem?_take, if_pos (by omega)] at e1
      simp only [World.cell?, hs]
      rw [← Array.getElem?_toList, e1]
      rfl
    · have k := (h5 i hi (by omega) (by omega)).2 b hb
      exact ⟨hP b k.1, k.2.1, fun e => k.2.2 (by simp [Value.ownBlock, e])⟩
def headT (a control : ByteArray) : List ByteArray := [⟨#[]⟩, ⟨#[]⟩, ⟨#[]⟩, ⟨#[]⟩, ⟨#[]⟩, ⟨#[]⟩, a, control, ⟨#[]⟩, v251]
theorem headT_trim (a control : ByteArray) : trimF ((headT a control).map wordF) = [[], [], [], [], [], [], wordF a, wordF control, [], wordF v251] := by
  rw [trimF_words]
  rfl
theorem words_at (w : World) (ts : List ByteArray) (hz : ∀ t ∈ ts, t.size ≤ 9223372036854775807) (hl : ts.length ≤ 9223372036854775807) :
    StrsAt 0 (w.alloc (.cells (ts.map Value.string).toArray 9)) (.slice (some ⟨w.heap.size, 0, none⟩) ts.length ts.length) ts :=
  ⟨hl, .inr ⟨w.heap.size, 0, ts.length, rfl, ⟨Nat.zero_le _, by simp⟩, fun i hi => ⟨by simp [hi], hz _ (List.getElem_mem hi)⟩⟩⟩

set_option maxRecDepth 100000 in
set_option maxHeartbeats 2000000 in
theorem headS_any (a b control : ByteArray) (w : World) (ha : a.size ≤ 1048576) (hb : b.size ≤ 1048576) (hc : control.size ≤ 1048576) :
    Calls Tryz.prog 30 #[.string a, .string b, .string control] w fun e w' => ∃ u, e = .returned (.agg #[.string ⟨#[77, 83, 72]⟩, u]) ∧ FieldsAt (w.heap.size + 1) w' u (headF [a, b] control) ∧ Below w.heap.size w w' := by
  have hz : ∀ t ∈ headT a control, t.size ≤ 1048576 := by
    intro t ht
    simp only [headT, List.mem_cons, List.not_mem_nil, or_false] at ht
    rcases ht with rfl | rfl | rfl | rfl | rfl | rfl | rfl | rfl | rfl | rfl <;> first | assumption | decide
  have HZ := hide hz
  clear hz
  obtain ⟨W0, hW0⟩ : ∃ W0, w.alloc (Obj.cells #[.string ⟨#[]⟩, .slice none 0 0] 45) = W0 := ⟨_, rfl⟩
  have hs0 : W0.heap.size = w.heap.size + 1 := by rw [← hW0]; simp
  have HB0 : Hid (Below w.heap.size w W0) := by rw [← hW0]; exact (Below.refl _ _).alloc (Nat.le_refl _) _
  have HR0 : Hid (W0.cell? ⟨w.heap.size, 0, none⟩ = some (.string ⟨#[]⟩) ∧ W0.cell? ⟨w.heap.size, 1, none⟩ = some (.slice none 0 0) ∧ ∀ i, W0.frozen? ⟨w.heap.size, i, none⟩ = false) := by rw [← hW0]; exact ⟨by simp, by simp, fun i => by simp⟩
  have HW : Hid (StrsAt 0 (W0.alloc (.cells #[.string ⟨#[]⟩, .string ⟨#[]⟩, .string ⟨#[]⟩, .string ⟨#[]⟩, .string ⟨#[]⟩, .string ⟨#[]⟩, .string a, .string control, .string ⟨#[]⟩, .string ⟨#[50, 46, 53, 46, 49]⟩] 9)) (.slice (some ⟨w.heap.size + 1, 0, none⟩) 10 10) (headT a control)) := by
    have := words_at W0 (headT a control) (fun t ht => Nat.le_trans (HZ.out t ht) (by omega)) (by simp [headT])
    rw [hs0] at this
    exact this
  obtain ⟨W1, hW1⟩ : ∃ W1, W0.alloc (.cells #[.string ⟨#[]⟩, .string ⟨#[]⟩, .string ⟨#[]⟩, .string ⟨#[]⟩, .string ⟨#[]⟩, .string ⟨#[]⟩, .string a, .string control, .string ⟨#[]⟩, .string ⟨#[50, 46, 53, 46, 49]⟩] 9) = W1 := ⟨_, rfl⟩
  have hs1 : W1.heap.size = w.heap.size + 1 + 1 := by rw [← hW1]; simp [hs0]
  have HB1 : Hid (Below W0.heap.size W0 W1) := by rw [← hW1]; exact (Below.refl _ _).alloc (Nat.le_refl _) _
  rw [hW1] at HW
  go_enter Tryz.func30, Tryz.ntmps30
  go_wp2_with fail
  try rw [hW0]
  try rw [hW1]
  refine (seg_any ⟨#[77, 83, 72]⟩ (headT a control) _ _ HW.out (by simp [headT]) HZ.out).mono ?_
  rintro e W2 ⟨u2, rfl, hR, hb2⟩
  rw [headT_trim] at hR
  obtain ⟨g, cap, rfl, hg, hgl, hgf, hrow⟩ := RBuf.row hR (fun b h => h) (by simp)
  rw [hs1] at hg hrow
  have hlen : ([[], [], [], [], [], [], wordF a, wordF control, [], wordF v251] : List Field).length = 10 := rfl
  rw [hlen]
  have hb12 : Below W0.heap.size W0 W2 := bjoin' hb2 HB1.out
  have c0 : W2.cell? ⟨w.heap.size, 0, none⟩ = some (.string ⟨#[]⟩) := by rw [hb12.cell (p := ⟨w.heap.size, 0, none⟩) (by simp; omega)]; exact HR0.out.1
  have c1 : W2.cell? ⟨w.heap.size, 1, none⟩ = some (.slice none 0 0) := by rw [hb12.cell (p := ⟨w.heap.size, 1, none⟩) (by simp; omega)]; exact HR0.out.2.1
  have f0 : ∀ i, W2.frozen? ⟨w.heap.size, i, none⟩ = false := fun i => by rw [hb12.frozen (p := ⟨w.heap.size, i, none⟩) (by simp; omega)]; exact HR0.out.2.2 i
  have hwb : w.heap.size < W2.heap.size := by have := hb12.size; omega
  obtain ⟨u6, bs6, c6, hO6, _⟩ := hrow 6 (by simp)
  have HROW := hide hrow
  have HB02 := hide (bjoin' hb12 HB0.out)
  have hne : w.heap.size ≠ g := by omega
  have hne2 : g ≠ W2.heap.size := by omega
  have w6f : W2.frozen? ⟨g, 6, none⟩ = false := hgf 6
  clear hrow hR hb2 hb12 hO6 HW HB1 HR0 HZ hW0 hW1
  obtain ⟨A1, hA1⟩ : ∃ A1, W2.alloc (Obj.cells #[.string ⟨#[77, 83, 72]⟩, .slice (some ⟨g, 0, none⟩) 10 cap] 45) = A1 := ⟨_, rfl⟩
  obtain ⟨A2, hA2⟩ : ∃ A2, A1.alloc (Obj.cells #[.string a, .string b] 9) = A2 := ⟨_, rfl⟩
  obtain ⟨A3, hA3⟩ : ∃ A3, A2.alloc (Obj.cells #[.slice (some ⟨W2.heap.size + 1, 0, none⟩) 2 2] 62) = A3 := ⟨_, rfl⟩
  have t1 : A1.heap.size = W2.heap.size + 1 := by rw [← hA1]; simp
  have t2 : A2.heap.size = W2.heap.size + 1 + 1 := by rw [← hA2]; simp [t1]
  have t3 : A3.heap.size = W2.heap.size + 1 + 1 + 1 := by rw [← hA3]; simp [t2]
  have q1 : Below W2.heap.size W2 A1 := by rw [← hA1]; exact (Below.refl _ _).alloc (Nat.le_refl _) _
  have q2 : Below A1.heap.size A1 A2 := by rw [← hA2]; exact (Below.refl _ _).alloc (Nat.le_refl _) _
  have q3 : Below A2.heap.size A2 A3 := by rw [← hA3]; exact (Below.refl _ _).alloc (Nat.le_refl _) _
  have q13 := bjoin' q3 q2
  have q03 := bjoin' q13 q1
  have m1 : A1.cell? ⟨W2.heap.size, 1, none⟩ = some (.slice (some ⟨g, 0, none⟩) 10 cap) := by rw [← hA1]; simp
  have g6 : A3.cell? ⟨g, 6, none⟩ = some u6 := by rw [q03.cell (p := ⟨g, 6, none⟩) hgl]; exact c6
  have g6f : A3.frozen? ⟨g, 6, none⟩ = false := by rw [q03.frozen (p := ⟨g, 6, none⟩) hgl]; exact hgf 6
  go_upto_region 3 with fail
  obtain ⟨A4, hA4⟩ : ∃ A4, A3.setCell ⟨g, 6, none⟩ (.slice (some ⟨W2.heap.size + 1 + 1, 0, none⟩) 1 1) = A4 := ⟨_, rfl⟩
  rw [hA4]
  have t4 : A4.heap.size = W2.heap.size + 1 + 1 + 1 := by rw [← hA4, Deep.nblk_setCell]; exact t3
  have oth : ∀ c, c ≠ g → A4.heap[c]? = A3.heap[c]? := fun c hc => by rw [← hA4]; exact Deep.blk_setCell_other _ _ _ _ hc
  have d0 : A4.cell? ⟨W2.heap.size, 0, none⟩ = some (.string ⟨#[77, 83, 72]⟩) := by
    rw [cellSame (oth _ (by omega)), q13.cell (p := ⟨W2.heap.size, 0, none⟩) (by rw [t1]; simp), ← hA1]; simp
  have d1 : A4.cell? ⟨W2.heap.size, 1, none⟩ = some (.slice (some ⟨g, 0, none⟩) 10 cap) := by
    rw [cellSame (oth _ (by omega)), q13.cell (p := ⟨W2.heap.size, 1, none⟩) (by rw [t1]; simp), ← hA1]; simp
  have e0 : A4.cell? ⟨w.heap.size, 0, none⟩ = some (.string ⟨#[]⟩) := by rw [cellSame (oth _ hne), q03.cell (p := ⟨w.heap.size, 0, none⟩) hwb]; exact c0
  have e1 : A4.cell? ⟨w.heap.size, 1, none⟩ = some (.slice none 0 0) := by rw [cellSame (oth _ hne), q03.cell (p := ⟨w.heap.size, 1, none⟩) hwb]; exact c1
  have ef : ∀ i, A4.frozen? ⟨w.heap.size, i, none⟩ = false := fun i => by rw [frozenSame (oth _ hne), q03.frozen (p := ⟨w.heap.size, i, none⟩) hwb]; exact f0 i
  have hw4 : w.heap.size < A4.heap.size := by omega
  have HREAD : Hid (FieldsAt (w.heap.size + 1) A4 (.slice (some ⟨g, 0, none⟩) 10 cap) (headF [a, b] control)) := by
    have hA36 : A4.cell? ⟨g, 6, none⟩ = some (.slice (some ⟨W2.heap.size + 1 + 1, 0, none⟩) 1 1) := by
      have h6 : A3.cell? ⟨g, 6, none⟩ = some u6 := by rw [q03.cell (p := ⟨g, 6, none⟩) hgl]; exact c6
      rw [← hA4]
      exact World.cell?_setCell_same _ _ _ h6
    have hoth : ∀ i, i ≠ 6 → A4.cell? ⟨g, i, none⟩ = W2.cell? ⟨g, i, none⟩ := fun i hi => by
      rw [← q03.cell (p := ⟨g, i, none⟩) hgl, ← hA4]
      exact World.cell?_setCell_other _ _ _ _ (by intro h; simp only [Addr.mk.injEq] at h; omega)
    refine ⟨by simp [headF], .inr ⟨g, 0, cap, rfl, ⟨by omega, by omega⟩, fun i hi => ?_⟩⟩
    have hi10 : i < 10 := hi
    by_cases h6 : i = 6
    · subst h6
      refine ⟨_, hA36, (by decide : 1 ≤ 9223372036854775807), .inr ⟨_, 0, 1, rfl, ⟨by omega, by omega⟩, fun j hj => ?_⟩⟩
      obtain rfl : j = 0 := by simp [headF] at hj; omega
      refine ⟨.slice (some ⟨W2.heap.size + 1, 0, none⟩) 2 2, ?_, (by decide : 2 ≤ 9223372036854775807), .inr ⟨_, 0, 2, rfl, ⟨by omega, by omega⟩, fun k hk => ?_⟩⟩
      · rw [cellSame (oth _ (by omega)), ← hA3, ← t2]; simp
      · have hk2 : k < 2 := hk
        have hkk : A4.cell? ⟨W2.heap.size + 1, 0 + k * 1, none⟩ = A2.cell? ⟨W2.heap.size + 1, k, none⟩ := by
          rw [cellSame (oth _ (by omega)), q3.cell (p := ⟨W2.heap.size + 1, 0 + k * 1, none⟩) (by rw [t2]; simp)]
          simp
        refine ⟨hkk.trans ?_, ?_⟩
        · rw [← hA2, ← t1]
          match k, hk2 with
          | 0, _ => simp [headF]
          | 1, _ => simp [headF]
        · match k, hk2 with
          | 0, _ => simp [headF]; omega
          | 1, _ => simp [headF]; omega
    · obtain ⟨u, bs, k1, k2, k3⟩ := HROW.out i hi10
      have hx : ([[], [], [], [], [], [], wordF a, wordF control, [], wordF v251] : List Field)[i]'hi10 = (headF [a, b] control)[i] := by
        match i, hi10, h6 with
        | 0, _, _ => rfl
        | 1, _, _ => rfl
        | 2, _, _ => rfl
        | 3, _, _ => rfl
        | 4, _, _ => rfl
        | 5, _, _ => rfl
        | 7, _, _ => rfl
        | 8, _, _ => rfl
        | 9, _, _ => rfl
      rw [hx] at k2
      refine ⟨u, ?_, OAt.toAt toAt_rep (OAt.kept keptO_rep k2 (w' := A4) (by omega) fun c hc => ?_) fun c hc => by have := (k3 c hc).1; omega⟩
      · have := hoth i h6
        rw [k1] at this
        simpa using this
      · rw [oth c (k3 c hc).2.2, q03.block c (k3 c hc).2.1]
  have HB4 : Hid (Below w.heap.size w A4) := by rw [← hA4]; exact (bjoin' q03 HB02.out).setCell (by simp; omega) _
  clear hA1 hA2 hA3 hA4 q1 q2 q3 q13 q03 oth HROW HB02 c0 c1 c6 f0 hgf t1 t2 t3
  go_wp2_with fail
  refine bodyPost_ret (v := .agg #[.string ⟨#[77, 83, 72]⟩, .slice (some ⟨g, 0, none⟩) 10 cap]) (by simp [results, Tryz.results30, go_sem, e0, e1, hw4]) rfl ⟨_, rfl, ?_, ?_⟩
  · refine At.same kept_field HREAD.out ⟨by rw [Deep.nblk_setCell, Deep.nblk_setCell]; exact Nat.le_refl _, fun c h1 h2 => ?_⟩
    rw [Deep.blk_setCell_other, Deep.blk_setCell_other] <;> (simp; omega)
  · exact (HB4.out.setCell (by simp) _).setCell (by simp) _
end Go.Proofs.YtfcmhnfdbobnlaaGreatDoor.Msg

namespace Go.Proofs.YtfcmhnfdbobnlaaGreatDoor.Msg
open Go.ChangeShapes Go.WideShapes Go.ChangeAt Go.RowKit
set_option linter.unusedVariables false
set_option linter.unusedSimpArgs false

/-- a request that ReadRequest can give -/
def okR (r : Req) : Bool := controlB r.control && (tagB r.tag && (if r.kind = 1 then textB r.query && (decide (1 ≤ r.page) && (decide (r.page ≤ 50) && decide (r.pointer.size = 0)))
  else if r.kind = 2 then textB r.query && (decide (r.page = 0) && (decide (0 < r.pointer.size) && textB r.pointer))
  else decide (r.kind = 3) && (decide (r.query.size = 0) && (decide (r.page = 0) && decide (r.pointer.size = 0)))))

end Go.Proofs.YtfcmhnfdbobnlaaGreatDoor.Msg
