import Derived.Test.YtjpdgcodjnnljaaImplNewwithImplWord3
import Derived.Test.YtjpdgcodjnnljaaParseListswithTrimBuf
import Derived.Test.YtjpdgcodjnnljaaTrimwithCutPure
namespace Go.Proofs.Ytjpdgcodjnnljaa.Msg
open Go.ChangeShapes Go.WideShapes Go.ChangeAt Go.RowKit
set_option linter.unusedVariables false
set_option linter.unusedSimpArgs false

set_option maxHeartbeats 1000000 in
theorem l3F_any (s : ByteArray) (w : World) (hs : s.size ≤ 1048576) :
    Calls Try.prog 111 #[.string s] w fun e w' => ∃ u, e = .returned (.agg #[u]) ∧ ∃ bs, OReps w' u (wordF s) bs ∧ bs.Nodup ∧ (∀ b ∈ bs, w.heap.size ≤ b) ∧ Below w.heap.size w w' := by
  by_cases h0 : s.size = 0
  · have HF : Hid (wordF s = []) := by unfold wordF; rw [if_pos h0]; trivial
    have h1 : ((s.size : Int) == 0) = true := by rw [h0]; rfl
    clear h0
    go_enter Try.func111, Try.ntmps111
    go_wp2_with fail
    exact bodyPost_ret (v := .agg #[.slice none 0 0]) (by simp [results, Try.results111, go_sem]) rfl ⟨_, rfl, [], by rw [HF.out]; exact o_nil _ _ _, by simp, by simp, (Below.refl _ _).alloc (Nat.le_refl _) _⟩
  · have HF : Hid (wordF s = [[s]]) := by unfold wordF; rw [if_neg h0]; trivial
    have h1 : ((s.size : Int) == 0) = false := by rw [beq_eq_false_iff_ne]; omega
    go_enter Try.func111, Try.ntmps111
    go_wp2_with fail
    obtain ⟨x1, hx1⟩ : ∃ x1, w.alloc (Obj.cells #[.slice (some ⟨w.heap.size + 1 + 1, 0, none⟩) 1 1] 114) = x1 := ⟨_, rfl⟩
    obtain ⟨x2, hx2⟩ : ∃ x2, x1.alloc (Obj.cells #[.string s] 9) = x2 := ⟨_, rfl⟩
    obtain ⟨x3, hx3⟩ : ∃ x3, x2.alloc (Obj.cells #[.slice (some ⟨w.heap.size + 1, 0, none⟩) 1 1] 116) = x3 := ⟨_, rfl⟩
    have sx1 : x1.heap.size = w.heap.size + 1 := by rw [← hx1]; simp
    have sx2 : x2.heap.size = w.heap.size + 1 + 1 := by rw [← hx2]; simp [sx1]
    have sx3 : x3.heap.size = w.heap.size + 1 + 1 + 1 := by rw [← hx3]; simp [sx2]
    have b1 : Below w.heap.size w x1 := by rw [← hx1]; exact (Below.refl _ _).alloc (Nat.le_refl _) _
    have b2 : Below x1.heap.size x1 x2 := by rw [← hx2]; exact (Below.refl _ _).alloc (Nat.le_refl _) _
    have b3 : Below x2.heap.size x2 x3 := by rw [← hx3]; exact (Below.refl _ _).alloc (Nat.le_refl _) _
    have b23 := bjoin' b3 b2
    have c0 : x3.cell? ⟨w.heap.size, 0, none⟩ = some (.slice (some ⟨w.heap.size + 1 + 1, 0, none⟩) 1 1) := (b23.cell (p := ⟨w.heap.size, 0, none⟩) (by rw [sx1]; simp)).trans (by rw [← hx1]; simp)
    have c1 : x3.cell? ⟨w.heap.size + 1, 0, none⟩ = some (.string s) := (b3.cell (p := ⟨w.heap.size + 1, 0, none⟩) (by rw [sx2]; simp)).trans (by rw [← hx2, ← sx1]; simp)
    have f1 : x3.frozen? ⟨w.heap.size + 1, 0, none⟩ = false := (b3.frozen (p := ⟨w.heap.size + 1, 0, none⟩) (by rw [sx2]; simp)).trans (by rw [← hx2, ← sx1]; simp)
    have c2 : x3.cell? ⟨w.heap.size + 1 + 1, 0, none⟩ = some (.slice (some ⟨w.heap.size + 1, 0, none⟩) 1 1) := by rw [← hx3, ← sx2]; simp
    rw [hx1, hx2, hx3]
    have HO := o_one (s := s) (cap := 1) (by omega) (show w.heap.size + 1 + 1 < x3.heap.size by omega) (show w.heap.size + 1 < x3.heap.size by omega) c2 c1 f1
    exact bodyPost_ret (v := .agg #[.slice (some ⟨w.heap.size + 1 + 1, 0, none⟩) 1 1]) (by simp [results, Try.results111, go_sem, c0]) rfl ⟨_, rfl, _, by rw [HF.out]; exact HO, by simp, by intro b hb; simp at hb; omega, bjoin' b23 b1⟩
theorem o_oneC {w : World} {s : ByteArray} {g g1 cap cap1 : Nat} (hc : 1 ≤ cap1) (hc1 : cap1 ≤ 9223372036854775807) (hs : s.size ≤ 9223372036854775807) (hg : g < w.heap.size) (hg1 : g1 < w.heap.size) (h0 : w.cell? ⟨g, 0, none⟩ = some (.slice (some ⟨g1, 0, none⟩) 1 cap1)) (h1 : w.cell? ⟨g1, 0, none⟩ = some (.string s)) (h2 : w.frozen? ⟨g1, 0, none⟩ = false) :
    RepsC w (.slice (some ⟨g, 0, none⟩) 1 cap) [[s]] [g, g1] := by
  refine ⟨by simp, .inr ⟨g, 0, cap, [[g1]], rfl, hg, rfl, rfl, fun i h h' => ?_⟩⟩
  obtain rfl : i = 0 := by simp at h; omega
  refine ⟨_, h0, ⟨by simp, .inr ⟨g1, 0, cap1, [[]], rfl, hg1, rfl, rfl, fun k hk hk' => ?_⟩⟩, _, _, rfl, by simpa using hc, hc1⟩
  obtain rfl : k = 0 := by simp at hk; omega
  exact ⟨h1, h2, hs, rfl⟩

set_option maxHeartbeats 1000000 in
theorem l3FC_any (s : ByteArray) (w : World) (hs : s.size ≤ 1048576) :
    Calls Try.prog 111 #[.string s] w fun e w' => ∃ u, e = .returned (.agg #[u]) ∧ ∃ bs, RepsC w' u (wordF s) bs ∧ bs.Nodup ∧ (∀ b ∈ bs, w.heap.size ≤ b) ∧ Below w.heap.size w w' := by
  by_cases h0 : s.size = 0
  · have HF : Hid (wordF s = []) := by unfold wordF; rw [if_pos h0]; trivial
    have h1 : ((s.size : Int) == 0) = true := by rw [h0]; rfl
    clear h0
    go_enter Try.func111, Try.ntmps111
    go_wp2_with fail
    exact bodyPost_ret (v := .agg #[.slice none 0 0]) (by simp [results, Try.results111, go_sem]) rfl ⟨_, rfl, [], by rw [HF.out]; exact ⟨by simp, .inl ⟨_, _, rfl, rfl, rfl⟩⟩, by simp, by simp, (Below.refl _ _).alloc (Nat.le_refl _) _⟩
  · have HF : Hid (wordF s = [[s]]) := by unfold wordF; rw [if_neg h0]; trivial
    have h1 : ((s.size : Int) == 0) = false := by rw [beq_eq_false_iff_ne]; omega
    go_enter Try.func111, Try.ntmps111
    go_wp2_with fail
    obtain ⟨x1, hx1⟩ : ∃ x1, w.alloc (Obj.cells #[.slice (some ⟨w.heap.size + 1 + 1, 0, none⟩) 1 1] 114) = x1 := ⟨_, rfl⟩
    obtain ⟨x2, hx2⟩ : ∃ x2, x1.alloc (Obj.cells #[.string s] 9) = x2 := ⟨_, rfl⟩
    obtain ⟨x3, hx3⟩ : ∃ x3, x2.alloc (Obj.cells #[.slice (some ⟨w.heap.size + 1, 0, none⟩) 1 1] 116) = x3 := ⟨_, rfl⟩
    have sx1 : x1.heap.size = w.heap.size + 1 := by rw [← hx1]; simp
    have sx2 : x2.heap.size = w.heap.size + 1 + 1 := by rw [← hx2]; simp [sx1]
    have sx3 : x3.heap.size = w.heap.size + 1 + 1 + 1 := by rw [← hx3]; simp [sx2]
    have b1 : Below w.heap.size w x1 := by rw [← hx1]; exact (Below.refl _ _).alloc (Nat.le_refl _) _
    have b2 : Below x1.heap.size x1 x2 := by rw [← hx2]; exact (Below.refl _ _).alloc (Nat.le_refl _) _
    have b3 : Below x2.heap.size x2 x3 := by rw [← hx3]; exact (Below.refl _ _).alloc (Nat.le_refl _) _
    have b23 := bjoin' b3 b2
    have c0 : x3.cell? ⟨w.heap.size, 0, none⟩ = some (.slice (some ⟨w.heap.size + 1 + 1, 0, none⟩) 1 1) := (b23.cell (p := ⟨w.heap.size, 0, none⟩) (by rw [sx1]; simp)).trans (by rw [← hx1]; simp)
    have c1 : x3.cell? ⟨w.heap.size + 1, 0, none⟩ = some (.string s) := (b3.cell (p := ⟨w.heap.size + 1, 0, none⟩) (by rw [sx2]; simp)).trans (by rw [← hx2, ← sx1]; simp)
    have f1 : x3.frozen? ⟨w.heap.size + 1, 0, none⟩ = false := (b3.frozen (p := ⟨w.heap.size + 1, 0, none⟩) (by rw [sx2]; simp)).trans (by rw [← hx2, ← sx1]; simp)
    have c2 : x3.cell? ⟨w.heap.size + 1 + 1, 0, none⟩ = some (.slice (some ⟨w.heap.size + 1, 0, none⟩) 1 1) := by rw [← hx3, ← sx2]; simp
    rw [hx1, hx2, hx3]
    have HO := o_oneC (s := s) (cap := 1) (cap1 := 1) (by omega) (by omega) (by omega) (show w.heap.size + 1 + 1 < x3.heap.size by omega) (show w.heap.size + 1 < x3.heap.size by omega) c2 c1 f1
    exact bodyPost_ret (v := .agg #[.slice (some ⟨w.heap.size + 1 + 1, 0, none⟩) 1 1]) (by simp [results, Try.results111, go_sem, c0]) rfl ⟨_, rfl, _, by rw [HF.out]; exact HO, by simp, by intro b hb; simp at hb; omega, bjoin' b23 b1⟩
end Go.Proofs.Ytjpdgcodjnnljaa.Msg

namespace Go.Proofs.Ytjpdgcodjnnljaa.Msg
open Go.ChangeShapes Go.WideShapes Go.ChangeAt Go.RowKit
set_option linter.unusedVariables false
set_option linter.unusedSimpArgs false

theorem RBuf.above {α : Type} {O : World → Value → α → List Nat → Prop} (hkeep : ∀ w w' v x bs, O w v x bs → w.heap.size ≤ w'.heap.size → (∀ d ∈ bs, w'.heap[d]? = w.heap[d]?) → O w' v x bs)
    {P : Nat → Prop} {e : TypeId} {base : Nat} {w w' : World} {v : Value} {xs : List α} (h : RBuf O P e base w v xs) (hs : w.heap.size ≤ w'.heap.size) (hb : ∀ b, base ≤ b ∨ P b → w'.heap[b]? = w.heap[b]?) : RBuf O P e base w' v xs := by
  obtain ⟨vs, bss, h1, h2, h3, h5⟩ := h
  refine ⟨vs, bss, h1, h2, own_above h3 fun b hb' => hb b (.inl hb'), fun i hi g1 g2 => ?_⟩
  obtain ⟨k1, k2⟩ := h5 i hi g1 g2
  exact ⟨hkeep _ _ _ _ _ k1 hs fun d hd => hb d (.inr (k2 d hd).1), fun b hb' => ⟨(k2 b hb').1, Nat.lt_of_lt_of_le (k2 b hb').2.1 hs, (k2 b hb').2.2⟩⟩
theorem RBuf.low {α : Type} {O : World → Value → α → List Nat → Prop} {P : Nat → Prop} {e : TypeId} {base base' : Nat} {w : World} {v : Value} {xs : List α} (h : RBuf O P e base w v xs) (hb : base' ≤ base) : RBuf O P e base' w v xs := by
  obtain ⟨vs, bss, h1, h2, ⟨hl, h3⟩, h5⟩ := h
  refine ⟨vs, bss, h1, h2, ⟨hl, ?_⟩, h5⟩
  rcases h3 with h3 | ⟨g, cap, cur, e1, hg, rest⟩
  · exact .inl h3
  · exact .inr ⟨g, cap, cur, e1, by omega, rest⟩

set_option maxRecDepth 100000 in
set_option maxHeartbeats 2000000 in
theorem seg_any (name : ByteArray) (texts : List ByteArray) (v : Value) (w : World) {lo : Nat} (hv : StrsAt lo w v texts) (hl : texts.length ≤ 1000) (hz : ∀ t ∈ texts, t.size ≤ 1048576) :
    Calls Try.prog 81 #[.string name, v] w fun e w' => ∃ u, e = .returned (.agg #[.string name, u]) ∧ RBuf OReps (fun d => w.heap.size + 1 ≤ d) 114 (w.heap.size + 1) w' u (trimF (texts.map wordF)) ∧ Below w.heap.size w w' := by
  obtain ⟨i0, hi, hz0, hz1, hz2⟩ := info_facts info_Field
  obtain ⟨a, cap, rfl, hc⟩ := hv.form
  have HC : Hid (∀ i (hi : i < texts.length), ∃ b off, a = some ⟨b, off, none⟩ ∧ b < w.heap.size ∧ w.cell? ⟨b, off + i, none⟩ = some (.string texts[i])) := fun i hi => by
    obtain ⟨b, off, e, _, h2, h3⟩ := hc i hi
    exact ⟨b, off, e, h2, by simpa using h3.1⟩
  have HZ := hide hz
  have hb0 := (Below.refl w.heap.size w).alloc (Nat.le_refl _) (Obj.cells #[.string ⟨#[]⟩, .slice none 0 0] 111)
  clear hc hv hz
  go_enter Try.func81, Try.ntmps81
  go_wp2_with fail
  obtain ⟨W0, hW0⟩ : ∃ W0, w.alloc (Obj.cells #[.string ⟨#[]⟩, .slice none 0 0] 111) = W0 := ⟨_, rfl⟩
  have hs0 : W0.heap.size = w.heap.size + 1 := by rw [← hW0]; simp
  have HB0 : Hid (Below w.heap.size w W0) := by rw [← hW0]; exact (Below.refl _ _).alloc (Nat.le_refl _) _
  have HR0 : Hid (W0.cell? ⟨w.heap.size, 0, none⟩ = some (.string ⟨#[]⟩) ∧ W0.cell? ⟨w.heap.size, 1, none⟩ = some (.slice none 0 0) ∧ ∀ i, W0.frozen? ⟨w.heap.size, i, none⟩ = false) := by rw [← hW0]; exact ⟨by simp, by simp, fun i => by simp⟩
  rw [hW0]
  clear hW0 hb0
  go_loopg [5, 6] texts.length (fun n v5 i wr => ∃ k : Nat, k ≤ texts.length ∧ n = texts.length - k ∧ i = .int .i64 k ∧ LBuf RepsC 114 W0.heap.size wr v5 ((texts.take k).map wordF) ∧ Below W0.heap.size W0 wr)
  case atStart => exact ⟨0, Nat.zero_le _, by simp, rfl, by rw [← hs0]; simpa using LBuf.empty RepsC 114 W0.heap.size W0 (Nat.le_refl _), (Below.refl _ _).alloc (Nat.le_refl _) _⟩
  case round =>
    obtain ⟨k, hk, rfl, rfl, hL, hb⟩ := hrel
    obtain ⟨W1, rfl⟩ : ∃ x, x = wr := ⟨_, rfl⟩
    obtain ⟨V1, rfl⟩ : ∃ x, x = u5 := ⟨_, rfl⟩
    have HL := hide hL
    have HB := hide hb
    have hbs1 := hb.size
    clear hL hb
    by_cases hlt : k < texts.length
    · obtain ⟨b, off, rfl, hbl, hcell⟩ := HC.out k hlt
      have hc1 : W1.cell? ⟨b, off + k, none⟩ = some (.string texts[k]) := by rw [HB.out.cell (p := ⟨b, off + k, none⟩) (show b < W0.heap.size by omega), HB0.out.cell (p := ⟨b, off + k, none⟩) hbl]; exact hcell
      have hki : (k : Int) < (texts.length : Int) := by omega
      have htz := HZ.out texts[k] (List.getElem_mem hlt)
      clear hcell
      go_wp2_with fail
      refine (l3FC_any texts[k] _ htz).mono ?_
      rintro e W2 ⟨u2, rfl, bs2, hO2, hnd2, hfr2, hb2⟩
      obtain ⟨a2, cap2, rfl, hform⟩ := OAt.form hO2
      clear hform
      obtain ⟨vs, bss, hv1, hv2, hv3, hv4, hv5⟩ := HL.out
      have hbA : Below W1.heap.size W1 (W2.alloc (Obj.cells #[.slice a2 (wordF texts[k]).length cap2] 114)) := hb2.alloc hb2.size _
      have hOA := OAt.kept keptO_repC hO2 (w' := W2.alloc (Obj.cells #[.slice a2 (wordF texts[k]).length cap2] 114)) (by simp) (fun c hc => Deep.blk_alloc_lt _ _ _ (OAt.lt ltO_repC hO2 c hc))
      have hownA := own_below hv3 hbA
      have hvl : ((texts.take k).map wordF).length = k := by rw [List.length_map, List.length_take]; omega
      have HVL := hide hvl
      have HV3 := hide hv3
      have HBA := hide hbA
      have HOA := hide hOA
      have HND := hide hnd2
      have HFR := hide hfr2
      have hbs2 := hb2.size
      rw [hvl] at hownA
      generalize hM : (wordF texts[k]).length = M at *
      clear hv1 hv2 hv3 hv4 hv5 hbA hOA hnd2 hfr2 hO2 hb2 hc1 hvl
      go_wp2_with (first
        | (at_builtin; refine wpList_append_own_at _ rfl _ _ 109 rfl W0.heap.size 114 i0 (.agg #[.slice none 0 0]) 1 24 Try.underlying109 hi hz0 hz1 hz2 rfl (by decide) _ _ _ rfl hownA ⟨W2.heap.size, 0, none⟩ 1 1 [.slice a2 M cap2] rfl rfl (new_cell _ _ _) (one_slice _ _ _) (by unfold maxLen; omega) (by omega) (by rw [Deep.nblk_alloc]; omega) ?_)
        | fail)
      intro v' w6 hown' hgrow hnil hat
      rw [← hs0] at hown'
      have HPU := hide (LBuf.push (O := RepsC) (fun _ _ _ _ _ h s d => OAt.kept keptO_repC h s d) (fun _ _ _ _ h => OAt.lt ltO_repC h) HL.out hbs1 HBA.out HOA.out HFR.out HND.out HV3.out HVL.out.symm hown' hgrow (by simpa using hat))
      have HBW6 : Hid (Below W0.heap.size W0 w6) := (HB.out.trans (HBA.out.mono hbs1)).grown hgrow (by simp; omega) (fun b hb' => (own_lt hownA hb').1)
      have HSN : Hid ((texts.take k).map wordF ++ [wordF texts[k]] = (texts.take (k + 1)).map wordF) := by rw [List.take_succ_eq_append_getElem hlt, List.map_append]; rfl
      clear hown' hgrow hnil hat hownA
      go_wp2_with fail
      go_roundg (texts.length - (k + 1))
      case measure => omega
      case rel => exact ⟨k + 1, by omega, rfl, by go_num, by rw [← HSN.out]; exact HPU.out, HBW6.out⟩
    · obtain rfl : k = texts.length := by omega
      have hL := HL.out
      rw [List.take_length] at hL
      have hln : (texts.map wordF).length = texts.length := List.length_map _
      obtain ⟨a4, cap4, rfl, _, _, bs4, hO4, hnd4, hfr4⟩ := LBuf.take (R := FieldC) (fun w b off x bs v h1 h2 => ⟨v, h1, h2⟩) hL (by rw [hln]; omega) (n := texts.length) (by rw [hln]; exact Nat.le_refl _)
      rw [← hln, List.take_length] at hO4
      rw [hln] at hO4 ⊢
      have hO5 : FieldsC W1 (.slice a4 texts.length cap4) (texts.map wordF) bs4 := hO4
      clear hL hO4
      go_wp2_with fail
      refine (trim_any (fun d => w.heap.size + 1 ≤ d) (texts.map wordF) _ bs4 _ (fun d hd => by have := hfr4 d hd; omega) (fun d hd => by omega) (by rw [hln]; omega) (fun f hf => by
        rw [List.mem_map] at hf
        obtain ⟨x, _, rfl⟩ := hf
        have : (wordF x).length ≤ 1 := by unfold wordF; split <;> simp
        omega) hO5).mono ?_
      rintro e W2 ⟨u2, rfl, hR, hb2⟩
      have hbs2 := hb2.size
      have hb02 : Below W0.heap.size W0 W2 := HB.out.trans (hb2.mono hbs1)
      have c0 : W2.cell? ⟨w.heap.size, 0, none⟩ = some (.string ⟨#[]⟩) := by rw [hb02.cell (p := ⟨w.heap.size, 0, none⟩) (by simp; omega)]; exact HR0.out.1
      have c1 : W2.cell? ⟨w.heap.size, 1, none⟩ = some (.slice none 0 0) := by rw [hb02.cell (p := ⟨w.heap.size, 1, none⟩) (by simp; omega)]; exact HR0.out.2.1
      have f0 : ∀ i, W2.frozen? ⟨w.heap.size, i, none⟩ = false := fun i => by rw [hb02.frozen (p := ⟨w.heap.size, i, none⟩) (by simp; omega)]; exact HR0.out.2.2 i
      have hwb : w.heap.size < W2.heap.size := by omega
      have HB02 := hide (HB0.out.trans (hb02.mono (by omega)))
      have HR := hide hR
      clear hR hb2 hb02 hO5
      obtain ⟨a5, cap5, n5, hu5⟩ : ∃ a5 cap5 n5, u2 = .slice a5 n5 cap5 := by
        obtain ⟨vs, bss, _, _, ⟨_, h3⟩, _⟩ := HR.out
        rcases h3 with ⟨e, _⟩ | ⟨g, cap, cur, e, _⟩
        · exact ⟨_, _, _, e⟩
        · exact ⟨_, _, _, e⟩
      subst hu5
      go_wp2_with fail
      refine bodyPost_ret (v := .agg #[.string name, .slice a5 n5 cap5]) (by simp [results, Try.results81, go_sem, c0, c1, hwb]) rfl ⟨_, rfl, ?_, ?_⟩
      · refine RBuf.above (O := OReps) (base := w.heap.size + 1) (fun _ _ _ _ _ h s d => OAt.kept keptO_rep h s d) (HR.out.low (by omega)) ?_ ?_
        · rw [Deep.nblk_setCell, Deep.nblk_setCell]; exact Nat.le_refl _
        · intro b hb
          have hb' : w.heap.size + 1 ≤ b := by rcases hb with hb | hb <;> exact hb
          rw [Deep.blk_setCell_other, Deep.blk_setCell_other] <;> (simp; omega)
      · exact (HB02.out.setCell (by simp) _).setCell (by simp) _
end Go.Proofs.Ytjpdgcodjnnljaa.Msg
