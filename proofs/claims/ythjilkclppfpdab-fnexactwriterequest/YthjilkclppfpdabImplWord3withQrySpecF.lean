import Derived.Test.YthjilkclppfpdabImplShort3withImplNew
import Derived.Test.YthjilkclppfpdabMarkMsgwithListBuf
import Derived.Deep.RegionHeld3
import Derived.Test.YthjilkclppfpdabParseListswithTrimBuf
namespace Go.Proofs.Ythjilkclppfpdab.Msg
open Go.ChangeShapes Go.WideShapes Go.ChangeAt Go.RowKit
set_option linter.unusedVariables false
set_option linter.unusedSimpArgs false

/-- a field with one component, empty if the text is -/
def wordF (s : ByteArray) : Field := if s.size = 0 then [] else [[s]]
theorem isE {s : ByteArray} : s.data.toList.isEmpty = decide (s.size = 0) := by
  cases h : s.data.toList with
  | nil =>
    have : s.size = 0 := by show s.data.size = 0; rw [← Array.length_toList, h]; rfl
    simp [this]
  | cons a r =>
    have : s.size ≠ 0 := by show s.data.size ≠ 0; rw [← Array.length_toList, h]; simp
    simp [this]

theorem lt_of_cell2 {w : World} {b o : Nat} {v : Value} (h : w.cell? ⟨b, o, none⟩ = some v) : b < w.heap.size := by
  rcases Nat.lt_or_ge b w.heap.size with h' | h'
  · exact h'
  · simp [World.cell?, Array.getElem?_eq_none h'] at h
theorem lens1 {β : Type} (a : Option Addr) (x : List β) (c : Nat) : Lens [Value.slice a x.length c] [x] := ⟨rfl, fun k h1 h2 => ⟨a, c, by
  obtain rfl : k = 0 := by simp at h1; omega
  rfl⟩⟩
theorem o_nil (w : World) (a : Option Addr) (c : Nat) : OReps w (.slice a 0 c) [] [] := ⟨by simp, .inl ⟨a, c, rfl, rfl, rfl⟩⟩
/-- one repetition of one component, out of its two rows -/
theorem o_one {w : World} {s : ByteArray} {g g1 cap cap1 : Nat} (hs : s.size ≤ 9223372036854775807) (hg : g < w.heap.size) (hg1 : g1 < w.heap.size) (h0 : w.cell? ⟨g, 0, none⟩ = some (.slice (some ⟨g1, 0, none⟩) 1 cap1)) (h1 : w.cell? ⟨g1, 0, none⟩ = some (.string s)) (h2 : w.frozen? ⟨g1, 0, none⟩ = false) :
    OReps w (.slice (some ⟨g, 0, none⟩) 1 cap) [[s]] [g, g1] := by
  refine ⟨by simp, .inr ⟨g, 0, cap, [[g1]], rfl, hg, rfl, rfl, fun i h h' => ?_⟩⟩
  obtain rfl : i = 0 := by simp at h; omega
  refine ⟨_, h0, by simp, .inr ⟨g1, 0, cap1, [[]], rfl, hg1, rfl, rfl, fun k hk hk' => ?_⟩⟩
  obtain rfl : k = 0 := by simp at hk; omega
  exact ⟨h1, h2, hs, rfl⟩

set_option maxHeartbeats 2000000 in
theorem newWord_any (s : ByteArray) (w : World) (hs : s.size ≤ 1048576) :
    Calls Try.prog 166 #[.string s] w fun e w' => ∃ u, e = .returned (.agg #[u]) ∧ ∃ bs, OReps w' u (wordF s) bs ∧ bs.Nodup ∧ (∀ b ∈ bs, w.heap.size ≤ b) ∧ Below w.heap.size w w' := by
  have hb0 := (Below.refl w.heap.size w).alloc (Nat.le_refl _) (Obj.cells #[.slice none 0 0] 90)
  have hb1 := hb0.alloc hb0.size (Obj.cells #[.string s] 9)
  obtain ⟨w1, hw1⟩ : ∃ w1, (w.alloc (Obj.cells #[.slice none 0 0] 90)).alloc (Obj.cells #[.string s] 9) = w1 := ⟨_, rfl⟩
  have hsb : SBuf (w.heap.size + 1) w1 (.slice (some ⟨w.heap.size + 1, 0, none⟩) 1 1) ([s.data.toList].map txt) := by
    unfold SBuf
    rw [← hw1]
    have h := World.ownsRow_lit (base := w.heap.size + 1) (e := 9) (size := 1) (w.alloc (Obj.cells #[.slice none 0 0] 90)) #[.string s] 1 (by simp) (by unfold maxLen; omega) rfl
    simpa [txt_of] using h
  have hbx : w1.cell? ⟨w.heap.size, 0, none⟩ = some (.slice none 0 0) := by rw [← hw1, World.cell?_alloc_lt _ _ ⟨w.heap.size, 0, none⟩ (by simp)]; simp
  have hfx : w1.frozen? ⟨w.heap.size, 0, none⟩ = false := by rw [← hw1, World.frozen?_alloc_old _ _ ⟨w.heap.size, 0, none⟩ (by simp)]; simp
  have hlx := lt_of_cell2 hbx
  rw [hw1] at hb1
  have HSB := hide hsb
  have HB1 := hide hb1
  clear hsb hb0 hb1
  have HT : Hid (trimE List.isEmpty [s.data.toList] = if s.size = 0 then [] else [s.data.toList]) := by
    unfold trimE keepN
    rw [show keepN List.isEmpty ([] : List (List UInt8)) = 0 from rfl]
    simp only
    rw [isE]
    by_cases h : s.size = 0
    · rw [if_pos h, decide_eq_true h]; rfl
    · rw [if_neg h, decide_eq_false h]; rfl
  by_cases h0 : s.size = 0
  · have HT0 : Hid (trimE List.isEmpty [s.data.toList] = []) := by rw [HT.out, if_pos h0]; trivial
    have HF : Hid (wordF s = []) := by unfold wordF; rw [if_pos h0]; trivial
    go_enter Try.func166, Try.ntmps166
    go_wp2_with fail
    refine (newRep_any [s.data.toList] _ _ _ HSB.out (by simp) (by simp) (by intro p hp; simp at hp; subst hp; simp; exact hs)).mono ?_
    rintro e w2 ⟨u1, rfl, hu1, hb2⟩
    rw [HT0.out] at hu1
    obtain ⟨a, cap, rfl⟩ := own_form hu1
    have hbx2 : w2.cell? ⟨w.heap.size, 0, none⟩ = some (.slice none 0 0) := (hb2.cell (p := ⟨w.heap.size, 0, none⟩) hlx).trans hbx
    have hfx2 : w2.frozen? ⟨w.heap.size, 0, none⟩ = false := (hb2.frozen (p := ⟨w.heap.size, 0, none⟩) hlx).trans hfx
    have HB2 := hide (bjoin hb2 HB1.out)
    have hlx2 : w.heap.size < w2.heap.size := by have := hb2.size; omega
    clear hu1 hb2
    have HB3 := hide (HB2.out.alloc HB2.out.size (Obj.cells #[.slice a 0 cap] 92))
    have HL : Hid ((w2.alloc (Obj.cells #[.slice a 0 cap] 92)).ownsRow w2.heap.size 92 1 (.slice (some ⟨w2.heap.size, 0, none⟩) 1 1) [Value.slice a 0 cap].length [.slice a 0 cap]) := by
      have h := World.ownsRow_lit (base := w2.heap.size) (e := 92) (size := 1) w2 #[.slice a 0 cap] 1 (Nat.le_refl _) (by unfold maxLen; omega) rfl
      exact h
    have hbxa : (w2.alloc (Obj.cells #[.slice a 0 cap] 92)).cell? ⟨w.heap.size, 0, none⟩ = some (.slice none 0 0) := (World.cell?_alloc_lt _ _ ⟨w.heap.size, 0, none⟩ hlx2).trans hbx2
    have hfxa : (w2.alloc (Obj.cells #[.slice a 0 cap] 92)).frozen? ⟨w.heap.size, 0, none⟩ = false := (World.frozen?_alloc_old _ _ ⟨w.heap.size, 0, none⟩ (Nat.ne_of_lt hlx2)).trans hfx2
    go_wp2_with fail
    refine (newField_any (β := UInt8) [[]] [.slice a 0 cap] _ _ _ HL.out (lens1 a [] cap) (by simp) (by simp) (by intro x hx; simp at hx; subst hx; simp)).mono ?_
    rintro e w3 ⟨u2, rfl, hu2, hb3⟩
    obtain ⟨a2, c2, rfl⟩ := own_form hu2
    have e0 : keepN List.isEmpty ([[]] : List (List UInt8)) = 0 := rfl
    rw [e0]
    have hlxa : w.heap.size < (w2.alloc (Obj.cells #[.slice a 0 cap] 92)).heap.size := by simp; omega
    have hbx3 : w3.cell? ⟨w.heap.size, 0, none⟩ = some (.slice none 0 0) := (hb3.cell (p := ⟨w.heap.size, 0, none⟩) hlxa).trans hbxa
    have hfx3 : w3.frozen? ⟨w.heap.size, 0, none⟩ = false := (hb3.frozen (p := ⟨w.heap.size, 0, none⟩) hlxa).trans hfxa
    have hlx3 : w.heap.size < w3.heap.size := by have := hb3.size; omega
    have HBW := hide ((bjoin hb3 HB3.out).setCell (p := ⟨w.heap.size, 0, none⟩) (Nat.le_refl _) (.slice a2 0 c2))
    clear hb3 hu2
    go_wp2_with fail
    exact bodyPost_ret (v := .agg #[.slice a2 0 c2]) (by simp [results, Try.results166, go_sem, hbx3, hfx3, hlx3]) rfl ⟨_, rfl, [], by rw [HF.out]; exact o_nil _ _ _, by simp, by simp, HBW.out⟩
  · have HT0 : Hid (trimE List.isEmpty [s.data.toList] = [s.data.toList]) := by rw [HT.out, if_neg h0]; trivial
    have HF : Hid (wordF s = [[s]]) := by unfold wordF; rw [if_neg h0]; trivial
    go_enter Try.func166, Try.ntmps166
    go_wp2_with fail
    refine (newRep_any [s.data.toList] _ _ _ HSB.out (by simp) (by simp) (by intro p hp; simp at hp; subst hp; simp; exact hs)).mono ?_
    rintro e w2 ⟨u1, rfl, hu1, hb2⟩
    rw [HT0.out] at hu1
    have hu1' : w2.ownsRow w1.heap.size 9 1 u1 [Value.string s].length [.string s] := by
      have := hu1
      unfold SBuf at this
      simpa [txt_of] using this
    obtain ⟨h, _⟩ | ⟨g1, cap1, rfl, hg1, hl1, hc1⟩ := own_cells hu1'
    · cases h
    have hcs : w2.cell? ⟨g1, 0, none⟩ = some (.string s) ∧ w2.frozen? ⟨g1, 0, none⟩ = false := hc1 0 (by simp)
    have hbx2 : w2.cell? ⟨w.heap.size, 0, none⟩ = some (.slice none 0 0) := (hb2.cell (p := ⟨w.heap.size, 0, none⟩) hlx).trans hbx
    have hfx2 : w2.frozen? ⟨w.heap.size, 0, none⟩ = false := (hb2.frozen (p := ⟨w.heap.size, 0, none⟩) hlx).trans hfx
    have HB2 := hide (bjoin hb2 HB1.out)
    have hlx2 : w.heap.size < w2.heap.size := by have := hb2.size; omega
    have HCS := hide hcs
    have HG1 : Hid (w.heap.size < g1 ∧ g1 < w2.heap.size) := ⟨by omega, hl1⟩
    clear hu1 hu1' hb2 hc1 hcs
    have HB3 := hide (HB2.out.alloc HB2.out.size (Obj.cells #[.slice (some ⟨g1, 0, none⟩) 1 cap1] 92))
    have HL : Hid ((w2.alloc (Obj.cells #[.slice (some ⟨g1, 0, none⟩) 1 cap1] 92)).ownsRow w2.heap.size 92 1 (.slice (some ⟨w2.heap.size, 0, none⟩) 1 1) [Value.slice (some ⟨g1, 0, none⟩) 1 cap1].length [.slice (some ⟨g1, 0, none⟩) 1 cap1]) := by
      have h := World.ownsRow_lit (base := w2.heap.size) (e := 92) (size := 1) w2 #[.slice (some ⟨g1, 0, none⟩) 1 cap1] 1 (Nat.le_refl _) (by unfold maxLen; omega) rfl
      exact h
    have hbxa : (w2.alloc (Obj.cells #[.slice (some ⟨g1, 0, none⟩) 1 cap1] 92)).cell? ⟨w.heap.size, 0, none⟩ = some (.slice none 0 0) := (World.cell?_alloc_lt _ _ ⟨w.heap.size, 0, none⟩ hlx2).trans hbx2
    have hfxa : (w2.alloc (Obj.cells #[.slice (some ⟨g1, 0, none⟩) 1 cap1] 92)).frozen? ⟨w.heap.size, 0, none⟩ = false := (World.frozen?_alloc_old _ _ ⟨w.heap.size, 0, none⟩ (Nat.ne_of_lt hlx2)).trans hfx2
    have HCA : Hid ((w2.alloc (Obj.cells #[.slice (some ⟨g1, 0, none⟩) 1 cap1] 92)).cell? ⟨g1, 0, none⟩ = some (.string s) ∧ (w2.alloc (Obj.cells #[.slice (some ⟨g1, 0, none⟩) 1 cap1] 92)).frozen? ⟨g1, 0, none⟩ = false) :=
      ⟨(World.cell?_alloc_lt _ _ ⟨g1, 0, none⟩ HG1.out.2).trans HCS.out.1, (World.frozen?_alloc_old _ _ ⟨g1, 0, none⟩ (Nat.ne_of_lt HG1.out.2)).trans HCS.out.2⟩
    go_wp2_with fail
    refine (newField_any (β := List UInt8) [[s.data.toList]] [.slice (some ⟨g1, 0, none⟩) 1 cap1] _ _ _ HL.out (lens1 (some ⟨g1, 0, none⟩) [s.data.toList] cap1) (by simp) (by simp) (by intro x hx; simp at hx; subst hx; simp)).mono ?_
    rintro e w3 ⟨u2, rfl, hu2, hb3⟩
    have e0 : keepN List.isEmpty ([[s.data.toList]] : List (List (List UInt8))) = 1 := rfl
    have hu2' : w3.ownsRow (w2.alloc (Obj.cells #[.slice (some ⟨g1, 0, none⟩) 1 cap1] 92)).heap.size 92 1 u2 [Value.slice (some ⟨g1, 0, none⟩) 1 cap1].length [.slice (some ⟨g1, 0, none⟩) 1 cap1] := by
      rw [e0] at hu2
      exact hu2
    obtain ⟨h, _⟩ | ⟨g, c2, rfl, hg, hl2, hc2⟩ := own_cells hu2'
    · cases h
    have hlxa : w.heap.size < (w2.alloc (Obj.cells #[.slice (some ⟨g1, 0, none⟩) 1 cap1] 92)).heap.size := by simp; omega
    have hga : g1 < (w2.alloc (Obj.cells #[.slice (some ⟨g1, 0, none⟩) 1 cap1] 92)).heap.size := by have := HG1.out.2; simp; omega
    have hg2 : w2.heap.size + 1 ≤ g := by simpa using hg
    have hbx3 : w3.cell? ⟨w.heap.size, 0, none⟩ = some (.slice none 0 0) := (hb3.cell (p := ⟨w.heap.size, 0, none⟩) hlxa).trans hbxa
    have hfx3 : w3.frozen? ⟨w.heap.size, 0, none⟩ = false := (hb3.frozen (p := ⟨w.heap.size, 0, none⟩) hlxa).trans hfxa
    have hlx3 : w.heap.size < w3.heap.size := by have := hb3.size; omega
    have HBW := hide ((bjoin hb3 HB3.out).setCell (p := ⟨w.heap.size, 0, none⟩) (Nat.le_refl _) (.slice (some ⟨g, 0, none⟩) 1 c2))
    have HO : Hid (OReps (w3.setCell ⟨w.heap.size, 0, none⟩ (.slice (some ⟨g, 0, none⟩) 1 c2)) (.slice (some ⟨g, 0, none⟩) 1 c2) [[s]] [g, g1]) := by
      have n1 : (⟨w.heap.size, 0, none⟩ : Addr).block ≠ (⟨g, 0, none⟩ : Addr).block := by simp; omega
      have n2 : (⟨w.heap.size, 0, none⟩ : Addr).block ≠ (⟨g1, 0, none⟩ : Addr).block := by have h := HG1.out.1; show w.heap.size ≠ g1; omega
      have c1 : w3.cell? ⟨g, 0, none⟩ = some (.slice (some ⟨g1, 0, none⟩) 1 cap1) := (hc2 0 (by simp)).1
      have d1 : w3.cell? ⟨g1, 0, none⟩ = some (.string s) := (hb3.cell (p := ⟨g1, 0, none⟩) hga).trans HCA.out.1
      have d2 : w3.frozen? ⟨g1, 0, none⟩ = false := (hb3.frozen (p := ⟨g1, 0, none⟩) hga).trans HCA.out.2
      have z3 := hb3.size
      refine o_one (by omega) (by rw [Deep.nblk_setCell]; exact hl2) (by rw [Deep.nblk_setCell]; exact Nat.lt_of_lt_of_le hga z3) ((World.cell?_setCell_far _ _ _ _ n1).trans c1) ((World.cell?_setCell_far _ _ _ _ n2).trans d1) ?_
      rw [frozenSame (Deep.blk_setCell_other _ _ _ _ (by have := HG1.out.1; simp; omega))]
      exact d2
    have HND := hide (show [g, g1].Nodup by
      have h := HG1.out.2
      have h' : g ≠ g1 := by omega
      simp [h'])
    have HFR := hide (show ∀ b ∈ [g, g1], w.heap.size ≤ b by
      have h := HG1.out.1
      intro b hb
      simp at hb
      omega)
    clear hb3 hu2 hu2' hc2 e0
    go_wp2_with fail
    exact bodyPost_ret (v := .agg #[.slice (some ⟨g, 0, none⟩) 1 c2]) (by simp [results, Try.results166, go_sem, hbx3, hfx3, hlx3]) rfl ⟨_, rfl, [g, g1], by rw [HF.out]; exact HO.out, HND.out, HFR.out, HBW.out⟩
end Go.Proofs.Ythjilkclppfpdab.Msg

namespace Go.Proofs.Ythjilkclppfpdab.Msg
open Go.ChangeShapes Go.WideShapes Go.ChangeAt Go.RowKit
set_option linter.unusedVariables false
set_option linter.unusedSimpArgs false

set_option maxHeartbeats 1000000 in
theorem l3F_any (s : ByteArray) (w : World) (hs : s.size ≤ 1048576) :
    Calls Try.prog 89 #[.string s] w fun e w' => ∃ u, e = .returned (.agg #[u]) ∧ ∃ bs, OReps w' u (wordF s) bs ∧ bs.Nodup ∧ (∀ b ∈ bs, w.heap.size ≤ b) ∧ Below w.heap.size w w' := by
  by_cases h0 : s.size = 0
  · have HF : Hid (wordF s = []) := by unfold wordF; rw [if_pos h0]; trivial
    have h1 : ((s.size : Int) == 0) = true := by rw [h0]; rfl
    clear h0
    go_enter Try.func89, Try.ntmps89
    go_wp2_with fail
    exact bodyPost_ret (v := .agg #[.slice none 0 0]) (by simp [results, Try.results89, go_sem]) rfl ⟨_, rfl, [], by rw [HF.out]; exact o_nil _ _ _, by simp, by simp, (Below.refl _ _).alloc (Nat.le_refl _) _⟩
  · have HF : Hid (wordF s = [[s]]) := by unfold wordF; rw [if_neg h0]; trivial
    have h1 : ((s.size : Int) == 0) = false := by rw [beq_eq_false_iff_ne]; omega
    go_enter Try.func89, Try.ntmps89
    go_wp2_with fail
    obtain ⟨x1, hx1⟩ : ∃ x1, w.alloc (Obj.cells #[.slice (some ⟨w.heap.size + 1 + 1, 0, none⟩) 1 1] 90) = x1 := ⟨_, rfl⟩
    obtain ⟨x2, hx2⟩ : ∃ x2, x1.alloc (Obj.cells #[.string s] 9) = x2 := ⟨_, rfl⟩
    obtain ⟨x3, hx3⟩ : ∃ x3, x2.alloc (Obj.cells #[.slice (some ⟨w.heap.size + 1, 0, none⟩) 1 1] 92) = x3 := ⟨_, rfl⟩
    have sx1 : x1.heap.size = w.heap.size + 1 := by rw [← hx1]; simp
    have sx2 : x2.heap.size = w.heap.size + 1 + 1 := by rw [← hx2]; simp [sx1]
    have sx3 : x3.heap.size = w.heap.size + 1 + 1 + 1 := by rw [← hx3]; simp [sx2]
    have b1 : Below w.heap.size w x1 := by rw [← hx1]; exact (Below.refl _ _).alloc (Nat.le_refl _) _
    have b2 : Below x1.heap.size x1 x2 := by rw [← hx2]; exact (Below.refl _ _).alloc (Nat.le_refl _) _
    have b3 : Below x2.heap.size x2 x3 := by rw [← hx3]; exact (Below.refl _ _).alloc (Nat.le_refl _) _
    have b23 := bjoin' b3 b2
    have c0 : x3.cell? ⟨w.heap.size, 0, none⟩ = some (.slice (some ⟨w.heap.size + 1 + 1, 0, none⟩) 1 1) := (b23.cell (p := ⟨w.heap.size, 0, none⟩) (by rw [sx1]; simp)).trans (by rw [← hx1]; simp)
    have c1 : x3.cell? ⟨w.heap.size + 1, 0, none⟩ = some (.string s) := (b3.cell (p := ⟨w.heap.size + 1, 0, none⟩) (by rw [sx2]; simp)).trans (by rw [← hx2, ← sx1]; simp)
    have f1 : x3.frozen? ⟨w.heap.size + 1, 0, none⟩ = false := (b3.frozen (p := ⟨w.heap.size + 1, 0, none⟩) (by rw [sx2]; simp)).trans (by rw [← hx2, ← sx1]; simp)
    have c2 : x3.cell? ⟨w.heap.size + 1 + 1, 0, none⟩ = some (.slice (some ⟨w.heap.size + 1, 0, none⟩) 1 1) := by rw [← hx3, ← sx2]; simp
    rw [hx1, hx2, hx3]
    have HO := o_one (s := s) (cap := 1) (by omega) (show w.heap.size + 1 + 1 < x3.heap.size by omega) (show w.heap.size + 1 < x3.heap.size by omega) c2 c1 f1
    exact bodyPost_ret (v := .agg #[.slice (some ⟨w.heap.size + 1 + 1, 0, none⟩) 1 1]) (by simp [results, Try.results89, go_sem, c0]) rfl ⟨_, rfl, _, by rw [HF.out]; exact HO, by simp, by intro b hb; simp at hb; omega, bjoin' b23 b1⟩
theorem o_oneC {w : World} {s : ByteArray} {g g1 cap cap1 : Nat} (hc : 1 ≤ cap1) (hc1 : cap1 ≤ 9223372036854775807) (hs : s.size ≤ 9223372036854775807) (hg : g < w.heap.size) (hg1 : g1 < w.heap.size) (h0 : w.cell? ⟨g, 0, none⟩ = some (.slice (some ⟨g1, 0, none⟩) 1 cap1)) (h1 : w.cell? ⟨g1, 0, none⟩ = some (.string s)) (h2 : w.frozen? ⟨g1, 0, none⟩ = false) :
    RepsC w (.slice (some ⟨g, 0, none⟩) 1 cap) [[s]] [g, g1] := by
  refine ⟨by simp, .inr ⟨g, 0, cap, [[g1]], rfl, hg, rfl, rfl, fun i h h' => ?_⟩⟩
  obtain rfl : i = 0 := by simp at h; omega
  refine ⟨_, h0, ⟨by simp, .inr ⟨g1, 0, cap1, [[]], rfl, hg1, rfl, rfl, fun k hk hk' => ?_⟩⟩, _, _, rfl, by simpa using hc, hc1⟩
  obtain rfl : k = 0 := by simp at hk; omega
  exact ⟨h1, h2, hs, rfl⟩

set_option maxHeartbeats 1000000 in
theorem l3FC_any (s : ByteArray) (w : World) (hs : s.size ≤ 1048576) :
    Calls Try.prog 89 #[.string s] w fun e w' => ∃ u, e = .returned (.agg #[u]) ∧ ∃ bs, RepsC w' u (wordF s) bs ∧ bs.Nodup ∧ (∀ b ∈ bs, w.heap.size ≤ b) ∧ Below w.heap.size w w' := by
  by_cases h0 : s.size = 0
  · have HF : Hid (wordF s = []) := by unfold wordF; rw [if_pos h0]; trivial
    have h1 : ((s.size : Int) == 0) = true := by rw [h0]; rfl
    clear h0
    go_enter Try.func89, Try.ntmps89
    go_wp2_with fail
    exact bodyPost_ret (v := .agg #[.slice none 0 0]) (by simp [results, Try.results89, go_sem]) rfl ⟨_, rfl, [], by rw [HF.out]; exact ⟨by simp, .inl ⟨_, _, rfl, rfl, rfl⟩⟩, by simp, by simp, (Below.refl _ _).alloc (Nat.le_refl _) _⟩
  · have HF : Hid (wordF s = [[s]]) := by unfold wordF; rw [if_neg h0]; trivial
    have h1 : ((s.size : Int) == 0) = false := by rw [beq_eq_false_iff_ne]; omega
    go_enter Try.func89, Try.ntmps89
    go_wp2_with fail
    obtain ⟨x1, hx1⟩ : ∃ x1, w.alloc (Obj.cells #[.slice (some ⟨w.heap.size + 1 + 1, 0, none⟩) 1 1] 90) = x1 := ⟨_, rfl⟩
    obtain ⟨x2, hx2⟩ : ∃ x2, x1.alloc (Obj.cells #[.string s] 9) = x2 := ⟨_, rfl⟩
    obtain ⟨x3, hx3⟩ : ∃ x3, x2.alloc (Obj.cells #[.slice (some ⟨w.heap.size + 1, 0, none⟩) 1 1] 92) = x3 := ⟨_, rfl⟩
    have sx1 : x1.heap.size = w.heap.size + 1 := by rw [← hx1]; simp
    have sx2 : x2.heap.size = w.heap.size + 1 + 1 := by rw [← hx2]; simp [sx1]
    have sx3 : x3.heap.size = w.heap.size + 1 + 1 + 1 := by rw [← hx3]; simp [sx2]
    have b1 : Below w.heap.size w x1 := by rw [← hx1]; exact (Below.refl _ _).alloc (Nat.le_refl _) _
    have b2 : Below x1.heap.size x1 x2 := by rw [← hx2]; exact (Below.refl _ _).alloc (Nat.le_refl _) _
    have b3 : Below x2.heap.size x2 x3 := by rw [← hx3]; exact (Below.refl _ _).alloc (Nat.le_refl _) _
    have b23 := bjoin' b3 b2
    have c0 : x3.cell? ⟨w.heap.size, 0, none⟩ = some (.slice (some ⟨w.heap.size + 1 + 1, 0, none⟩) 1 1) := (b23.cell (p := ⟨w.heap.size, 0, none⟩) (by rw [sx1]; simp)).trans (by rw [← hx1]; simp)
    have c1 : x3.cell? ⟨w.heap.size + 1, 0, none⟩ = some (.string s) := (b3.cell (p := ⟨w.heap.size + 1, 0, none⟩) (by rw [sx2]; simp)).trans (by rw [← hx2, ← sx1]; simp)
    have f1 : x3.frozen? ⟨w.heap.size + 1, 0, none⟩ = false := (b3.frozen (p := ⟨w.heap.size + 1, 0, none⟩) (by rw [sx2]; simp)).trans (by rw [← hx2, ← sx1]; simp)
    have c2 : x3.cell? ⟨w.heap.size + 1 + 1, 0, none⟩ = some (.slice (some ⟨w.heap.size + 1, 0, none⟩) 1 1) := by rw [← hx3, ← sx2]; simp
    rw [hx1, hx2, hx3]
    have HO := o_oneC (s := s) (cap := 1) (cap1 := 1) (by omega) (by omega) (by omega) (show w.heap.size + 1 + 1 < x3.heap.size by omega) (show w.heap.size + 1 < x3.heap.size by omega) c2 c1 f1
    exact bodyPost_ret (v := .agg #[.slice (some ⟨w.heap.size + 1 + 1, 0, none⟩) 1 1]) (by simp [results, Try.results89, go_sem, c0]) rfl ⟨_, rfl, _, by rw [HF.out]; exact HO, by simp, by intro b hb; simp at hb; omega, bjoin' b23 b1⟩
end Go.Proofs.Ythjilkclppfpdab.Msg
