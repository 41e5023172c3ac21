import Derived.Test.YtjpdgcodjnnljaaImplShort2withImplShort3
import Derived.Test.YtjpdgcodjnnljaaParseUnescwithSegBuf
import Derived.Test.YtjpdgcodjnnljaaMarkMsgwithListBuf
import Derived.Deep.RegionHeld3
namespace Go.Proofs.Ytjpdgcodjnnljaa.Msg
open Go.ChangeShapes Go.WideShapes Go.ChangeAt Go.RowKit
set_option linter.unusedVariables false
set_option linter.unusedSimpArgs false

theorem own_mono {base base' : Nat} {e : TypeId} {sz : Nat} {w : World} {v : Value} {n : Nat} {vs : List Value} (h : w.ownsRow base e sz v n vs) (hb : base' ≤ base) : w.ownsRow base' e sz v n vs := by
  obtain ⟨hl, h | ⟨g, cap, cur, e1, hg, rest⟩⟩ := h
  · exact ⟨hl, .inl h⟩
  · exact ⟨hl, .inr ⟨g, cap, cur, e1, Nat.le_trans hb hg, rest⟩⟩

set_option maxHeartbeats 1000000 in
theorem newRep_any (ps : List (List UInt8)) (base : Nat) (v : Value) (w : World) (hv : SBuf base w v (ps.map txt)) (hp : 0 < ps.length) (hl : ps.length ≤ 40001) (hz : ∀ p ∈ ps, p.length ≤ 1048576) :
    Calls Try.prog 185 #[v] w fun e w' => ∃ u, e = .returned (.agg #[u]) ∧ SBuf w.heap.size w' u ((trimE List.isEmpty ps).map txt) ∧ Below w.heap.size w w' := by
  have hb0 := (Below.refl w.heap.size w).alloc (Nat.le_refl _) (Obj.cells #[.slice none 0 0] 116)
  have hv1 := own_below hv hb0
  have HB0 := hide hb0
  clear hb0 hv
  go_enter Try.func185, Try.ntmps185
  go_wp2_with fail
  refine (cutS_any ps base _ _ hv1 hp hl hz).mono ?_
  rintro e w2 ⟨u, rfl, hu, hb2⟩
  obtain ⟨a, cap, rfl⟩ := own_form hu
  have hs2 : w.heap.size < w2.heap.size := by have := hb2.size; simp at this; omega
  have hc2 : w2.cell? ⟨w.heap.size, 0, none⟩ = some (.slice none 0 0) := by rw [hb2.cell (p := ⟨w.heap.size, 0, none⟩) (by simp)]; simp
  have hf2 : w2.frozen? ⟨w.heap.size, 0, none⟩ = false := by rw [hb2.frozen (p := ⟨w.heap.size, 0, none⟩) (by simp)]; simp
  have hu1 : w2.ownsRow (w.heap.size + 1) 9 1 (.slice a ((trimE List.isEmpty ps).map txt).length cap) ((trimE List.isEmpty ps).map txt).length (((trimE List.isEmpty ps).map txt).map Value.string) := by
    have := hu
    unfold SBuf at this
    simpa using this
  have HU : Hid (SBuf w.heap.size (w2.setCell ⟨w.heap.size, 0, none⟩ (.slice a ((trimE List.isEmpty ps).map txt).length cap)) (.slice a ((trimE List.isEmpty ps).map txt).length cap) ((trimE List.isEmpty ps).map txt)) :=
    own_mono (own_above2 hu1 (fun b hb' => Deep.blk_setCell_other _ _ _ _ (by simp; omega))) (by omega)
  have HBW := hide ((bjoin' hb2 HB0.out).setCell (p := ⟨w.heap.size, 0, none⟩) (by simp) (.slice a ((trimE List.isEmpty ps).map txt).length cap))
  clear hu hu1 hv1 hb2
  generalize ((trimE List.isEmpty ps).map txt).length = n at *
  go_wp2_with fail
  exact bodyPost_ret (v := .agg #[.slice a n cap]) (by simp [results, Try.results185, go_sem, hc2, hf2, hs2]) rfl ⟨_, rfl, HU.out, HBW.out⟩

set_option maxHeartbeats 1000000 in
theorem newField_any {β : Type} (xs : List (List β)) (vs : List Value) (base : Nat) (v : Value) (w : World) (hv : w.ownsRow base 116 1 v vs.length vs) (hL : Lens vs xs) (hp : 0 < vs.length) (hl : vs.length ≤ 40001) (hz : ∀ x ∈ xs, x.length ≤ 9223372036854775807) :
    Calls Try.prog 189 #[v] w fun e w' => ∃ u, e = .returned (.agg #[u]) ∧ w'.ownsRow w.heap.size 116 1 u (keepN List.isEmpty xs) (vs.take (keepN List.isEmpty xs)) ∧ Below w.heap.size w w' := by
  have hb0 := (Below.refl w.heap.size w).alloc (Nat.le_refl _) (Obj.cells #[.slice none 0 0] 114)
  have hv1 := own_below hv hb0
  have HB0 := hide hb0
  clear hb0 hv
  go_enter Try.func189, Try.ntmps189
  go_wp2_with fail
  refine (cutR_any xs vs base _ _ hv1 hL hp hl hz).mono ?_
  rintro e w2 ⟨u, rfl, hu, hb2⟩
  obtain ⟨a, cap, rfl⟩ := own_form hu
  have hs2 : w.heap.size < w2.heap.size := by have := hb2.size; simp at this; omega
  have hc2 : w2.cell? ⟨w.heap.size, 0, none⟩ = some (.slice none 0 0) := by rw [hb2.cell (p := ⟨w.heap.size, 0, none⟩) (by simp)]; simp
  have hf2 : w2.frozen? ⟨w.heap.size, 0, none⟩ = false := by rw [hb2.frozen (p := ⟨w.heap.size, 0, none⟩) (by simp)]; simp
  have hu1 : w2.ownsRow (w.heap.size + 1) 116 1 (.slice a (keepN List.isEmpty xs) cap) (keepN List.isEmpty xs) (vs.take (keepN List.isEmpty xs)) := by simpa using hu
  have HU : Hid ((w2.setCell ⟨w.heap.size, 0, none⟩ (.slice a (keepN List.isEmpty xs) cap)).ownsRow w.heap.size 116 1 (.slice a (keepN List.isEmpty xs) cap) (keepN List.isEmpty xs) (vs.take (keepN List.isEmpty xs))) :=
    own_mono (own_above2 hu1 (fun b hb' => Deep.blk_setCell_other _ _ _ _ (by simp; omega))) (by omega)
  have HBW := hide ((bjoin' hb2 HB0.out).setCell (p := ⟨w.heap.size, 0, none⟩) (by simp) (.slice a (keepN List.isEmpty xs) cap))
  clear hu hu1 hv1 hb2
  go_wp2_with fail
  exact bodyPost_ret (v := .agg #[.slice a (keepN List.isEmpty xs) cap]) (by simp [results, Try.results189, go_sem, hc2, hf2, hs2]) rfl ⟨_, rfl, HU.out, HBW.out⟩

set_option maxHeartbeats 1000000 in
theorem newSegment_any {β : Type} (name : ByteArray) (xs : List (List β)) (vs : List Value) (base : Nat) (v : Value) (w : World) (hv : w.ownsRow base 114 1 v vs.length vs) (hL : Lens vs xs) (hn : vs.length = 0 → v = .slice none 0 0) (hl : vs.length ≤ 40001) (hz : ∀ x ∈ xs, x.length ≤ 9223372036854775807) :
    Calls Try.prog 186 #[.string name, v] w fun e w' => ∃ u, e = .returned (.agg #[.string name, u]) ∧ w'.ownsRow w.heap.size 114 1 u (keepN List.isEmpty xs) (vs.take (keepN List.isEmpty xs)) ∧ Below w.heap.size w w' := by
  have hb0 := (Below.refl w.heap.size w).alloc (Nat.le_refl _) (Obj.cells #[.string ByteArray.empty, .slice none 0 0] 111)
  have hv1 := own_below hv hb0
  have HB0 := hide hb0
  have HN := hide hn
  have HCUT : Hid (∀ W, W.ownsRow base 114 1 v vs.length vs → Calls Try.prog 191 #[v, .func (.func 125) #[] #[]] W fun e w' => ∃ u, e = .returned u ∧ w'.ownsRow W.heap.size 114 1 u (keepN List.isEmpty xs) (vs.take (keepN List.isEmpty xs)) ∧ Below W.heap.size W w') := fun W hW => by
    by_cases h0 : vs.length = 0
    · rw [hn h0]
      refine (cutF_nil W).mono ?_
      rintro e w' ⟨rfl, rfl⟩
      have hx : xs = [] := List.length_eq_zero_iff.1 (by have := hL.1; omega)
      refine ⟨_, rfl, ?_, Below.refl _ _⟩
      rw [hx]
      exact World.ownsRow_nil w' w'.heap.size 114 1
    · exact cutF_any xs vs base v W hW hL (by omega) hl hz
  clear hb0 hv hn
  go_enter Try.func186, Try.ntmps186
  go_wp2_with fail
  refine (HCUT.out _ hv1).mono ?_
  rintro e w2 ⟨u, rfl, hu, hb2⟩
  obtain ⟨a, cap, rfl⟩ := own_form hu
  have hs2 : w.heap.size < w2.heap.size := by have := hb2.size; simp at this; omega
  have hc2 : w2.cell? ⟨w.heap.size, 0, none⟩ = some (.string ByteArray.empty) := by rw [hb2.cell (p := ⟨w.heap.size, 0, none⟩) (by simp)]; simp
  have hf2 : w2.frozen? ⟨w.heap.size, 0, none⟩ = false := by rw [hb2.frozen (p := ⟨w.heap.size, 0, none⟩) (by simp)]; simp
  have hc3 : w2.cell? ⟨w.heap.size, 1, none⟩ = some (.slice none 0 0) := by rw [hb2.cell (p := ⟨w.heap.size, 1, none⟩) (by simp)]; simp
  have hf3 : w2.frozen? ⟨w.heap.size, 1, none⟩ = false := by rw [hb2.frozen (p := ⟨w.heap.size, 1, none⟩) (by simp)]; simp
  have hu1 : w2.ownsRow (w.heap.size + 1) 114 1 (.slice a (keepN List.isEmpty xs) cap) (keepN List.isEmpty xs) (vs.take (keepN List.isEmpty xs)) := by simpa using hu
  have HU : Hid (∀ x y, (((w2.setCell ⟨w.heap.size, 0, none⟩ x).setCell ⟨w.heap.size, 1, none⟩ y)).ownsRow w.heap.size 114 1 (.slice a (keepN List.isEmpty xs) cap) (keepN List.isEmpty xs) (vs.take (keepN List.isEmpty xs))) := fun x y =>
    own_mono (own_above2 (own_above2 hu1 (fun b hb' => Deep.blk_setCell_other _ _ _ _ (by simp; omega))) (fun b hb' => Deep.blk_setCell_other _ _ _ _ (by simp; omega))) (by omega)
  have HBW : Hid (∀ x y, Below w.heap.size w ((w2.setCell ⟨w.heap.size, 0, none⟩ x).setCell ⟨w.heap.size, 1, none⟩ y)) := fun x y => ((bjoin' hb2 HB0.out).setCell (p := ⟨w.heap.size, 0, none⟩) (by simp) x).setCell (p := ⟨w.heap.size, 1, none⟩) (by simp) y
  clear hu hu1 hv1 hb2
  go_wp2_with fail
  exact bodyPost_ret (v := .agg #[.string name, .slice a (keepN List.isEmpty xs) cap]) (by simp [results, Try.results186, go_sem, hc2, hf2, hs2, hc3, hf3]) rfl ⟨_, rfl, HU.out _ _, HBW.out _ _⟩
end Go.Proofs.Ytjpdgcodjnnljaa.Msg

namespace Go.Proofs.Ytjpdgcodjnnljaa.Msg
open Go.ChangeShapes Go.WideShapes Go.ChangeAt Go.RowKit
set_option linter.unusedVariables false
set_option linter.unusedSimpArgs false

/-- a field with one component, empty if the text is -/
def wordF (s : ByteArray) : Field := if s.size = 0 then [] else [[s]]
theorem isE {s : ByteArray} : s.data.toList.isEmpty = decide (s.size = 0) := by
  cases h : s.data.toList with
  | nil =>
    have : s.size = 0 := by show s.data.size = 0; rw [← Array.length_toList, h]; rfl
    simp [this]
  | cons a r =>
    have : s.size ≠ 0 := by show s.data.size ≠ 0; rw [← Array.length_toList, h]; simp
    simp [this]

theorem lt_of_cell2 {w : World} {b o : Nat} {v : Value} (h : w.cell? ⟨b, o, none⟩ = some v) : b < w.heap.size := by
  rcases Nat.lt_or_ge b w.heap.size with h' | h'
  · exact h'
  · simp [World.cell?, Array.getElem?_eq_none h'] at h
theorem lens1 {β : Type} (a : Option Addr) (x : List β) (c : Nat) : Lens [Value.slice a x.length c] [x] := ⟨rfl, fun k h1 h2 => ⟨a, c, by
  obtain rfl : k = 0 := by simp at h1; omega
  rfl⟩⟩
theorem o_nil (w : World) (a : Option Addr) (c : Nat) : OReps w (.slice a 0 c) [] [] := ⟨by simp, .inl ⟨a, c, rfl, rfl, rfl⟩⟩
/-- one repetition of one component, out of its two rows -/
theorem o_one {w : World} {s : ByteArray} {g g1 cap cap1 : Nat} (hs : s.size ≤ 9223372036854775807) (hg : g < w.heap.size) (hg1 : g1 < w.heap.size) (h0 : w.cell? ⟨g, 0, none⟩ = some (.slice (some ⟨g1, 0, none⟩) 1 cap1)) (h1 : w.cell? ⟨g1, 0, none⟩ = some (.string s)) (h2 : w.frozen? ⟨g1, 0, none⟩ = false) :
    OReps w (.slice (some ⟨g, 0, none⟩) 1 cap) [[s]] [g, g1] := by
  refine ⟨by simp, .inr ⟨g, 0, cap, [[g1]], rfl, hg, rfl, rfl, fun i h h' => ?_⟩⟩
  obtain rfl : i = 0 := by simp at h; omega
  refine ⟨_, h0, by simp, .inr ⟨g1, 0, cap1, [[]], rfl, hg1, rfl, rfl, fun k hk hk' => ?_⟩⟩
  obtain rfl : k = 0 := by simp at hk; omega
  exact ⟨h1, h2, hs, rfl⟩

set_option maxHeartbeats 2000000 in
theorem newWord_any (s : ByteArray) (w : World) (hs : s.size ≤ 1048576) :
    Calls Try.prog 187 #[.string s] w fun e w' => ∃ u, e = .returned (.agg #[u]) ∧ ∃ bs, OReps w' u (wordF s) bs ∧ bs.Nodup ∧ (∀ b ∈ bs, w.heap.size ≤ b) ∧ Below w.heap.size w w' := by
  have hb0 := (Below.refl w.heap.size w).alloc (Nat.le_refl _) (Obj.cells #[.slice none 0 0] 114)
  have hb1 := hb0.alloc hb0.size (Obj.cells #[.string s] 9)
  obtain ⟨w1, hw1⟩ : ∃ w1, (w.alloc (Obj.cells #[.slice none 0 0] 114)).alloc (Obj.cells #[.string s] 9) = w1 := ⟨_, rfl⟩
  have hsb : SBuf (w.heap.size + 1) w1 (.slice (some ⟨w.heap.size + 1, 0, none⟩) 1 1) ([s.data.toList].map txt) := by
    unfold SBuf
    rw [← hw1]
    have h := World.ownsRow_lit (base := w.heap.size + 1) (e := 9) (size := 1) (w.alloc (Obj.cells #[.slice none 0 0] 114)) #[.string s] 1 (by simp) (by unfold maxLen; omega) rfl
    simpa [txt_of] using h
  have hbx : w1.cell? ⟨w.heap.size, 0, none⟩ = some (.slice none 0 0) := by rw [← hw1, World.cell?_alloc_lt _ _ ⟨w.heap.size, 0, none⟩ (by simp)]; simp
  have hfx : w1.frozen? ⟨w.heap.size, 0, none⟩ = false := by rw [← hw1, World.frozen?_alloc_old _ _ ⟨w.heap.size, 0, none⟩ (by simp)]; simp
  have hlx := lt_of_cell2 hbx
  rw [hw1] at hb1
  have HSB := hide hsb
  have HB1 := hide hb1
  clear hsb hb0 hb1
  have HT : Hid (trimE List.isEmpty [s.data.toList] = if s.size = 0 then [] else [s.data.toList]) := by
    unfold trimE keepN
    rw [show keepN List.isEmpty ([] : List (List UInt8)) = 0 from rfl]
    simp only
    rw [isE]
    by_cases h : s.size = 0
    · rw [if_pos h, decide_eq_true h]; rfl
    · rw [if_neg h, decide_eq_false h]; rfl
  by_cases h0 : s.size = 0
  · have HT0 : Hid (trimE List.isEmpty [s.data.toList] = []) := by rw [HT.out, if_pos h0]; trivial
    have HF : Hid (wordF s = []) := by unfold wordF; rw [if_pos h0]; trivial
    go_enter Try.func187, Try.ntmps187
    go_wp2_with fail
    refine (newRep_any [s.data.toList] _ _ _ HSB.out (by simp) (by simp) (by intro p hp; simp at hp; subst hp; simp; exact hs)).mono ?_
    rintro e w2 ⟨u1, rfl, hu1, hb2⟩
    rw [HT0.out] at hu1
    obtain ⟨a, cap, rfl⟩ := own_form hu1
    have hbx2 : w2.cell? ⟨w.heap.size, 0, none⟩ = some (.slice none 0 0) := (hb2.cell (p := ⟨w.heap.size, 0, none⟩) hlx).trans hbx
    have hfx2 : w2.frozen? ⟨w.heap.size, 0, none⟩ = false := (hb2.frozen (p := ⟨w.heap.size, 0, none⟩) hlx).trans hfx
    have HB2 := hide (bjoin hb2 HB1.out)
    have hlx2 : w.heap.size < w2.heap.size := by have := hb2.size; omega
    clear hu1 hb2
    have HB3 := hide (HB2.out.alloc HB2.out.size (Obj.cells #[.slice a 0 cap] 116))
    have HL : Hid ((w2.alloc (Obj.cells #[.slice a 0 cap] 116)).ownsRow w2.heap.size 116 1 (.slice (some ⟨w2.heap.size, 0, none⟩) 1 1) [Value.slice a 0 cap].length [.slice a 0 cap]) := by
      have h := World.ownsRow_lit (base := w2.heap.size) (e := 116) (size := 1) w2 #[.slice a 0 cap] 1 (Nat.le_refl _) (by unfold maxLen; omega) rfl
      exact h
    have hbxa : (w2.alloc (Obj.cells #[.slice a 0 cap] 116)).cell? ⟨w.heap.size, 0, none⟩ = some (.slice none 0 0) := (World.cell?_alloc_lt _ _ ⟨w.heap.size, 0, none⟩ hlx2).trans hbx2
    have hfxa : (w2.alloc (Obj.cells #[.slice a 0 cap] 116)).frozen? ⟨w.heap.size, 0, none⟩ = false := (World.frozen?_alloc_old _ _ ⟨w.heap.size, 0, none⟩ (Nat.ne_of_lt hlx2)).trans hfx2
    go_wp2_with fail
    refine (newField_any (β := UInt8) [[]] [.slice a 0 cap] _ _ _ HL.out (lens1 a [] cap) (by simp) (by simp) (by intro x hx; simp at hx; subst hx; simp)).mono ?_
    rintro e w3 ⟨u2, rfl, hu2, hb3⟩
    obtain ⟨a2, c2, rfl⟩ := own_form hu2
    have e0 : keepN List.isEmpty ([[]] : List (List UInt8)) = 0 := rfl
    rw [e0]
    have hlxa : w.heap.size < (w2.alloc (Obj.cells #[.slice a 0 cap] 116)).heap.size := by simp; omega
    have hbx3 : w3.cell? ⟨w.heap.size, 0, none⟩ = some (.slice none 0 0) := (hb3.cell (p := ⟨w.heap.size, 0, none⟩) hlxa).trans hbxa
    have hfx3 : w3.frozen? ⟨w.heap.size, 0, none⟩ = false := (hb3.frozen (p := ⟨w.heap.size, 0, none⟩) hlxa).trans hfxa
    have hlx3 : w.heap.size < w3.heap.size := by have := hb3.size; omega
    have HBW := hide ((bjoin hb3 HB3.out).setCell (p := ⟨w.heap.size, 0, none⟩) (Nat.le_refl _) (.slice a2 0 c2))
    clear hb3 hu2
    go_wp2_with fail
    exact bodyPost_ret (v := .agg #[.slice a2 0 c2]) (by simp [results, Try.results187, go_sem, hbx3, hfx3, hlx3]) rfl ⟨_, rfl, [], by rw [HF.out]; exact o_nil _ _ _, by simp, by simp, HBW.out⟩
  · have HT0 : Hid (trimE List.isEmpty [s.data.toList] = [s.data.toList]) := by rw [HT.out, if_neg h0]; trivial
    have HF : Hid (wordF s = [[s]]) := by unfold wordF; rw [if_neg h0]; trivial
    go_enter Try.func187, Try.ntmps187
    go_wp2_with fail
    refine (newRep_any [s.data.toList] _ _ _ HSB.out (by simp) (by simp) (by intro p hp; simp at hp; subst hp; simp; exact hs)).mono ?_
    rintro e w2 ⟨u1, rfl, hu1, hb2⟩
    rw [HT0.out] at hu1
    have hu1' : w2.ownsRow w1.heap.size 9 1 u1 [Value.string s].length [.string s] := by
      have := hu1
      unfold SBuf at this
      simpa [txt_of] using this
    obtain ⟨h, _⟩ | ⟨g1, cap1, rfl, hg1, hl1, hc1⟩ := own_cells hu1'
    · cases h
    have hcs : w2.cell? ⟨g1, 0, none⟩ = some (.string s) ∧ w2.frozen? ⟨g1, 0, none⟩ = false := hc1 0 (by simp)
    have hbx2 : w2.cell? ⟨w.heap.size, 0, none⟩ = some (.slice none 0 0) := (hb2.cell (p := ⟨w.heap.size, 0, none⟩) hlx).trans hbx
    have hfx2 : w2.frozen? ⟨w.heap.size, 0, none⟩ = false := (hb2.frozen (p := ⟨w.heap.size, 0, none⟩) hlx).trans hfx
    have HB2 := hide (bjoin hb2 HB1.out)
    have hlx2 : w.heap.size < w2.heap.size := by have := hb2.size; omega
    have HCS := hide hcs
    have HG1 : Hid (w.heap.size < g1 ∧ g1 < w2.heap.size) := ⟨by omega, hl1⟩
    clear hu1 hu1' hb2 hc1 hcs
    have HB3 := hide (HB2.out.alloc HB2.out.size (Obj.cells #[.slice (some ⟨g1, 0, none⟩) 1 cap1] 116))
    have HL : Hid ((w2.alloc (Obj.cells #[.slice (some ⟨g1, 0, none⟩) 1 cap1] 116)).ownsRow w2.heap.size 116 1 (.slice (some ⟨w2.heap.size, 0, none⟩) 1 1) [Value.slice (some ⟨g1, 0, none⟩) 1 cap1].length [.slice (some ⟨g1, 0, none⟩) 1 cap1]) := by
      have h := World.ownsRow_lit (base := w2.heap.size) (e := 116) (size := 1) w2 #[.slice (some ⟨g1, 0, none⟩) 1 cap1] 1 (Nat.le_refl _) (by unfold maxLen; omega) rfl
      exact h
    have hbxa : (w2.alloc (Obj.cells #[.slice (some ⟨g1, 0, none⟩) 1 cap1] 116)).cell? ⟨w.heap.size, 0, none⟩ = some (.slice none 0 0) := (World.cell?_alloc_lt _ _ ⟨w.heap.size, 0, none⟩ hlx2).trans hbx2
    have hfxa : (w2.alloc (Obj.cells #[.slice (some ⟨g1, 0, none⟩) 1 cap1] 116)).frozen? ⟨w.heap.size, 0, none⟩ = false := (World.frozen?_alloc_old _ _ ⟨w.heap.size, 0, none⟩ (Nat.ne_of_lt hlx2)).trans hfx2
    have HCA : Hid ((w2.alloc (Obj.cells #[.slice (some ⟨g1, 0, none⟩) 1 cap1] 116)).cell? ⟨g1, 0, none⟩ = some (.string s) ∧ (w2.alloc (Obj.cells #[.slice (some ⟨g1, 0, none⟩) 1 cap1] 116)).frozen? ⟨g1, 0, none⟩ = false) :=
      ⟨(World.cell?_alloc_lt _ _ ⟨g1, 0, none⟩ HG1.out.2).trans HCS.out.1, (World.frozen?_alloc_old _ _ ⟨g1, 0, none⟩ (Nat.ne_of_lt HG1.out.2)).trans HCS.out.2⟩
    go_wp2_with fail
    refine (newField_any (β := List UInt8) [[s.data.toList]] [.slice (some ⟨g1, 0, none⟩) 1 cap1] _ _ _ HL.out (lens1 (some ⟨g1, 0, none⟩) [s.data.toList] cap1) (by simp) (by simp) (by intro x hx; simp at hx; subst hx; simp)).mono ?_
    rintro e w3 ⟨u2, rfl, hu2, hb3⟩
    have e0 : keepN List.isEmpty ([[s.data.toList]] : List (List (List UInt8))) = 1 := rfl
    have hu2' : w3.ownsRow (w2.alloc (Obj.cells #[.slice (some ⟨g1, 0, none⟩) 1 cap1] 116)).heap.size 116 1 u2 [Value.slice (some ⟨g1, 0, none⟩) 1 cap1].length [.slice (some ⟨g1, 0, none⟩) 1 cap1] := by
      rw [e0] at hu2
      exact hu2
    obtain ⟨h, _⟩ | ⟨g, c2, rfl, hg, hl2, hc2⟩ := own_cells hu2'
    · cases h
    have hlxa : w.heap.size < (w2.alloc (Obj.cells #[.slice (some ⟨g1, 0, none⟩) 1 cap1] 116)).heap.size := by simp; omega
    have hga : g1 < (w2.alloc (Obj.cells #[.slice (some ⟨g1, 0, none⟩) 1 cap1] 116)).heap.size := by have := HG1.out.2; simp; omega
    have hg2 : w2.heap.size + 1 ≤ g := by simpa using hg
    have hbx3 : w3.cell? ⟨w.heap.size, 0, none⟩ = some (.slice none 0 0) := (hb3.cell (p := ⟨w.heap.size, 0, none⟩) hlxa).trans hbxa
    have hfx3 : w3.frozen? ⟨w.heap.size, 0, none⟩ = false := (hb3.frozen (p := ⟨w.heap.size, 0, none⟩) hlxa).trans hfxa
    have hlx3 : w.heap.size < w3.heap.size := by have := hb3.size; omega
    have HBW := hide ((bjoin hb3 HB3.out).setCell (p := ⟨w.heap.size, 0, none⟩) (Nat.le_refl _) (.slice (some ⟨g, 0, none⟩) 1 c2))
    have HO : Hid (OReps (w3.setCell ⟨w.heap.size, 0, none⟩ (.slice (some ⟨g, 0, none⟩) 1 c2)) (.slice (some ⟨g, 0, none⟩) 1 c2) [[s]] [g, g1]) := by
      have n1 : (⟨w.heap.size, 0, none⟩ : Addr).block ≠ (⟨g, 0, none⟩ : Addr).block := by simp; omega
      have n2 : (⟨w.heap.size, 0, none⟩ : Addr).block ≠ (⟨g1, 0, none⟩ : Addr).block := by have h := HG1.out.1; show w.heap.size ≠ g1; omega
      have c1 : w3.cell? ⟨g, 0, none⟩ = some (.slice (some ⟨g1, 0, none⟩) 1 cap1) := (hc2 0 (by simp)).1
      have d1 : w3.cell? ⟨g1, 0, none⟩ = some (.string s) := (hb3.cell (p := ⟨g1, 0, none⟩) hga).trans HCA.out.1
      have d2 : w3.frozen? ⟨g1, 0, none⟩ = false := (hb3.frozen (p := ⟨g1, 0, none⟩) hga).trans HCA.out.2
      have z3 := hb3.size
      refine o_one (by omega) (by rw [Deep.nblk_setCell]; exact hl2) (by rw [Deep.nblk_setCell]; exact Nat.lt_of_lt_of_le hga z3) ((World.cell?_setCell_far _ _ _ _ n1).trans c1) ((World.cell?_setCell_far _ _ _ _ n2).trans d1) ?_
      rw [frozenSame (Deep.blk_setCell_other _ _ _ _ (by have := HG1.out.1; simp; omega))]
      exact d2
    have HND := hide (show [g, g1].Nodup by
      have h := HG1.out.2
      have h' : g ≠ g1 := by omega
      simp [h'])
    have HFR := hide (show ∀ b ∈ [g, g1], w.heap.size ≤ b by
      have h := HG1.out.1
      intro b hb
      simp at hb
      omega)
    clear hb3 hu2 hu2' hc2 e0
    go_wp2_with fail
    exact bodyPost_ret (v := .agg #[.slice (some ⟨g, 0, none⟩) 1 c2]) (by simp [results, Try.results187, go_sem, hbx3, hfx3, hlx3]) rfl ⟨_, rfl, [g, g1], by rw [HF.out]; exact HO.out, HND.out, HFR.out, HBW.out⟩
end Go.Proofs.Ytjpdgcodjnnljaa.Msg
