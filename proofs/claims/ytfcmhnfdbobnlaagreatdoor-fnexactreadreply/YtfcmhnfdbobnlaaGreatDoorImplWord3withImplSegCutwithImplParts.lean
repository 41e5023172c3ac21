import Derived.Test.YtfcmhnfdbobnlaaGreatDoorImplShort2withImplShort3withImplNew
import Derived.Test.YtfcmhnfdbobnlaaGreatDoorListBufwithParseRepswithMsgTo3
import Derived.Deep.RegionHeld3
import Derived.Test.YtfcmhnfdbobnlaaGreatDoorParseFieldswithParseByteswithParsePlain
import Derived.Deep.DeepCutAuto
namespace Go.Proofs.YtfcmhnfdbobnlaaGreatDoor.Msg
open Go.ChangeShapes Go.WideShapes Go.ChangeAt Go.RowKit
set_option linter.unusedVariables false
set_option linter.unusedSimpArgs false

/-- a field with one component, empty if the text is -/
def wordF (s : ByteArray) : Field := if s.size = 0 then [] else [[s]]
theorem isE {s : ByteArray} : s.data.toList.isEmpty = decide (s.size = 0) := by
  cases h : s.data.toList with
  | nil =>
    have : s.size = 0 := by show s.data.size = 0; rw [← Array.length_toList, h]; rfl
    simp [this]
  | cons a r =>
    have : s.size ≠ 0 := by show s.data.size ≠ 0; rw [← Array.length_toList, h]; simp
    simp [this]

theorem lt_of_cell2 {w : World} {b o : Nat} {v : Value} (h : w.cell? ⟨b, o, none⟩ = some v) : b < w.heap.size := by
  rcases Nat.lt_or_ge b w.heap.size with h' | h'
  · exact h'
  · simp [World.cell?, Array.getElem?_eq_none h'] at h
theorem lens1 {β : Type} (a : Option Addr) (x : List β) (c : Nat) : Lens [Value.slice a x.length c] [x] := ⟨rfl, fun k h1 h2 => ⟨a, c, by
  obtain rfl : k = 0 := by simp at h1; omega
  rfl⟩⟩
theorem o_nil (w : World) (a : Option Addr) (c : Nat) : OReps w (.slice a 0 c) [] [] := ⟨by simp, .inl ⟨a, c, rfl, rfl, rfl⟩⟩
/-- one repetition of one component, out of its two rows -/
theorem o_one {w : World} {s : ByteArray} {g g1 cap cap1 : Nat} (hs : s.size ≤ 9223372036854775807) (hg : g < w.heap.size) (hg1 : g1 < w.heap.size) (h0 : w.cell? ⟨g, 0, none⟩ = some (.slice (some ⟨g1, 0, none⟩) 1 cap1)) (h1 : w.cell? ⟨g1, 0, none⟩ = some (.string s)) (h2 : w.frozen? ⟨g1, 0, none⟩ = false) :
    OReps w (.slice (some ⟨g, 0, none⟩) 1 cap) [[s]] [g, g1] := by
  refine ⟨by simp, .inr ⟨g, 0, cap, [[g1]], rfl, hg, rfl, rfl, fun i h h' => ?_⟩⟩
  obtain rfl : i = 0 := by simp at h; omega
  refine ⟨_, h0, by simp, .inr ⟨g1, 0, cap1, [[]], rfl, hg1, rfl, rfl, fun k hk hk' => ?_⟩⟩
  obtain rfl : k = 0 := by simp at hk; omega
  exact ⟨h1, h2, hs, rfl⟩

set_option maxHeartbeats 2000000 in
theorem newWord_any (s : ByteArray) (w : World) (hs : s.size ≤ 1048576) :
    Calls Tryz.prog 151 #[.string s] w fun e w' => ∃ u, e = .returned (.agg #[u]) ∧ ∃ bs, OReps w' u (wordF s) bs ∧ bs.Nodup ∧ (∀ b ∈ bs, w.heap.size ≤ b) ∧ Below w.heap.size w w' := by
  have hb0 := (Below.refl w.heap.size w).alloc (Nat.le_refl _) (Obj.cells #[.slice none 0 0] 60)
  have hb1 := hb0.alloc hb0.size (Obj.cells #[.string s] 9)
  obtain ⟨w1, hw1⟩ : ∃ w1, (w.alloc (Obj.cells #[.slice none 0 0] 60)).alloc (Obj.cells #[.string s] 9) = w1 := ⟨_, rfl⟩
  have hsb : SBuf (w.heap.size + 1) w1 (.slice (some ⟨w.heap.size + 1, 0, none⟩) 1 1) ([s.data.toList].map txt) := by
    unfold SBuf
    rw [← hw1]
    have h := World.ownsRow_lit (base := w.heap.size + 1) (e := 9) (size := 1) (w.alloc (Obj.cells #[.slice none 0 0] 60)) #[.string s] 1 (by simp) (by unfold maxLen; omega) rfl
    simpa [txt_of] using h
  have hbx : w1.cell? ⟨w.heap.size, 0, none⟩ = some (.slice none 0 0) := by rw [← hw1, World.cell?_alloc_lt _ _ ⟨w.heap.size, 0, none⟩ (by simp)]; simp
  have hfx : w1.frozen? ⟨w.heap.size, 0, none⟩ = false := by rw [← hw1, World.frozen?_alloc_old _ _ ⟨w.heap.size, 0, none⟩ (by simp)]; simp
  have hlx := lt_of_cell2 hbx
  rw [hw1] at hb1
  have HSB := hide hsb
  have HB1 := hide hb1
  clear hsb hb0 hb1
  have HT : Hid (trimE List.isEmpty [s.data.toList] = if s.size = 0 then [] else [s.data.toList]) := by
    unfold trimE keepN
    rw [show keepN List.isEmpty ([] : List (List UInt8)) = 0 from rfl]
    simp only
    rw [isE]
    by_cases h : s.size = 0
    · rw [if_pos h, decide_eq_true h]; rfl
    · rw [if_neg h, decide_eq_false h]; rfl
  by_cases h0 : s.size = 0
  · have HT0 : Hid (trimE List.isEmpty [s.data.toList] = []) := by rw [HT.out, if_pos h0]; trivial
    have HF : Hid (wordF s = []) := by unfold wordF; rw [if_pos h0]; trivial
    go_enter Tryz.func151, Tryz.ntmps151
    go_wp2_with fail
    refine (newRep_any [s.data.toList] _ _ _ HSB.out (by simp) (by simp) (by intro p hp; simp at hp; subst hp; simp; exact hs)).mono ?_
    rintro e w2 ⟨u1, rfl, hu1, hb2⟩
    rw [HT0.out] at hu1
    obtain ⟨a, cap, rfl⟩ := own_form hu1
    have hbx2 : w2.cell? ⟨w.heap.size, 0, none⟩ = some (.slice none 0 0) := (hb2.cell (p := ⟨w.heap.size, 0, none⟩) hlx).trans hbx
    have hfx2 : w2.frozen? ⟨w.heap.size, 0, none⟩ = false := (hb2.frozen (p := ⟨w.heap.size, 0, none⟩) hlx).trans hfx
    have HB2 := hide (bjoin hb2 HB1.out)
    have hlx2 : w.heap.size < w2.heap.size := by have := hb2.size; omega
    clear hu1 hb2
    have HB3 := hide (HB2.out.alloc HB2.out.size (Obj.cells #[.slice a 0 cap] 62))
    have HL : Hid ((w2.alloc (Obj.cells #[.slice a 0 cap] 62)).ownsRow w2.heap.size 62 1 (.slice (some ⟨w2.heap.size, 0, none⟩) 1 1) [Value.slice a 0 cap].length [.slice a 0 cap]) := by
      have h := World.ownsRow_lit (base := w2.heap.size) (e := 62) (size := 1) w2 #[.slice a 0 cap] 1 (Nat.le_refl _) (by unfold maxLen; omega) rfl
      exact h
    have hbxa : (w2.alloc (Obj.cells #[.slice a 0 cap] 62)).cell? ⟨w.heap.size, 0, none⟩ = some (.slice none 0 0) := (World.cell?_alloc_lt _ _ ⟨w.heap.size, 0, none⟩ hlx2).trans hbx2
    have hfxa : (w2.alloc (Obj.cells #[.slice a 0 cap] 62)).frozen? ⟨w.heap.size, 0, none⟩ = false := (World.frozen?_alloc_old _ _ ⟨w.heap.size, 0, none⟩ (Nat.ne_of_lt hlx2)).trans hfx2
    go_wp2_with fail
    refine (newField_any (β := UInt8) [[]] [.slice a 0 cap] _ _ _ HL.out (lens1 a [] cap) (by simp) (by simp) (by intro x hx; simp at hx; subst hx; simp)).mono ?_
    rintro e w3 ⟨u2, rfl, hu2, hb3⟩
    obtain ⟨a2, c2, rfl⟩ := own_form hu2
    have e0 : keepN List.isEmpty ([[]] : List (List UInt8)) = 0 := rfl
    rw [e0]
    have hlxa : w.heap.size < (w2.alloc (Obj.cells #[.slice a 0 cap] 62)).heap.size := by simp; omega
    have hbx3 : w3.cell? ⟨w.heap.size, 0, none⟩ = some (.slice none 0 0) := (hb3.cell (p := ⟨w.heap.size, 0, none⟩) hlxa).trans hbxa
    have hfx3 : w3.frozen? ⟨w.heap.size, 0, none⟩ = false := (hb3.frozen (p := ⟨w.heap.size, 0, none⟩) hlxa).trans hfxa
    have hlx3 : w.heap.size < w3.heap.size := by have := hb3.size; omega
    have HBW := hide ((bjoin hb3 HB3.out).setCell (p := ⟨w.heap.size, 0, none⟩) (Nat.le_refl _) (.slice a2 0 c2))
    clear hb3 hu2
    go_wp2_with fail
    exact bodyPost_ret (v := .agg #[.slice a2 0 c2]) (by simp [results, Tryz.results151, go_sem, hbx3, hfx3, hlx3]) rfl ⟨_, rfl, [], by rw [HF.out]; exact o_nil _ _ _, by simp, by simp, HBW.out⟩
  · have HT0 : Hid (trimE List.isEmpty [s.data.toList] = [s.data.toList]) := by rw [HT.out, if_neg h0]; trivial
    have HF : Hid (wordF s = [[s]]) := by unfold wordF; rw [if_neg h0]; trivial
    go_enter Tryz.func151, Tryz.ntmps151
    go_wp2_with fail
    refine (newRep_any [s.data.toList] _ _ _ HSB.out (by simp) (by simp) (by intro p hp; simp at hp; subst hp; simp; exact hs)).mono ?_
    rintro e w2 ⟨u1, rfl, hu1, hb2⟩
    rw [HT0.out] at hu1
    have hu1' : w2.ownsRow w1.heap.size 9 1 u1 [Value.string s].length [.string s] := by
      have := hu1
      unfold SBuf at this
      simpa [txt_of] using this
    obtain ⟨h, _⟩ | ⟨g1, cap1, rfl, hg1, hl1, hc1⟩ := own_cells hu1'
    · cases h
    have hcs : w2.cell? ⟨g1, 0, none⟩ = some (.string s) ∧ w2.frozen? ⟨g1, 0, none⟩ = false := hc1 0 (by simp)
    have hbx2 : w2.cell? ⟨w.heap.size, 0, none⟩ = some (.slice none 0 0) := (hb2.cell (p := ⟨w.heap.size, 0, none⟩) hlx).trans hbx
    have hfx2 : w2.frozen? ⟨w.heap.size, 0, none⟩ = false := (hb2.frozen (p := ⟨w.heap.size, 0, none⟩) hlx).trans hfx
    have HB2 := hide (bjoin hb2 HB1.out)
    have hlx2 : w.heap.size < w2.heap.size := by have := hb2.size; omega
    have HCS := hide hcs
    have HG1 : Hid (w.heap.size < g1 ∧ g1 < w2.heap.size) := ⟨by omega, hl1⟩
    clear hu1 hu1' hb2 hc1 hcs
    have HB3 := hide (HB2.out.alloc HB2.out.size (Obj.cells #[.slice (some ⟨g1, 0, none⟩) 1 cap1] 62))
    have HL : Hid ((w2.alloc (Obj.cells #[.slice (some ⟨g1, 0, none⟩) 1 cap1] 62)).ownsRow w2.heap.size 62 1 (.slice (some ⟨w2.heap.size, 0, none⟩) 1 1) [Value.slice (some ⟨g1, 0, none⟩) 1 cap1].length [.slice (some ⟨g1, 0, none⟩) 1 cap1]) := by
      have h := World.ownsRow_lit (base := w2.heap.size) (e := 62) (size := 1) w2 #[.slice (some ⟨g1, 0, none⟩) 1 cap1] 1 (Nat.le_refl _) (by unfold maxLen; omega) rfl
      exact h
    have hbxa : (w2.alloc (Obj.cells #[.slice (some ⟨g1, 0, none⟩) 1 cap1] 62)).cell? ⟨w.heap.size, 0, none⟩ = some (.slice none 0 0) := (World.cell?_alloc_lt _ _ ⟨w.heap.size, 0, none⟩ hlx2).trans hbx2
    have hfxa : (w2.alloc (Obj.cells #[.slice (some ⟨g1, 0, none⟩) 1 cap1] 62)).frozen? ⟨w.heap.size, 0, none⟩ = false := (World.frozen?_alloc_old _ _ ⟨w.heap.size, 0, none⟩ (Nat.ne_of_lt hlx2)).trans hfx2
    have HCA : Hid ((w2.alloc (Obj.cells #[.slice (some ⟨g1, 0, none⟩) 1 cap1] 62)).cell? ⟨g1, 0, none⟩ = some (.string s) ∧ (w2.alloc (Obj.cells #[.slice (some ⟨g1, 0, none⟩) 1 cap1] 62)).frozen? ⟨g1, 0, none⟩ = false) :=
      ⟨(World.cell?_alloc_lt _ _ ⟨g1, 0, none⟩ HG1.out.2).trans HCS.out.1, (World.frozen?_alloc_old _ _ ⟨g1, 0, none⟩ (Nat.ne_of_lt HG1.out.2)).trans HCS.out.2⟩
    go_wp2_with fail
    refine (newField_any (β := List UInt8) [[s.data.toList]] [.slice (some ⟨g1, 0, none⟩) 1 cap1] _ _ _ HL.out (lens1 (some ⟨g1, 0, none⟩) [s.data.toList] cap1) (by simp) (by simp) (by intro x hx; simp at hx; subst hx; simp)).mono ?_
    rintro e w3 ⟨u2, rfl, hu2, hb3⟩
    have e0 : keepN List.isEmpty ([[s.data.toList]] : List (List (List UInt8))) = 1 := rfl
    have hu2' : w3.ownsRow (w2.alloc (Obj.cells #[.slice (some ⟨g1, 0, none⟩) 1 cap1] 62)).heap.size 62 1 u2 [Value.slice (some ⟨g1, 0, none⟩) 1 cap1].length [.slice (some ⟨g1, 0, none⟩) 1 cap1] := by
      rw [e0] at hu2
      exact hu2
    obtain ⟨h, _⟩ | ⟨g, c2, rfl, hg, hl2, hc2⟩ := own_cells hu2'
    · cases h
    have hlxa : w.heap.size < (w2.alloc (Obj.cells #[.slice (some ⟨g1, 0, none⟩) 1 cap1] 62)).heap.size := by simp; omega
    have hga : g1 < (w2.alloc (Obj.cells #[.slice (some ⟨g1, 0, none⟩) 1 cap1] 62)).heap.size := by have := HG1.out.2; simp; omega
    have hg2 : w2.heap.size + 1 ≤ g := by simpa using hg
    have hbx3 : w3.cell? ⟨w.heap.size, 0, none⟩ = some (.slice none 0 0) := (hb3.cell (p := ⟨w.heap.size, 0, none⟩) hlxa).trans hbxa
    have hfx3 : w3.frozen? ⟨w.heap.size, 0, none⟩ = false := (hb3.frozen (p := ⟨w.heap.size, 0, none⟩) hlxa).trans hfxa
    have hlx3 : w.heap.size < w3.heap.size := by have := hb3.size; omega
    have HBW := hide ((bjoin hb3 HB3.out).setCell (p := ⟨w.heap.size, 0, none⟩) (Nat.le_refl _) (.slice (some ⟨g, 0, none⟩) 1 c2))
    have HO : Hid (OReps (w3.setCell ⟨w.heap.size, 0, none⟩ (.slice (some ⟨g, 0, none⟩) 1 c2)) (.slice (some ⟨g, 0, none⟩) 1 c2) [[s]] [g, g1]) := by
      have n1 : (⟨w.heap.size, 0, none⟩ : Addr).block ≠ (⟨g, 0, none⟩ : Addr).block := by simp; omega
      have n2 : (⟨w.heap.size, 0, none⟩ : Addr).block ≠ (⟨g1, 0, none⟩ : Addr).block := by have h := HG1.out.1; show w.heap.size ≠ g1; omega
      have c1 : w3.cell? ⟨g, 0, none⟩ = some (.slice (some ⟨g1, 0, none⟩) 1 cap1) := (hc2 0 (by simp)).1
      have d1 : w3.cell? ⟨g1, 0, none⟩ = some (.string s) := (hb3.cell (p := ⟨g1, 0, none⟩) hga).trans HCA.out.1
      have d2 : w3.frozen? ⟨g1, 0, none⟩ = false := (hb3.frozen (p := ⟨g1, 0, none⟩) hga).trans HCA.out.2
      have z3 := hb3.size
      refine o_one (by omega) (by rw [Deep.nblk_setCell]; exact hl2) (by rw [Deep.nblk_setCell]; exact Nat.lt_of_lt_of_le hga z3) ((World.cell?_setCell_far _ _ _ _ n1).trans c1) ((World.cell?_setCell_far _ _ _ _ n2).trans d1) ?_
      rw [frozenSame (Deep.blk_setCell_other _ _ _ _ (by have := HG1.out.1; simp; omega))]
      exact d2
    have HND := hide (show [g, g1].Nodup by
      have h := HG1.out.2
      have h' : g ≠ g1 := by omega
      simp [h'])
    have HFR := hide (show ∀ b ∈ [g, g1], w.heap.size ≤ b by
      have h := HG1.out.1
      intro b hb
      simp at hb
      omega)
    clear hb3 hu2 hu2' hc2 e0
    go_wp2_with fail
    exact bodyPost_ret (v := .agg #[.slice (some ⟨g, 0, none⟩) 1 c2]) (by simp [results, Tryz.results151, go_sem, hbx3, hfx3, hlx3]) rfl ⟨_, rfl, [g, g1], by rw [HF.out]; exact HO.out, HND.out, HFR.out, HBW.out⟩
end Go.Proofs.YtfcmhnfdbobnlaaGreatDoor.Msg

namespace Go.Proofs.YtfcmhnfdbobnlaaGreatDoor.Msg
open Go.ChangeShapes Go.WideShapes Go.ChangeAt Go.RowKit
set_option linter.unusedVariables false
set_option linter.unusedSimpArgs false

theorem lens_str {e : TypeId} {base : Nat} {w : World} {xs : List Rep} {vs : List Value} {bss : List (List Nat)} (h1 : vs.length = xs.length) (h2 : bss.length = xs.length) (h : ∀ i (h : i < xs.length) (h1 : i < vs.length) (h2 : i < bss.length), OStrs w vs[i] xs[i] bss[i]) : Lens vs xs :=
  ⟨h1, fun i h3 h4 => by
    obtain ⟨a, c, e, _⟩ := (OAt.toAt toAt_str (h i h4 h3 (by omega)) (lo := 0) (fun _ _ => Nat.zero_le _)).form
    exact ⟨a, c, e⟩⟩
theorem lens_rep {e : TypeId} {base : Nat} {w : World} {xs : List Field} {vs : List Value} {bss : List (List Nat)} (h1 : vs.length = xs.length) (h2 : bss.length = xs.length) (h : ∀ i (h : i < xs.length) (h1 : i < vs.length) (h2 : i < bss.length), OReps w vs[i] xs[i] bss[i]) : Lens vs xs :=
  ⟨h1, fun i h3 h4 => by
    obtain ⟨a, c, e, _⟩ := (OAt.toAt toAt_rep (h i h4 h3 (by omega)) (lo := 0) (fun _ _ => Nat.zero_le _)).form
    exact ⟨a, c, e⟩⟩
/-- the first k elements of a list that was built, in a new row -/
theorem lbuf_moved {α : Type} {O : World → Value → α → List Nat → Prop} (hkeep : ∀ w w' v x bs, O w v x bs → w.heap.size ≤ w'.heap.size → (∀ d ∈ bs, w'.heap[d]? = w.heap[d]?) → O w' v x bs)
    {e : TypeId} {base : Nat} {w w' : World} {v u : Value} {xs : List α} {vs : List Value} {bss : List (List Nat)} (h1 : vs.length = xs.length) (h2 : bss.length = xs.length) (h4 : bss.flatten.Nodup)
    (h5 : ∀ i (h : i < xs.length) (h1 : i < vs.length) (h2 : i < bss.length), O w vs[i] xs[i] bss[i] ∧ ∀ b ∈ bss[i], base ≤ b ∧ b < w.heap.size ∧ v.ownBlock ≠ some b)
    (hbase : base ≤ w.heap.size) {k : Nat} (hk : k ≤ xs.length) (hu : w'.ownsRow w.heap.size e 1 u k (vs.take k)) (hb : Below w.heap.size w w') : LBuf O e base w' u (xs.take k) := by
  have hl : (xs.take k).length = k := by rw [List.length_take]; omega
  refine ⟨vs.take k, bss.take k, by rw [List.length_take, List.length_take, h1], by rw [List.length_take, List.length_take, h2], by rw [hl]; exact own_mono hu hbase, ?_, fun i hi g1 g2 => ?_⟩
  · have hsub : bss.flatten = (bss.take k).flatten ++ (bss.drop k).flatten := by rw [← List.flatten_append, List.take_append_drop]
    rw [hsub, List.nodup_append] at h4
    exact h4.1
  · rw [hl] at hi
    rw [List.getElem_take, List.getElem_take, List.getElem_take]
    obtain ⟨k1, k2⟩ := h5 i (by omega) (by omega) (by omega)
    refine ⟨hkeep _ _ _ _ _ k1 hb.size fun d hd => hb.block d (k2 d hd).2.1, fun b hb' => ⟨(k2 b hb').1, Nat.lt_of_lt_of_le (k2 b hb').2.1 hb.size, fun e => ?_⟩⟩
    have := (own_lt hu e).1
    have := (k2 b hb').2.1
    omega

theorem lens_of {α β : Type} {f : List α → List β} (hf : ∀ x, (f x).length = x.length) {vs : List Value} {ys : List (List α)} (h : Lens vs (ys.map f)) : Lens vs ys :=
  ⟨by have := h.1; rwa [List.length_map] at this, fun i h1 h2 => by
    obtain ⟨a, c, e⟩ := h.2 i h1 (by rw [List.length_map]; exact h2)
    rw [List.getElem_map, hf] at e
    exact ⟨a, c, e⟩⟩
/-- the fields of what stands behind a name, cut as the program does: what stands ahead of the first delimiter is no field -/
def fieldsI (d0 d1 d2 : UInt8) (l : List UInt8) : List (List (List (List UInt8))) := trimE List.isEmpty (((cutL d0 l).drop 1).map (repsL d1 d2))

end Go.Proofs.YtfcmhnfdbobnlaaGreatDoor.Msg

namespace Go.Proofs.YtfcmhnfdbobnlaaGreatDoor.Msg
open Go.ChangeShapes Go.WideShapes Go.ChangeAt Go.RowKit
set_option linter.unusedVariables false
set_option linter.unusedSimpArgs false

/-- values that calls have given one behind the other, each in blocks of its own -/
def Parts {α : Type} (O : World → Value → α → List Nat → Prop) (base : Nat) (w : World) (vs : List Value) (xs : List α) (bss : List (List Nat)) : Prop :=
  vs.length = xs.length ∧ bss.length = xs.length ∧ bss.flatten.Nodup ∧ ∀ i (h : i < xs.length) (h1 : i < vs.length) (h2 : i < bss.length), O w vs[i] xs[i] bss[i] ∧ ∀ b ∈ bss[i], base ≤ b ∧ b < w.heap.size
def KeepO {α : Type} (O : World → Value → α → List Nat → Prop) : Prop := ∀ w w' v x bs, O w v x bs → w.heap.size ≤ w'.heap.size → (∀ d ∈ bs, w'.heap[d]? = w.heap[d]?) → O w' v x bs
theorem keep_reps : KeepO OReps := fun _ _ _ _ _ h s d => OAt.kept keptO_rep h s d
theorem keep_fields : KeepO OFields := fun _ _ _ _ _ h s d => OAt.kept keptO_field h s d
theorem Parts.nil {α : Type} (O : World → Value → α → List Nat → Prop) (base : Nat) (w : World) : Parts O base w [] [] [] := ⟨rfl, rfl, by simp, fun i h => absurd h (by simp)⟩
theorem Parts.kept {α : Type} {O : World → Value → α → List Nat → Prop} (K : KeepO O) {base : Nat} {w w' : World} {vs : List Value} {xs : List α} {bss : List (List Nat)} (h : Parts O base w vs xs bss) (hb : Below w.heap.size w w') : Parts O base w' vs xs bss := by
  obtain ⟨h1, h2, h3, h4⟩ := h
  refine ⟨h1, h2, h3, fun i hi g1 g2 => ?_⟩
  obtain ⟨k1, k2⟩ := h4 i hi g1 g2
  exact ⟨K _ _ _ _ _ k1 hb.size fun d hd => hb.block d (k2 d hd).2, fun b hb' => ⟨(k2 b hb').1, Nat.lt_of_lt_of_le (k2 b hb').2 hb.size⟩⟩
theorem Parts.pushAny {α : Type} {O : World → Value → α → List Nat → Prop} (K : KeepO O) {base : Nat} {w w' : World} {vs : List Value} {xs : List α} {bss : List (List Nat)} {u : Value} {x : α} {bs : List Nat} (h : Parts O base w vs xs bss) (hb : Below w.heap.size w w')
    (hu : O w' u x bs) (hnd : bs.Nodup) (hf : ∀ b ∈ bs, base ≤ b ∧ b < w'.heap.size ∧ b ∉ bss.flatten) : Parts O base w' (vs ++ [u]) (xs ++ [x]) (bss ++ [bs]) := by
  obtain ⟨h1, h2, h3, h4⟩ := h
  refine ⟨by simp [h1], by simp [h2], ?_, fun i hi g1 g2 => ?_⟩
  · rw [List.flatten_append, List.flatten_cons, List.flatten_nil, List.append_nil, List.nodup_append]
    exact ⟨h3, hnd, fun a ha c hc e => (hf c hc).2.2 (e ▸ ha)⟩
  · by_cases hlt : i < xs.length
    · obtain ⟨k1, k2⟩ := h4 i hlt (by omega) (by omega)
      have a1 : (vs ++ [u])[i] = vs[i]'(by omega) := List.getElem_append_left (by omega)
      have a2 : (bss ++ [bs])[i] = bss[i]'(by omega) := List.getElem_append_left (by omega)
      have a3 : (xs ++ [x])[i] = xs[i] := List.getElem_append_left hlt
      rw [a1, a2, a3]
      exact ⟨K _ _ _ _ _ k1 hb.size fun d hd => hb.block d (k2 d hd).2, fun b hb' => ⟨(k2 b hb').1, Nat.lt_of_lt_of_le (k2 b hb').2 hb.size⟩⟩
    · have e1 : i = xs.length := by simp at hi; omega
      subst e1
      have e2 : (vs ++ [u])[xs.length] = u := by rw [List.getElem_append_right (by omega)]; simp [h1]
      have e3 : (bss ++ [bs])[xs.length] = bs := by rw [List.getElem_append_right (by omega)]; simp [h2]
      have e4 : (xs ++ [x])[xs.length] = x := by rw [List.getElem_append_right (Nat.le_refl _)]; simp
      rw [e2, e3, e4]
      exact ⟨hu, fun b hb' => ⟨(hf b hb').1, (hf b hb').2.1⟩⟩
theorem Parts.push {α : Type} {O : World → Value → α → List Nat → Prop} (K : KeepO O) {base : Nat} {w w' : World} {vs : List Value} {xs : List α} {bss : List (List Nat)} {u : Value} {x : α} {bs : List Nat} (h : Parts O base w vs xs bss) (hbase : base ≤ w.heap.size) (hb : Below w.heap.size w w')
    (hu : O w' u x bs) (hnd : bs.Nodup) (hf : ∀ b ∈ bs, w.heap.size ≤ b ∧ b < w'.heap.size) : Parts O base w' (vs ++ [u]) (xs ++ [x]) (bss ++ [bs]) :=
  Parts.pushAny K h hb hu hnd fun b hb' => ⟨Nat.le_trans hbase (hf b hb').1, (hf b hb').2, fun hm => by
    obtain ⟨h1, h2, h3, h4⟩ := h
    rw [List.mem_flatten] at hm
    obtain ⟨l, hl, ha⟩ := hm
    obtain ⟨i, hi, rfl⟩ := List.getElem_of_mem hl
    have := ((h4 i (by omega) (by omega) hi).2 b ha).2
    have := (hf b hb').1
    omega⟩
/-- an element with no memory of its own -/
theorem Parts.push0 {α : Type} {O : World → Value → α → List Nat → Prop} (K : KeepO O) {base : Nat} {w : World} {vs : List Value} {xs : List α} {bss : List (List Nat)} {u : Value} {x : α} (h : Parts O base w vs xs bss) (hbase : base ≤ w.heap.size)
    (hu : O w u x []) : Parts O base w (vs ++ [u]) (xs ++ [x]) (bss ++ [[]]) := Parts.push K h hbase (Below.refl _ _) hu (by simp) (by simp)
theorem Parts.lens {base : Nat} {w : World} {vs : List Value} {xs : List Field} {bss : List (List Nat)} (h : Parts OReps base w vs xs bss) : Lens vs xs :=
  lens_rep (e := 0) (base := base) (w := w) h.1 h.2.1 fun i hi g1 g2 => (h.2.2.2 i hi g1 g2).1

/-- a segment out of fields that were given -/
theorem newSegO (name : ByteArray) (vs : List Value) (xs : List Field) (bss : List (List Nat)) (base : Nat) (w : World) (hbase : base ≤ w.heap.size) (hP : Parts OReps base w vs xs bss) (hp : 0 < vs.length) (hl : vs.length ≤ 40001) (hz : ∀ x ∈ xs, x.length ≤ 1048576) (n : Nat) (hn : n = vs.length) :
    Calls Tryz.prog 150 #[.string name, .slice (some ⟨w.heap.size, 0, none⟩) n n] (w.alloc (.cells vs.toArray 60)) fun e w' => ∃ u, e = .returned (.agg #[.string name, u]) ∧ ∃ bs, OFields w' u (trimE List.isEmpty xs) bs ∧ bs.Nodup ∧ (∀ b ∈ bs, base ≤ b ∧ b < w'.heap.size ∧ (w.heap.size ≤ b ∨ b ∈ bss.flatten)) ∧ Below w.heap.size w w' := by
  subst hn
  have hb1 := (Below.refl w.heap.size w).alloc (Nat.le_refl _) (.cells vs.toArray 60)
  have hrow : (w.alloc (.cells vs.toArray 60)).ownsRow w.heap.size 60 1 (.slice (some ⟨w.heap.size, 0, none⟩) vs.length vs.length) vs.length vs := by
    have h := World.ownsRow_lit (base := w.heap.size) (e := 60) (size := 1) w vs.toArray vs.length (Nat.le_refl _) (by unfold maxLen; omega) (by simp)
    simpa using h
  refine (newSegment_any (β := Rep) name xs vs w.heap.size _ _ hrow hP.lens (fun h => by omega) hl (fun x hx => by have := hz x hx; omega)).mono ?_
  rintro e w' ⟨u, rfl, hu, hb⟩
  refine ⟨u, rfl, ?_⟩
  have hk := keepN_le List.isEmpty xs
  have hbb := bjoin' hb hb1
  obtain ⟨h1, h2, h3, h4⟩ := hP
  obtain ⟨m, hm⟩ : ∃ m, keepN List.isEmpty xs = m := ⟨_, rfl⟩
  have hT : trimE List.isEmpty xs = xs.take m := by unfold trimE; rw [hm]
  rw [hm] at hu hk
  rw [hT]
  have hlen : (vs.take m).length = m := by rw [List.length_take]; omega
  have hlx : (xs.take m).length = m := by rw [List.length_take]; omega
  have hlb : (bss.take m).length = m := by rw [List.length_take]; omega
  have hu' : w'.ownsRow (w.alloc (.cells vs.toArray 60)).heap.size 60 1 u (vs.take m).length (vs.take m) := by rw [hlen]; exact hu
  obtain ⟨h0, rfl⟩ | ⟨g, cap, rfl, hg, hlt, hc⟩ := own_cells hu'
  · have m0 : m = 0 := by rw [← hlen, h0]; rfl
    subst m0
    exact ⟨[], ⟨by simp, .inl ⟨none, 0, rfl, by simp, rfl⟩⟩, by simp, by simp, hbb⟩
  · have hg' : w.heap.size + 1 ≤ g := by simpa using hg
    have hsub : ∀ b ∈ (bss.take m).flatten, b ∈ bss.flatten := fun b hb' => by
      have e : bss.flatten = (bss.take m).flatten ++ (bss.drop m).flatten := by rw [← List.flatten_append, List.take_append_drop]
      rw [e, List.mem_append]
      exact .inl hb'
    have hin : ∀ b ∈ bss.flatten, base ≤ b ∧ b < w.heap.size := fun b hb' => by
      rw [List.mem_flatten] at hb'
      obtain ⟨l, hl', ha⟩ := hb'
      obtain ⟨i, hi, rfl⟩ := List.getElem_of_mem hl'
      exact (h4 i (by omega) (by omega) hi).2 b ha
    refine ⟨g :: (bss.take m).flatten, ⟨by omega, .inr ⟨g, 0, cap, bss.take m, by rw [hlen, hlx], hlt, rfl, by omega, fun i hi hi2 => ?_⟩⟩, ?_, ?_, hbb⟩
    · have hix : i < xs.length := by omega
      obtain ⟨k1, k2⟩ := h4 i hix (by omega) (by omega)
      rw [List.getElem_take, List.getElem_take]
      refine ⟨vs[i]'(by omega), ?_, OAt.kept keptO_rep k1 hbb.size fun d hd => hbb.block d (k2 d hd).2⟩
      have := (hc i (by omega)).1
      rw [List.getElem_take] at this
      simpa using this
    · rw [List.nodup_cons]
      refine ⟨fun hm' => by have := (hin g (hsub g hm')).2; omega, ?_⟩
      have e : bss.flatten = (bss.take m).flatten ++ (bss.drop m).flatten := by rw [← List.flatten_append, List.take_append_drop]
      rw [e, List.nodup_append] at h3
      exact h3.1
    · intro b hb'
      rw [List.mem_cons] at hb'
      rcases hb' with rfl | hb'
      · exact ⟨by omega, hlt, .inl (by omega)⟩
      · have h5 := hin b (hsub b hb')
        exact ⟨h5.1, Nat.lt_of_lt_of_le h5.2 hbb.size, .inr (hsub b hb')⟩

/-- a field of one repetition that was given -/
theorem newField1 (kr : Rep) (k : Value) (bk : List Nat) (base : Nat) (w : World) (hk : OStrs w k kr bk) (hkn : 0 < kr.length) (hkl : kr.length ≤ 1048576) (hnd : bk.Nodup) (hb : ∀ b ∈ bk, base ≤ b ∧ b < w.heap.size) (hbase : base ≤ w.heap.size) :
    Calls Tryz.prog 154 #[.slice (some ⟨w.heap.size, 0, none⟩) 1 1] (w.alloc (.cells #[k] 62)) fun e w' => ∃ u, e = .returned (.agg #[u]) ∧ ∃ bs, OReps w' u [kr] bs ∧ bs.Nodup ∧ (∀ b ∈ bs, base ≤ b ∧ b < w'.heap.size ∧ (w.heap.size ≤ b ∨ b ∈ bk)) ∧ Below w.heap.size w w' := by
  have hb1 := (Below.refl w.heap.size w).alloc (Nat.le_refl _) (.cells #[k] 62)
  have hrow : (w.alloc (.cells #[k] 62)).ownsRow w.heap.size 62 1 (.slice (some ⟨w.heap.size, 0, none⟩) 1 1) [k].length [k] := by
    have h := World.ownsRow_lit (base := w.heap.size) (e := 62) (size := 1) w #[k] 1 (Nat.le_refl _) (by unfold maxLen; omega) rfl
    simpa using h
  obtain ⟨a, c, rfl, _⟩ := (OAt.toAt toAt_str hk (lo := 0) (fun _ _ => Nat.zero_le _)).form
  refine (newField_any (β := ByteArray) [kr] [.slice a kr.length c] w.heap.size _ _ hrow (lens1 a kr c) (by simp) (by simp) (by intro x hx; simp at hx; subst hx; omega)).mono ?_
  rintro e w' ⟨u, rfl, hu, hb2⟩
  have e0 : keepN List.isEmpty [kr] = 1 := by
    cases kr with
    | nil => simp at hkn
    | cons x r => rfl
  rw [e0] at hu
  obtain ⟨h, _⟩ | ⟨g, c2, rfl, hg, hl2, hc2⟩ := own_cells (cs := [.slice a kr.length c]) hu
  · cases h
  have hcell : w'.cell? ⟨g, 0, none⟩ = some (.slice a kr.length c) := (hc2 0 (by simp)).1
  have hsz : (w.alloc (.cells #[.slice a kr.length c] 62)).heap.size = w.heap.size + 1 := by simp
  rw [hsz] at hg
  have hbb := bjoin' hb2 hb1
  refine ⟨_, rfl, g :: bk, ⟨by simp, .inr ⟨g, 0, c2, [bk], rfl, hl2, by simp, rfl, fun i hi h' => ?_⟩⟩, ?_, ?_, hbb⟩
  · obtain rfl : i = 0 := by simp at hi; omega
    exact ⟨_, hcell, OAt.kept keptO_str hk hbb.size fun d hd => hbb.block d (hb d hd).2⟩
  · rw [List.nodup_cons]
    exact ⟨fun hm => by have := (hb g hm).2; omega, hnd⟩
  · intro b hb'
    rw [List.mem_cons] at hb'
    rcases hb' with rfl | hb'
    · exact ⟨by omega, hl2, .inl (by omega)⟩
    · exact ⟨(hb b hb').1, Nat.lt_of_lt_of_le (hb b hb').2 hbb.size, .inr hb'⟩
end Go.Proofs.YtfcmhnfdbobnlaaGreatDoor.Msg
