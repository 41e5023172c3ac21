import Derived.Test.YtcphfhfockjljaaDoorImplCswithImplShortwithImplShort2
import Derived.Test.YtcphfhfockjljaaDoorParseUnescwithSegBufwithCutPure
import Derived.Test.YtcphfhfockjljaaDoorMarkMsgwithListBuf
import Derived.Deep.RegionHeld3
namespace Go.Proofs.YtcphfhfockjljaaDoor.Msg
open Go.ChangeShapes Go.WideShapes Go.ChangeAt Go.RowKit
set_option linter.unusedVariables false
set_option linter.unusedSimpArgs false

set_option maxRecDepth 100000 in
set_option maxHeartbeats 2000000 in
theorem cutF_any {β : Type} (xs : List (List β)) (vs : List Value) (base : Nat) (v : Value) (w : World) (hv : w.ownsRow base 47 1 v vs.length vs) (hL : Lens vs xs) (hp : 0 < vs.length) (hl : vs.length ≤ 40001) (hz : ∀ x ∈ xs, x.length ≤ 9223372036854775807) :
    Calls Tryd.prog 69 #[v, .func (.func 42) #[] #[]] w fun e w' => ∃ u, e = .returned u ∧ w'.ownsRow w.heap.size 47 1 u (keepN List.isEmpty xs) (vs.take (keepN List.isEmpty xs)) ∧ Below w.heap.size w w' := by
  obtain ⟨i0, hi, hz0, hz1, hz2⟩ := info_facts info_Field
  obtain ⟨g, cap, rfl, hg, hgl, hcell, hcap⟩ : ∃ g cap, v = .slice (some ⟨g, 0, none⟩) vs.length cap ∧ base ≤ g ∧ g < w.heap.size ∧ (∀ i (hi : i < vs.length), w.cell? ⟨g, i, none⟩ = some vs[i]) ∧ vs.length ≤ cap := by
    rcases own_cells hv with ⟨h0, _⟩ | ⟨g, cap, rfl, h1, h2, h3⟩
    · subst h0; simp at hp
    · refine ⟨g, cap, rfl, h1, h2, fun i hi => (h3 i hi).1, ?_⟩
      obtain ⟨_, ⟨e1, _⟩ | ⟨g', cap', cur, e1, _, _, hcap, _⟩⟩ := hv
      · cases e1
      · injection e1 with _ _ e3
        subst e3
        exact hcap
  have HLE := hide hL.1
  have HC := hide hcell
  have HL := hide hL
  have HZ := hide hz
  clear hv hcell hL hz
  go_enter Tryd.func69, Tryd.ntmps69
  go_wp2_with fail
  go_loopw [5] (fun n wr => ∃ k : Nat, k ≤ vs.length ∧ n = .int .i64 k ∧ (∀ j (h : j < xs.length), k ≤ j → (xs[j]).isEmpty = true) ∧ Below w.heap.size w wr) (fun n _ => (intOf n).toNat)
  case atStart => exact ⟨vs.length, Nat.le_refl _, rfl, fun j h h1 => absurd h1 (by have := HLE.out; omega), Below.refl _ _⟩
  case round =>
    obtain ⟨k, hk, rfl, hA, hb⟩ := hrel
    have HA := hide hA
    clear hA
    by_cases hz : 0 < k
    · have hk1 : k - 1 < vs.length := by omega
      have hk2 : k - 1 < xs.length := by have := HLE.out; omega
      obtain ⟨a5, c5, e5⟩ := HL.out.2 (k - 1) hk1 hk2
      have hc1 : wr.cell? ⟨g, k - 1, none⟩ = some (.slice a5 (xs[k - 1]'hk2).length c5) := by rw [hb.cell (p := ⟨g, k - 1, none⟩) hgl, ← e5]; exact HC.out (k - 1) hk1
      have hzi : (0 : Int) < (k : Int) := by omega
      have htn : ((k : Int) - 1).toNat = k - 1 := by omega
      have hb0' : (0 : Int) ≤ (k : Int) - 1 := by omega
      have hb1' : (k : Int) - 1 < (vs.length : Int) := by omega
      have hbs := hb.size
      clear e5
      cases hem : (xs[k - 1]'hk2).isEmpty
      · have HD : Hid (decide ((xs[k - 1]'hk2).length = 0) = false) := by
          show decide _ = false
          refine decide_eq_false fun h0 => ?_
          rw [List.length_eq_zero_iff.1 h0] at hem; cases hem
        have HK := hide (keepN_is List.isEmpty xs k (by have := HLE.out; omega) HA.out (fun _ _ => hem))
        clear hem
        have hcp : (k : Int) ≤ (cap : Int) := by omega
        have hbA := hb.alloc hb.size (Obj.cells #[.slice a5 (xs[k - 1]'hk2).length c5] 47)
        have HCA : Hid (∀ i (hi : i < vs.length), (wr.alloc (Obj.cells #[.slice a5 (xs[k - 1]'hk2).length c5] 47)).cell? ⟨g, i, none⟩ = some vs[i]) := fun i hi => by rw [hbA.cell (p := ⟨g, i, none⟩) hgl]; exact HC.out i hi
        have HBA := hide hbA
        clear hbA
        go_wp2_with fail
        refine (fieldIsEmpty_any _ _ _ _).mono ?_
        rintro e w2 ⟨rfl, rfl⟩
        rw [HD.out]
        go_wp2_with (first
          | (at_builtin; refine wpList_append_own_at _ rfl _ _ 42 rfl w.heap.size 47 i0 (.agg #[.slice none 0 0]) 1 24 Tryd.underlying42 hi hz0 hz1 hz2 rfl (by decide) _ _ _ rfl (World.ownsRow_nil _ w.heap.size 47 1) ⟨g, 0, none⟩ k cap (vs.take k) rfl ?c0 ?c1 ?c2 ?c3 ?c4 ?c5 ?_)
          | fail)
        case c0 => simp; omega
        case c1 => exact row_cells hk HCA.out
        case c2 => exact one_lens HL.out k
        case c3 => unfold maxLen; omega
        case c4 => omega
        case c5 => simp; omega
        intro v' w2 hown' hgrow hnil hat
        have HS : Hid (w2.ownsRow w.heap.size 47 1 v' (keepN List.isEmpty xs) (vs.take (keepN List.isEmpty xs))) := by
          show World.ownsRow _ _ _ _ _ _ _
          rw [HK.out]
          simpa using hown'
        have HBW := hide (HBA.out.grown (row := none) (by simpa [Value.ownBlock] using hgrow) (by simp; omega) (fun b hb' => by cases hb'))
        clear hown' hgrow hnil hat
        go_wp2_with fail
        go_ret
        exact ⟨_, rfl, HS.out, HBW.out⟩
      · have HD : Hid (decide ((xs[k - 1]'hk2).length = 0) = true) := by
          rw [List.isEmpty_iff.1 hem]; rfl
        have HA2 : Hid (∀ j (h : j < xs.length), k - 1 ≤ j → (xs[j]).isEmpty = true) := fun j hj h => by
          by_cases e : j = k - 1
          · subst e; exact hem
          · exact HA.out j hj (by omega)
        clear hem
        have HBA := hide (hb.alloc hb.size (Obj.cells #[.slice a5 (xs[k - 1]'hk2).length c5] 47))
        go_wp2_with fail
        refine (fieldIsEmpty_any _ _ _ _).mono ?_
        rintro e w2 ⟨rfl, rfl⟩
        rw [HD.out]
        go_wp2_with fail
        go_roundw
        case rel => exact ⟨k - 1, by omega, by go_num, HA2.out, HBA.out⟩
        case measure => simp [intOf]; omega
    · obtain rfl : k = 0 := by omega
      have HK := hide (keepN_is List.isEmpty xs 0 (Nat.zero_le _) HA.out (fun _ h => absurd h (by omega)))
      have HS : Hid (wr.ownsRow w.heap.size 47 1 (.slice none 0 0) (keepN List.isEmpty xs) (vs.take (keepN List.isEmpty xs))) := by
        rw [HK.out]
        exact World.ownsRow_nil wr w.heap.size 47 1
      go_wp2_with fail
      go_ret
      exact ⟨_, rfl, HS.out, hb⟩
set_option maxRecDepth 100000 in
set_option maxHeartbeats 1000000 in
theorem cutF_nil (w : World) :
    Calls Tryd.prog 69 #[.slice none 0 0, .func (.func 42) #[] #[]] w fun e w' => e = .returned (.slice none 0 0) ∧ w' = w := by
  go_enter Tryd.func69, Tryd.ntmps69
  go_wp2_with fail
  go_loop [5] (fun n => n = .int .i64 0) (fun _ => 0)
  case atStart => rfl
  case round =>
    subst hrel
    go_wp2_with fail
    go_ret
    exact ⟨rfl, rfl⟩
end Go.Proofs.YtcphfhfockjljaaDoor.Msg

namespace Go.Proofs.YtcphfhfockjljaaDoor.Msg
open Go.ChangeShapes Go.WideShapes Go.ChangeAt Go.RowKit
set_option linter.unusedVariables false
set_option linter.unusedSimpArgs false

theorem own_mono {base base' : Nat} {e : TypeId} {sz : Nat} {w : World} {v : Value} {n : Nat} {vs : List Value} (h : w.ownsRow base e sz v n vs) (hb : base' ≤ base) : w.ownsRow base' e sz v n vs := by
  obtain ⟨hl, h | ⟨g, cap, cur, e1, hg, rest⟩⟩ := h
  · exact ⟨hl, .inl h⟩
  · exact ⟨hl, .inr ⟨g, cap, cur, e1, Nat.le_trans hb hg, rest⟩⟩

set_option maxHeartbeats 1000000 in
theorem newRep_any (ps : List (List UInt8)) (base : Nat) (v : Value) (w : World) (hv : SBuf base w v (ps.map txt)) (hp : 0 < ps.length) (hl : ps.length ≤ 40001) (hz : ∀ p ∈ ps, p.length ≤ 1048576) :
    Calls Tryd.prog 49 #[v] w fun e w' => ∃ u, e = .returned (.agg #[u]) ∧ SBuf w.heap.size w' u ((trimE List.isEmpty ps).map txt) ∧ Below w.heap.size w w' := by
  have hb0 := (Below.refl w.heap.size w).alloc (Nat.le_refl _) (Obj.cells #[.slice none 0 0] 50)
  have hv1 := own_below hv hb0
  have HB0 := hide hb0
  clear hb0 hv
  go_enter Tryd.func49, Tryd.ntmps49
  go_wp2_with fail
  refine (cutS_any ps base _ _ hv1 hp hl hz).mono ?_
  rintro e w2 ⟨u, rfl, hu, hb2⟩
  obtain ⟨a, cap, rfl⟩ := own_form hu
  have hs2 : w.heap.size < w2.heap.size := by have := hb2.size; simp at this; omega
  have hc2 : w2.cell? ⟨w.heap.size, 0, none⟩ = some (.slice none 0 0) := by rw [hb2.cell (p := ⟨w.heap.size, 0, none⟩) (by simp)]; simp
  have hf2 : w2.frozen? ⟨w.heap.size, 0, none⟩ = false := by rw [hb2.frozen (p := ⟨w.heap.size, 0, none⟩) (by simp)]; simp
  have hu1 : w2.ownsRow (w.heap.size + 1) 9 1 (.slice a ((trimE List.isEmpty ps).map txt).length cap) ((trimE List.isEmpty ps).map txt).length (((trimE List.isEmpty ps).map txt).map Value.string) := by
    have := hu
    unfold SBuf at this
    simpa using this
  have HU : Hid (SBuf w.heap.size (w2.setCell ⟨w.heap.size, 0, none⟩ (.slice a ((trimE List.isEmpty ps).map txt).length cap)) (.slice a ((trimE List.isEmpty ps).map txt).length cap) ((trimE List.isEmpty ps).map txt)) :=
    own_mono (own_above2 hu1 (fun b hb' => Deep.blk_setCell_other _ _ _ _ (by simp; omega))) (by omega)
  have HBW := hide ((bjoin' hb2 HB0.out).setCell (p := ⟨w.heap.size, 0, none⟩) (by simp) (.slice a ((trimE List.isEmpty ps).map txt).length cap))
  clear hu hu1 hv1 hb2
  generalize ((trimE List.isEmpty ps).map txt).length = n at *
  go_wp2_with fail
  exact bodyPost_ret (v := .agg #[.slice a n cap]) (by simp [results, Tryd.results49, go_sem, hc2, hf2, hs2]) rfl ⟨_, rfl, HU.out, HBW.out⟩

set_option maxHeartbeats 1000000 in
theorem newField_any {β : Type} (xs : List (List β)) (vs : List Value) (base : Nat) (v : Value) (w : World) (hv : w.ownsRow base 50 1 v vs.length vs) (hL : Lens vs xs) (hp : 0 < vs.length) (hl : vs.length ≤ 40001) (hz : ∀ x ∈ xs, x.length ≤ 9223372036854775807) :
    Calls Tryd.prog 50 #[v] w fun e w' => ∃ u, e = .returned (.agg #[u]) ∧ w'.ownsRow w.heap.size 50 1 u (keepN List.isEmpty xs) (vs.take (keepN List.isEmpty xs)) ∧ Below w.heap.size w w' := by
  have hb0 := (Below.refl w.heap.size w).alloc (Nat.le_refl _) (Obj.cells #[.slice none 0 0] 47)
  have hv1 := own_below hv hb0
  have HB0 := hide hb0
  clear hb0 hv
  go_enter Tryd.func50, Tryd.ntmps50
  go_wp2_with fail
  refine (cutR_any xs vs base _ _ hv1 hL hp hl hz).mono ?_
  rintro e w2 ⟨u, rfl, hu, hb2⟩
  obtain ⟨a, cap, rfl⟩ := own_form hu
  have hs2 : w.heap.size < w2.heap.size := by have := hb2.size; simp at this; omega
  have hc2 : w2.cell? ⟨w.heap.size, 0, none⟩ = some (.slice none 0 0) := by rw [hb2.cell (p := ⟨w.heap.size, 0, none⟩) (by simp)]; simp
  have hf2 : w2.frozen? ⟨w.heap.size, 0, none⟩ = false := by rw [hb2.frozen (p := ⟨w.heap.size, 0, none⟩) (by simp)]; simp
  have hu1 : w2.ownsRow (w.heap.size + 1) 50 1 (.slice a (keepN List.isEmpty xs) cap) (keepN List.isEmpty xs) (vs.take (keepN List.isEmpty xs)) := by simpa using hu
  have HU : Hid ((w2.setCell ⟨w.heap.size, 0, none⟩ (.slice a (keepN List.isEmpty xs) cap)).ownsRow w.heap.size 50 1 (.slice a (keepN List.isEmpty xs) cap) (keepN List.isEmpty xs) (vs.take (keepN List.isEmpty xs))) :=
    own_mono (own_above2 hu1 (fun b hb' => Deep.blk_setCell_other _ _ _ _ (by simp; omega))) (by omega)
  have HBW := hide ((bjoin' hb2 HB0.out).setCell (p := ⟨w.heap.size, 0, none⟩) (by simp) (.slice a (keepN List.isEmpty xs) cap))
  clear hu hu1 hv1 hb2
  go_wp2_with fail
  exact bodyPost_ret (v := .agg #[.slice a (keepN List.isEmpty xs) cap]) (by simp [results, Tryd.results50, go_sem, hc2, hf2, hs2]) rfl ⟨_, rfl, HU.out, HBW.out⟩

set_option maxHeartbeats 1000000 in
theorem newSegment_any {β : Type} (name : ByteArray) (xs : List (List β)) (vs : List Value) (base : Nat) (v : Value) (w : World) (hv : w.ownsRow base 47 1 v vs.length vs) (hL : Lens vs xs) (hn : vs.length = 0 → v = .slice none 0 0) (hl : vs.length ≤ 40001) (hz : ∀ x ∈ xs, x.length ≤ 9223372036854775807) :
    Calls Tryd.prog 51 #[.string name, v] w fun e w' => ∃ u, e = .returned (.agg #[.string name, u]) ∧ w'.ownsRow w.heap.size 47 1 u (keepN List.isEmpty xs) (vs.take (keepN List.isEmpty xs)) ∧ Below w.heap.size w w' := by
  have hb0 := (Below.refl w.heap.size w).alloc (Nat.le_refl _) (Obj.cells #[.string ByteArray.empty, .slice none 0 0] 44)
  have hv1 := own_below hv hb0
  have HB0 := hide hb0
  have HN := hide hn
  have HCUT : Hid (∀ W, W.ownsRow base 47 1 v vs.length vs → Calls Tryd.prog 69 #[v, .func (.func 42) #[] #[]] W fun e w' => ∃ u, e = .returned u ∧ w'.ownsRow W.heap.size 47 1 u (keepN List.isEmpty xs) (vs.take (keepN List.isEmpty xs)) ∧ Below W.heap.size W w') := fun W hW => by
    by_cases h0 : vs.length = 0
    · rw [hn h0]
      refine (cutF_nil W).mono ?_
      rintro e w' ⟨rfl, rfl⟩
      have hx : xs = [] := List.length_eq_zero_iff.1 (by have := hL.1; omega)
      refine ⟨_, rfl, ?_, Below.refl _ _⟩
      rw [hx]
      exact World.ownsRow_nil w' w'.heap.size 47 1
    · exact cutF_any xs vs base v W hW hL (by omega) hl hz
  clear hb0 hv hn
  go_enter Tryd.func51, Tryd.ntmps51
  go_wp2_with fail
  refine (HCUT.out _ hv1).mono ?_
  rintro e w2 ⟨u, rfl, hu, hb2⟩
  obtain ⟨a, cap, rfl⟩ := own_form hu
  have hs2 : w.heap.size < w2.heap.size := by have := hb2.size; simp at this; omega
  have hc2 : w2.cell? ⟨w.heap.size, 0, none⟩ = some (.string ByteArray.empty) := by rw [hb2.cell (p := ⟨w.heap.size, 0, none⟩) (by simp)]; simp
  have hf2 : w2.frozen? ⟨w.heap.size, 0, none⟩ = false := by rw [hb2.frozen (p := ⟨w.heap.size, 0, none⟩) (by simp)]; simp
  have hc3 : w2.cell? ⟨w.heap.size, 1, none⟩ = some (.slice none 0 0) := by rw [hb2.cell (p := ⟨w.heap.size, 1, none⟩) (by simp)]; simp
  have hf3 : w2.frozen? ⟨w.heap.size, 1, none⟩ = false := by rw [hb2.frozen (p := ⟨w.heap.size, 1, none⟩) (by simp)]; simp
  have hu1 : w2.ownsRow (w.heap.size + 1) 47 1 (.slice a (keepN List.isEmpty xs) cap) (keepN List.isEmpty xs) (vs.take (keepN List.isEmpty xs)) := by simpa using hu
  have HU : Hid (∀ x y, (((w2.setCell ⟨w.heap.size, 0, none⟩ x).setCell ⟨w.heap.size, 1, none⟩ y)).ownsRow w.heap.size 47 1 (.slice a (keepN List.isEmpty xs) cap) (keepN List.isEmpty xs) (vs.take (keepN List.isEmpty xs))) := fun x y =>
    own_mono (own_above2 (own_above2 hu1 (fun b hb' => Deep.blk_setCell_other _ _ _ _ (by simp; omega))) (fun b hb' => Deep.blk_setCell_other _ _ _ _ (by simp; omega))) (by omega)
  have HBW : Hid (∀ x y, Below w.heap.size w ((w2.setCell ⟨w.heap.size, 0, none⟩ x).setCell ⟨w.heap.size, 1, none⟩ y)) := fun x y => ((bjoin' hb2 HB0.out).setCell (p := ⟨w.heap.size, 0, none⟩) (by simp) x).setCell (p := ⟨w.heap.size, 1, none⟩) (by simp) y
  clear hu hu1 hv1 hb2
  go_wp2_with fail
  exact bodyPost_ret (v := .agg #[.string name, .slice a (keepN List.isEmpty xs) cap]) (by simp [results, Tryd.results51, go_sem, hc2, hf2, hs2, hc3, hf3]) rfl ⟨_, rfl, HU.out _ _, HBW.out _ _⟩
end Go.Proofs.YtcphfhfockjljaaDoor.Msg

namespace Go.Proofs.YtcphfhfockjljaaDoor.Msg
open Go.ChangeShapes Go.WideShapes Go.ChangeAt Go.RowKit
set_option linter.unusedVariables false
set_option linter.unusedSimpArgs false

/-- a field with one component, empty if the text is -/
def wordF (s : ByteArray) : Field := if s.size = 0 then [] else [[s]]
theorem isE {s : ByteArray} : s.data.toList.isEmpty = decide (s.size = 0) := by
  cases h : s.data.toList with
  | nil =>
    have : s.size = 0 := by show s.data.size = 0; rw [← Array.length_toList, h]; rfl
    simp [this]
  | cons a r =>
    have : s.size ≠ 0 := by show s.data.size ≠ 0; rw [← Array.length_toList, h]; simp
    simp [this]

theorem lt_of_cell2 {w : World} {b o : Nat} {v : Value} (h : w.cell? ⟨b, o, none⟩ = some v) : b < w.heap.size := by
  rcases Nat.lt_or_ge b w.heap.size with h' | h'
  · exact h'
  · simp [World.cell?, Array.getElem?_eq_none h'] at h
theorem lens1 {β : Type} (a : Option Addr) (x : List β) (c : Nat) : Lens [Value.slice a x.length c] [x] := ⟨rfl, fun k h1 h2 => ⟨a, c, by
  obtain rfl : k = 0 := by simp at h1; omega
  rfl⟩⟩
theorem o_nil (w : World) (a : Option Addr) (c : Nat) : OReps w (.slice a 0 c) [] [] := ⟨by simp, .inl ⟨a, c, rfl, rfl, rfl⟩⟩
/-- one repetition of one component, out of its two rows -/
theorem o_one {w : World} {s : ByteArray} {g g1 cap cap1 : Nat} (hs : s.size ≤ 9223372036854775807) (hg : g < w.heap.size) (hg1 : g1 < w.heap.size) (h0 : w.cell? ⟨g, 0, none⟩ = some (.slice (some ⟨g1, 0, none⟩) 1 cap1)) (h1 : w.cell? ⟨g1, 0, none⟩ = some (.string s)) (h2 : w.frozen? ⟨g1, 0, none⟩ = false) :
    OReps w (.slice (some ⟨g, 0, none⟩) 1 cap) [[s]] [g, g1] := by
  refine ⟨by simp, .inr ⟨g, 0, cap, [[g1]], rfl, hg, rfl, rfl, fun i h h' => ?_⟩⟩
  obtain rfl : i = 0 := by simp at h; omega
  refine ⟨_, h0, by simp, .inr ⟨g1, 0, cap1, [[]], rfl, hg1, rfl, rfl, fun k hk hk' => ?_⟩⟩
  obtain rfl : k = 0 := by simp at hk; omega
  exact ⟨h1, h2, hs, rfl⟩

end Go.Proofs.YtcphfhfockjljaaDoor.Msg
