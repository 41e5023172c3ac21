import Derived.Test.YtcphfhfockjljaaDoorImplSplitwithImplCutwithImplOk
import Derived.Test.YtcphfhfockjljaaDoorParseSegswithParseBackwithDelPure
namespace Go.Proofs.YtcphfhfockjljaaDoor.Msg
open Go.ChangeShapes Go.WideShapes Go.ChangeAt Go.RowKit
set_option linter.unusedVariables false
set_option linter.unusedSimpArgs false

theorem toList_size (s : ByteArray) : s.toList.length = s.size := by rw [ByteArray.toList_eq]; simp
theorem isEmptyText_any (s : ByteArray) (w : World) :
    Calls Tryd.prog 67 #[.string s] w fun e w' => e = .returned (.bool (decide (s.size = 0))) ∧ w' = w := by
  have HE : Hid (s.toList.isEmpty = decide (s.size = 0)) := by
    show s.toList.isEmpty = decide (s.size = 0)
    rw [← toList_size]
    cases s.toList <;> simp
  go_enter Tryd.func67, Tryd.ntmps67
  go_wp2
  go_ret
  exact ⟨ret_bool HE.out, rfl⟩

theorem repIsEmpty_any (a : Option Addr) (n c : Nat) (w : World) :
    Calls Tryd.prog 58 #[.agg #[.slice a n c]] w fun e w' => e = .returned (.bool (decide (n = 0))) ∧ w' = w.alloc (.cells #[.slice a n c] 50) := by
  have HE : Hid (((n : Int) == 0) = decide (n = 0)) := by
    show ((n : Int) == 0) = decide (n = 0)
    by_cases h : n = 0
    · subst h; rfl
    · rw [decide_eq_false h, beq_eq_false_iff_ne]; omega
  go_enter Tryd.func58, Tryd.ntmps58
  go_wp2
  go_ret
  exact ⟨ret_bool HE.out, rfl⟩

theorem fieldIsEmpty_any (a : Option Addr) (n c : Nat) (w : World) :
    Calls Tryd.prog 42 #[.agg #[.slice a n c]] w fun e w' => e = .returned (.bool (decide (n = 0))) ∧ w' = w.alloc (.cells #[.slice a n c] 47) := by
  have HE : Hid (((n : Int) == 0) = decide (n = 0)) := by
    show ((n : Int) == 0) = decide (n = 0)
    by_cases h : n = 0
    · subst h; rfl
    · rw [decide_eq_false h, beq_eq_false_iff_ne]; omega
  go_enter Tryd.func42, Tryd.ntmps42
  go_wp2
  go_ret
  exact ⟨ret_bool HE.out, rfl⟩

/-- a list that is no longer than 'lim' and whose last is not empty -/
def csB {α : Type} (lim : Nat) (f : α → Nat) (xs : List α) : Bool := decide (xs.length ≤ lim) && endB f xs

set_option maxHeartbeats 1000000 in
theorem cutShortS_any (xs : List ByteArray) (lim : Nat) (v : Value) (w : World) {lo : Nat} (hv : StrsAt lo w v xs) (hlim : lim ≤ 1000) :
    Calls Tryd.prog 73 #[v, .int .i64 lim, .func (.func 67) #[] #[]] w fun e w' => e = .returned (.bool (csB lim ByteArray.size xs)) ∧ w' = w := by
  have hl := hv.1
  obtain ⟨a, cap, rfl, hc⟩ := hv.form
  have HR : Hid (csB lim ByteArray.size xs = (decide (xs.length ≤ lim) && endB ByteArray.size xs)) := rfl
  by_cases hle : (xs.length : Int) ≤ (lim : Int)
  · by_cases h0 : xs.length = 0
    · have hz : ((xs.length : Int) == 0) = true := by rw [beq_iff_eq]; omega
      have HX : Hid (csB lim ByteArray.size xs = true) := by rw [HR.out, endB_nil _ _ h0, decide_eq_true (by omega)]; rfl
      clear h0 hc hv
      go_enter Tryd.func73, Tryd.ntmps73
      go_wp2_with fail
      go_ret
      exact ⟨ret_bool HX.out.symm, rfl⟩
    · have hz : ((xs.length : Int) == 0) = false := by rw [beq_eq_false_iff_ne]; omega
      have hi : xs.length - 1 < xs.length := by omega
      obtain ⟨b, off, rfl, _, hbl, hr⟩ := hc (xs.length - 1) hi
      have hlast : w.cell? ⟨b, off + (xs.length - 1), none⟩ = some (.string (xs[xs.length - 1]'hi)) := by simpa using hr.1
      have HE : Hid (endB ByteArray.size xs = decide (0 < (xs[xs.length - 1]'hi).size)) := endB_at ByteArray.size xs (by omega)
      have hn1 : ((xs.length : Int) - 1).toNat = xs.length - 1 := by omega
      have hn2 : ¬ (xs.length : Int) - 1 < 0 := by omega
      clear hr hc hv
      generalize xs[xs.length - 1]'hi = z at *
      have HX : Hid (csB lim ByteArray.size xs = !decide (z.size = 0)) := by
        rw [HR.out, HE.out, decide_eq_true (by omega), Bool.true_and]
        by_cases hq : z.size = 0
        · rw [decide_eq_true hq, decide_eq_false (by omega)]; rfl
        · rw [decide_eq_false hq, decide_eq_true (by omega)]; rfl
      obtain ⟨bz, HB⟩ : ∃ b, Hid (decide (z.size = 0) = b) := ⟨_, rfl⟩
      clear h0
      go_enter Tryd.func73, Tryd.ntmps73
      go_wp2_with fail
      refine (isEmptyText_any z _).mono ?_
      rintro e w' ⟨rfl, rfl⟩
      rw [HB.out]
      go_wp2_with fail
      go_ret
      exact ⟨ret_bool (by rw [HX.out, HB.out]), rfl⟩
  · have HX : Hid (csB lim ByteArray.size xs = false) := by rw [HR.out, decide_eq_false (by omega)]; rfl
    clear hc hv
    go_enter Tryd.func73, Tryd.ntmps73
    go_wp2_with fail
    go_ret
    exact ⟨ret_bool HX.out.symm, rfl⟩
set_option maxHeartbeats 1000000 in
theorem cutShortR_any (xs : List Rep) (lim : Nat) (v : Value) (w : World) {lo : Nat} (hv : RepsAt lo w v xs) (hlim : lim ≤ 1000) :
    Calls Tryd.prog 57 #[v, .int .i64 lim, .func (.func 58) #[] #[]] w fun e w' => e = .returned (.bool (csB lim List.length xs)) ∧ Below w.heap.size w w' := by
  have hl := hv.1
  obtain ⟨a, cap, rfl, hc⟩ := hv.form
  have HR : Hid (csB lim List.length xs = (decide (xs.length ≤ lim) && endB List.length xs)) := rfl
  by_cases hle : (xs.length : Int) ≤ (lim : Int)
  · by_cases h0 : xs.length = 0
    · have hz : ((xs.length : Int) == 0) = true := by rw [beq_iff_eq]; omega
      have HX : Hid (csB lim List.length xs = true) := by rw [HR.out, endB_nil _ _ h0, decide_eq_true (by omega)]; rfl
      clear h0 hc hv
      go_enter Tryd.func57, Tryd.ntmps57
      go_wp2_with fail
      go_ret
      exact ⟨ret_bool HX.out.symm, Below.refl _ _⟩
    · have hz : ((xs.length : Int) == 0) = false := by rw [beq_eq_false_iff_ne]; omega
      have hi : xs.length - 1 < xs.length := by omega
      obtain ⟨b, off, rfl, _, hbl, ve, hcell, hel⟩ := hc (xs.length - 1) hi
      have hlast : w.cell? ⟨b, off + (xs.length - 1), none⟩ = some ve := by simpa using hcell
      obtain ⟨a5, cap5, rfl, _⟩ := hel.form
      have HE : Hid (endB List.length xs = decide (0 < (xs[xs.length - 1]'hi).length)) := endB_at List.length xs (by omega)
      have hn1 : ((xs.length : Int) - 1).toNat = xs.length - 1 := by omega
      have hn2 : ¬ (xs.length : Int) - 1 < 0 := by omega
      clear hcell hel hc hv
      generalize xs[xs.length - 1]'hi = z at *
      have HX : Hid (csB lim List.length xs = !decide (z.length = 0)) := by
        rw [HR.out, HE.out, decide_eq_true (by omega), Bool.true_and]
        by_cases hq : z.length = 0
        · rw [decide_eq_true hq, decide_eq_false (by omega)]; rfl
        · rw [decide_eq_false hq, decide_eq_true (by omega)]; rfl
      obtain ⟨bz, HB⟩ : ∃ b, Hid (decide (z.length = 0) = b) := ⟨_, rfl⟩
      clear h0
      go_enter Tryd.func57, Tryd.ntmps57
      go_wp2_with fail
      refine (repIsEmpty_any _ _ _ _).mono ?_
      rintro e w' ⟨rfl, rfl⟩
      rw [HB.out]
      go_wp2_with fail
      go_ret
      exact ⟨ret_bool (by rw [HX.out, HB.out]), (Below.refl _ _).alloc (Nat.le_refl _) _⟩
  · have HX : Hid (csB lim List.length xs = false) := by rw [HR.out, decide_eq_false (by omega)]; rfl
    clear hc hv
    go_enter Tryd.func57, Tryd.ntmps57
    go_wp2_with fail
    go_ret
    exact ⟨ret_bool HX.out.symm, Below.refl _ _⟩

set_option maxHeartbeats 1000000 in
theorem cutShortF_any (xs : List Field) (lim : Nat) (v : Value) (w : World) {lo : Nat} (hv : FieldsAt lo w v xs) (hlim : lim ≤ 1000) :
    Calls Tryd.prog 41 #[v, .int .i64 lim, .func (.func 42) #[] #[]] w fun e w' => e = .returned (.bool (csB lim List.length xs)) ∧ Below w.heap.size w w' := by
  have hl := hv.1
  obtain ⟨a, cap, rfl, hc⟩ := hv.form
  have HR : Hid (csB lim List.length xs = (decide (xs.length ≤ lim) && endB List.length xs)) := rfl
  by_cases hle : (xs.length : Int) ≤ (lim : Int)
  · by_cases h0 : xs.length = 0
    · have hz : ((xs.length : Int) == 0) = true := by rw [beq_iff_eq]; omega
      have HX : Hid (csB lim List.length xs = true) := by rw [HR.out, endB_nil _ _ h0, decide_eq_true (by omega)]; rfl
      clear h0 hc hv
      go_enter Tryd.func41, Tryd.ntmps41
      go_wp2_with fail
      go_ret
      exact ⟨ret_bool HX.out.symm, Below.refl _ _⟩
    · have hz : ((xs.length : Int) == 0) = false := by rw [beq_eq_false_iff_ne]; omega
      have hi : xs.length - 1 < xs.length := by omega
      obtain ⟨b, off, rfl, _, hbl, ve, hcell, hel⟩ := hc (xs.length - 1) hi
      have hlast : w.cell? ⟨b, off + (xs.length - 1), none⟩ = some ve := by simpa using hcell
      obtain ⟨a5, cap5, rfl, _⟩ := hel.form
      have HE : Hid (endB List.length xs = decide (0 < (xs[xs.length - 1]'hi).length)) := endB_at List.length xs (by omega)
      have hn1 : ((xs.length : Int) - 1).toNat = xs.length - 1 := by omega
      have hn2 : ¬ (xs.length : Int) - 1 < 0 := by omega
      clear hcell hel hc hv
      generalize xs[xs.length - 1]'hi = z at *
      have HX : Hid (csB lim List.length xs = !decide (z.length = 0)) := by
        rw [HR.out, HE.out, decide_eq_true (by omega), Bool.true_and]
        by_cases hq : z.length = 0
        · rw [decide_eq_true hq, decide_eq_false (by omega)]; rfl
        · rw [decide_eq_false hq, decide_eq_true (by omega)]; rfl
      obtain ⟨bz, HB⟩ : ∃ b, Hid (decide (z.length = 0) = b) := ⟨_, rfl⟩
      clear h0
      go_enter Tryd.func41, Tryd.ntmps41
      go_wp2_with fail
      refine (fieldIsEmpty_any _ _ _ _).mono ?_
      rintro e w' ⟨rfl, rfl⟩
      rw [HB.out]
      go_wp2_with fail
      go_ret
      exact ⟨ret_bool (by rw [HX.out, HB.out]), (Below.refl _ _).alloc (Nat.le_refl _) _⟩
  · have HX : Hid (csB lim List.length xs = false) := by rw [HR.out, decide_eq_false (by omega)]; rfl
    clear hc hv
    go_enter Tryd.func41, Tryd.ntmps41
    go_wp2_with fail
    go_ret
    exact ⟨ret_bool HX.out.symm, Below.refl _ _⟩
end Go.Proofs.YtcphfhfockjljaaDoor.Msg

namespace Go.Proofs.YtcphfhfockjljaaDoor.Msg
open Go.ChangeShapes Go.WideShapes Go.ChangeAt Go.RowKit
set_option linter.unusedVariables false
set_option linter.unusedSimpArgs false

theorem add_none0 (b off k : Nat) : (⟨b, off, none⟩ : Addr).add k = ⟨b, off + k, none⟩ := by
  unfold Addr.add
  split <;> simp_all
theorem take_cells (ps : List (List UInt8)) (k : Nat) (hk : k ≤ ps.length) {w : World} {g : Nat} (hc : ∀ i (hi : i < ps.length), w.cell? ⟨g, i, none⟩ = some (.string (txt ps[i])) ∧ w.frozen? ⟨g, i, none⟩ = false) :
    ∀ (j : Nat) (u : Value), (((ps.take k).map txt).map Value.string)[j]? = some u → w.cell? ((⟨g, 0, none⟩ : Addr).add j) = some u := by
  intro j u hj
  rw [add_none0, Nat.zero_add]
  have hjl : j < (((ps.take k).map txt).map Value.string).length := (List.getElem?_eq_some_iff.1 hj).1
  simp only [List.length_map, List.length_take] at hjl
  rw [List.getElem?_eq_getElem (by simp only [List.length_map, List.length_take]; omega)] at hj
  simp only [List.getElem_map, List.getElem_take] at hj
  injection hj with hj
  rw [← hj]
  exact (hc j (by omega)).1
theorem one_strs (xs : List ByteArray) : ∀ u ∈ xs.map Value.string, u.oneCell' = true := by
  intro u hu
  rw [List.mem_map] at hu
  obtain ⟨x, _, rfl⟩ := hu
  rfl
theorem grown_nil {w w' : World} (h : w.grownBy w' none) : Below w.heap.size w w' := ⟨h.os, h.tape, h.output, h.size, fun k hk => h.block k hk (by simp)⟩
set_option maxRecDepth 100000 in
set_option maxHeartbeats 2000000 in
theorem cutS_any (ps : List (List UInt8)) (base : Nat) (v : Value) (w : World) (hv : SBuf base w v (ps.map txt)) (hp : 0 < ps.length) (hl : ps.length ≤ 40001) (hz : ∀ p ∈ ps, p.length ≤ 1048576) :
    Calls Tryd.prog 66 #[v, .func (.func 67) #[] #[]] w fun e w' => ∃ u, e = .returned u ∧ SBuf w.heap.size w' u ((trimE List.isEmpty ps).map txt) ∧ Below w.heap.size w w' := by
  obtain ⟨i0, hi, hz0, hz1, hz2⟩ := str_facts
  obtain ⟨g, cap, rfl, hg, hgl, hcap, hcm, hcell⟩ := pieces_form hv hp
  have HC := hide hcell
  clear hv hcell
  go_enter Tryd.func66, Tryd.ntmps66
  go_wp2_with fail
  go_loop [5] (fun n => ∃ k : Nat, k ≤ ps.length ∧ n = .int .i64 k ∧ ∀ j (h : j < ps.length), k ≤ j → (ps[j]).isEmpty = true) (fun n => (intOf n).toNat)
  case atStart => exact ⟨ps.length, Nat.le_refl _, rfl, fun j h h1 => absurd h1 (by omega)⟩
  case round =>
    obtain ⟨k, hk, rfl, hA⟩ := hrel
    have HA := hide hA
    clear hA
    by_cases hz : 0 < k
    · have hk1 : k - 1 < ps.length := by omega
      have hzi : (0 : Int) < (k : Int) := by omega
      have hc1 := (HC.out (k - 1) hk1).1
      have htn : ((k : Int) - 1).toNat = k - 1 := by omega
      have hb0' : (0 : Int) ≤ (k : Int) - 1 := by omega
      have hb1' : (k : Int) - 1 < (ps.length : Int) := by omega
      have HTS := hide (txt_size (ps[k - 1]'hk1))
      cases hem : (ps[k - 1]'hk1).isEmpty
      · have HD : Hid (decide ((txt (ps[k - 1]'hk1)).size = 0) = false) := by
          rw [HTS.out]
          show decide _ = false
          refine decide_eq_false fun h0 => ?_
          rw [List.length_eq_zero_iff.1 h0] at hem; cases hem
        have HK := hide (keepN_is List.isEmpty ps k hk HA.out (fun _ _ => hem))
        have HT : Hid (trimE List.isEmpty ps = ps.take k) := by unfold trimE; rw [HK.out]; trivial
        clear hem
        have hcp : (k : Int) ≤ (cap : Int) := by omega
        go_wp2_with fail
        refine (isEmptyText_any _ _).mono ?_
        rintro e w' ⟨rfl, rfl⟩
        rw [HD.out]
        go_wp2_with (first
          | (at_builtin; refine wpList_append_own_at _ rfl _ _ 48 rfl w'.heap.size 9 i0 (.string ByteArray.empty) 1 16 Tryd.underlying48 hi hz0 hz1 hz2 rfl (by decide) _ _ _ rfl (World.ownsRow_nil w' w'.heap.size 9 1) ⟨g, 0, none⟩ k cap (((ps.take k).map txt).map Value.string) rfl ?c0 ?c1 ?c2 ?c3 ?c4 ?c5 ?_)
          | fail)
        case c0 => simp; omega
        case c1 => exact take_cells ps k hk HC.out
        case c2 => exact one_strs _
        case c3 => unfold maxLen; omega
        case c4 => omega
        case c5 => exact Nat.le_refl _
        intro v' w2 hown' hgrow hnil hat
        have HS : Hid (SBuf w'.heap.size w2 v' ((trimE List.isEmpty ps).map txt)) := by
          have hlk : ((ps.take k).map txt).length = 0 + k := by simp; omega
          rw [HT.out]
          show World.ownsRow _ _ _ _ _ _ _
          rw [hlk]
          simpa using hown'
        have HBW := hide (grown_nil (by simpa [Value.ownBlock] using hgrow))
        clear hown' hgrow hnil hat
        go_wp2_with fail
        go_ret
        exact ⟨_, rfl, HS.out, HBW.out⟩
      · have HD : Hid (decide ((txt (ps[k - 1]'hk1)).size = 0) = true) := by
          rw [HTS.out, List.isEmpty_iff.1 hem]; rfl
        have HA2 : Hid (∀ j (h : j < ps.length), k - 1 ≤ j → (ps[j]).isEmpty = true) := fun j hj h => by
          by_cases e : j = k - 1
          · subst e; exact hem
          · exact HA.out j hj (by omega)
        clear hem
        go_wp2_with fail
        refine (isEmptyText_any _ _).mono ?_
        rintro e w' ⟨rfl, rfl⟩
        rw [HD.out]
        go_wp2_with fail
        go_round
        case rel => exact ⟨k - 1, by omega, by go_num, HA2.out⟩
        case measure => simp [intOf]; omega
    · obtain rfl : k = 0 := by omega
      have HK := hide (keepN_is List.isEmpty ps 0 (Nat.zero_le _) HA.out (fun _ h => absurd h (by omega)))
      have HT : Hid (trimE List.isEmpty ps = []) := by unfold trimE; rw [HK.out]; rfl
      have HS : Hid (SBuf w.heap.size w (.slice none 0 0) ((trimE List.isEmpty ps).map txt)) := by
        rw [HT.out]
        exact World.ownsRow_nil w w.heap.size 9 1
      go_wp2_with fail
      go_ret
      exact ⟨_, rfl, HS.out, Below.refl _ _⟩
end Go.Proofs.YtcphfhfockjljaaDoor.Msg

namespace Go.Proofs.YtcphfhfockjljaaDoor.Msg
open Go.ChangeShapes Go.WideShapes Go.ChangeAt Go.RowKit
set_option linter.unusedVariables false
set_option linter.unusedSimpArgs false

/-- the cells of a row of lists: each a slice of as many elements as its list has -/
def Lens {β : Type} (vs : List Value) (xs : List (List β)) : Prop := vs.length = xs.length ∧ ∀ i (h : i < vs.length) (h2 : i < xs.length), ∃ a c, vs[i] = .slice a xs[i].length c
theorem row_cells {vs : List Value} {k : Nat} (hk : k ≤ vs.length) {w : World} {g : Nat} (hc : ∀ i (hi : i < vs.length), w.cell? ⟨g, i, none⟩ = some vs[i]) :
    ∀ (j : Nat) (u : Value), (vs.take k)[j]? = some u → w.cell? ((⟨g, 0, none⟩ : Addr).add j) = some u := by
  intro j u hj
  rw [add_none0, Nat.zero_add]
  have hjl := (List.getElem?_eq_some_iff.1 hj).1
  rw [List.length_take] at hjl
  rw [List.getElem?_eq_getElem (by rw [List.length_take]; omega), List.getElem_take] at hj
  injection hj with hj
  rw [← hj]
  exact hc j (by omega)
theorem one_lens {β : Type} {vs : List Value} {xs : List (List β)} (h : Lens vs xs) (k : Nat) : ∀ u ∈ vs.take k, u.oneCell' = true := by
  intro u hu
  have hu := List.mem_of_mem_take hu
  obtain ⟨i, hi, rfl⟩ := List.getElem_of_mem hu
  obtain ⟨a, c, e⟩ := h.2 i hi (by have := h.1; omega)
  rw [e]
  rfl
set_option maxRecDepth 100000 in
set_option maxHeartbeats 2000000 in
theorem cutR_any {β : Type} (xs : List (List β)) (vs : List Value) (base : Nat) (v : Value) (w : World) (hv : w.ownsRow base 50 1 v vs.length vs) (hL : Lens vs xs) (hp : 0 < vs.length) (hl : vs.length ≤ 40001) (hz : ∀ x ∈ xs, x.length ≤ 9223372036854775807) :
    Calls Tryd.prog 68 #[v, .func (.func 58) #[] #[]] w fun e w' => ∃ u, e = .returned u ∧ w'.ownsRow w.heap.size 50 1 u (keepN List.isEmpty xs) (vs.take (keepN List.isEmpty xs)) ∧ Below w.heap.size w w' := by
  obtain ⟨i0, hi, hz0, hz1, hz2⟩ := info_facts info_Rep
  obtain ⟨g, cap, rfl, hg, hgl, hcell, hcap⟩ : ∃ g cap, v = .slice (some ⟨g, 0, none⟩) vs.length cap ∧ base ≤ g ∧ g < w.heap.size ∧ (∀ i (hi : i < vs.length), w.cell? ⟨g, i, none⟩ = some vs[i]) ∧ vs.length ≤ cap := by
    rcases own_cells hv with ⟨h0, _⟩ | ⟨g, cap, rfl, h1, h2, h3⟩
    · subst h0; simp at hp
    · refine ⟨g, cap, rfl, h1, h2, fun i hi => (h3 i hi).1, ?_⟩
      obtain ⟨_, ⟨e1, _⟩ | ⟨g', cap', cur, e1, _, _, hcap, _⟩⟩ := hv
      · cases e1
      · injection e1 with _ _ e3
        subst e3
        exact hcap
  have HLE := hide hL.1
  have HC := hide hcell
  have HL := hide hL
  have HZ := hide hz
  clear hv hcell hL hz
  go_enter Tryd.func68, Tryd.ntmps68
  go_wp2_with fail
  go_loopw [5] (fun n wr => ∃ k : Nat, k ≤ vs.length ∧ n = .int .i64 k ∧ (∀ j (h : j < xs.length), k ≤ j → (xs[j]).isEmpty = true) ∧ Below w.heap.size w wr) (fun n _ => (intOf n).toNat)
  case atStart => exact ⟨vs.length, Nat.le_refl _, rfl, fun j h h1 => absurd h1 (by have := HLE.out; omega), Below.refl _ _⟩
  case round =>
    obtain ⟨k, hk, rfl, hA, hb⟩ := hrel
    have HA := hide hA
    clear hA
    by_cases hz : 0 < k
    · have hk1 : k - 1 < vs.length := by omega
      have hk2 : k - 1 < xs.length := by have := HLE.out; omega
      obtain ⟨a5, c5, e5⟩ := HL.out.2 (k - 1) hk1 hk2
      have hc1 : wr.cell? ⟨g, k - 1, none⟩ = some (.slice a5 (xs[k - 1]'hk2).length c5) := by rw [hb.cell (p := ⟨g, k - 1, none⟩) hgl, ← e5]; exact HC.out (k - 1) hk1
      have hzi : (0 : Int) < (k : Int) := by omega
      have htn : ((k : Int) - 1).toNat = k - 1 := by omega
      have hb0' : (0 : Int) ≤ (k : Int) - 1 := by omega
      have hb1' : (k : Int) - 1 < (vs.length : Int) := by omega
      have hbs := hb.size
      clear e5
      cases hem : (xs[k - 1]'hk2).isEmpty
      · have HD : Hid (decide ((xs[k - 1]'hk2).length = 0) = false) := by
          show decide _ = false
          refine decide_eq_false fun h0 => ?_
          rw [List.length_eq_zero_iff.1 h0] at hem; cases hem
        have HK := hide (keepN_is List.isEmpty xs k (by have := HLE.out; omega) HA.out (fun _ _ => hem))
        clear hem
        have hcp : (k : Int) ≤ (cap : Int) := by omega
        have hbA := hb.alloc hb.size (Obj.cells #[.slice a5 (xs[k - 1]'hk2).length c5] 50)
        have HCA : Hid (∀ i (hi : i < vs.length), (wr.alloc (Obj.cells #[.slice a5 (xs[k - 1]'hk2).length c5] 50)).cell? ⟨g, i, none⟩ = some vs[i]) := fun i hi => by rw [hbA.cell (p := ⟨g, i, none⟩) hgl]; exact HC.out i hi
        have HBA := hide hbA
        clear hbA
        go_wp2_with fail
        refine (repIsEmpty_any _ _ _ _).mono ?_
        rintro e w2 ⟨rfl, rfl⟩
        rw [HD.out]
        go_wp2_with (first
          | (at_builtin; refine wpList_append_own_at _ rfl _ _ 45 rfl w.heap.size 50 i0 (.agg #[.slice none 0 0]) 1 24 Tryd.underlying45 hi hz0 hz1 hz2 rfl (by decide) _ _ _ rfl (World.ownsRow_nil _ w.heap.size 50 1) ⟨g, 0, none⟩ k cap (vs.take k) rfl ?c0 ?c1 ?c2 ?c3 ?c4 ?c5 ?_)
          | fail)
        case c0 => simp; omega
        case c1 => exact row_cells hk HCA.out
        case c2 => exact one_lens HL.out k
        case c3 => unfold maxLen; omega
        case c4 => omega
        case c5 => simp; omega
        intro v' w2 hown' hgrow hnil hat
        have HS : Hid (w2.ownsRow w.heap.size 50 1 v' (keepN List.isEmpty xs) (vs.take (keepN List.isEmpty xs))) := by
          show World.ownsRow _ _ _ _ _ _ _
          rw [HK.out]
          simpa using hown'
        have HBW := hide (HBA.out.grown (row := none) (by simpa [Value.ownBlock] using hgrow) (by simp; omega) (fun b hb' => by cases hb'))
        clear hown' hgrow hnil hat
        go_wp2_with fail
        go_ret
        exact ⟨_, rfl, HS.out, HBW.out⟩
      · have HD : Hid (decide ((xs[k - 1]'hk2).length = 0) = true) := by
          rw [List.isEmpty_iff.1 hem]; rfl
        have HA2 : Hid (∀ j (h : j < xs.length), k - 1 ≤ j → (xs[j]).isEmpty = true) := fun j hj h => by
          by_cases e : j = k - 1
          · subst e; exact hem
          · exact HA.out j hj (by omega)
        clear hem
        have HBA := hide (hb.alloc hb.size (Obj.cells #[.slice a5 (xs[k - 1]'hk2).length c5] 50))
        go_wp2_with fail
        refine (repIsEmpty_any _ _ _ _).mono ?_
        rintro e w2 ⟨rfl, rfl⟩
        rw [HD.out]
        go_wp2_with fail
        go_roundw
        case rel => exact ⟨k - 1, by omega, by go_num, HA2.out, HBA.out⟩
        case measure => simp [intOf]; omega
    · obtain rfl : k = 0 := by omega
      have HK := hide (keepN_is List.isEmpty xs 0 (Nat.zero_le _) HA.out (fun _ h => absurd h (by omega)))
      have HS : Hid (wr.ownsRow w.heap.size 50 1 (.slice none 0 0) (keepN List.isEmpty xs) (vs.take (keepN List.isEmpty xs))) := by
        rw [HK.out]
        exact World.ownsRow_nil wr w.heap.size 50 1
      go_wp2_with fail
      go_ret
      exact ⟨_, rfl, HS.out, hb⟩
end Go.Proofs.YtcphfhfockjljaaDoor.Msg
