import Derived.Test.YtpdnocolmghnbaaDoorImplShort
namespace Go.Proofs.YtpdnocolmghnbaaDoor.Msg
open Go.ChangeShapes Go.WideShapes Go.ChangeAt Go.RowKit
set_option linter.unusedVariables false
set_option linter.unusedSimpArgs false

/-- the cells of a row of lists: each a slice of as many elements as its list has -/
def Lens {β : Type} (vs : List Value) (xs : List (List β)) : Prop := vs.length = xs.length ∧ ∀ i (h : i < vs.length) (h2 : i < xs.length), ∃ a c, vs[i] = .slice a xs[i].length c
theorem row_cells {vs : List Value} {k : Nat} (hk : k ≤ vs.length) {w : World} {g : Nat} (hc : ∀ i (hi : i < vs.length), w.cell? ⟨g, i, none⟩ = some vs[i]) :
    ∀ (j : Nat) (u : Value), (vs.take k)[j]? = some u → w.cell? ((⟨g, 0, none⟩ : Addr).add j) = some u := by
  intro j u hj
  rw [add_none0, Nat.zero_add]
  have hjl := (List.getElem?_eq_some_iff.1 hj).1
  rw [List.length_take] at hjl
  rw [List.getElem?_eq_getElem (by rw [List.length_take]; omega), List.getElem_take] at hj
  injection hj with hj
  rw [← hj]
  exact hc j (by omega)
theorem one_lens {β : Type} {vs : List Value} {xs : List (List β)} (h : Lens vs xs) (k : Nat) : ∀ u ∈ vs.take k, u.oneCell' = true := by
  intro u hu
  have hu := List.mem_of_mem_take hu
  obtain ⟨i, hi, rfl⟩ := List.getElem_of_mem hu
  obtain ⟨a, c, e⟩ := h.2 i hi (by have := h.1; omega)
  rw [e]
  rfl
set_option maxRecDepth 100000 in
set_option maxHeartbeats 2000000 in
theorem cutR_any {β : Type} (xs : List (List β)) (vs : List Value) (base : Nat) (v : Value) (w : World) (hv : w.ownsRow base 50 1 v vs.length vs) (hL : Lens vs xs) (hp : 0 < vs.length) (hl : vs.length ≤ 40001) (hz : ∀ x ∈ xs, x.length ≤ 9223372036854775807) :
    Calls Tryd.prog 61 #[v, .func (.func 62) #[] #[]] w fun e w' => ∃ u, e = .returned u ∧ w'.ownsRow w.heap.size 50 1 u (keepN List.isEmpty xs) (vs.take (keepN List.isEmpty xs)) ∧ Below w.heap.size w w' := by
  obtain ⟨i0, hi, hz0, hz1, hz2⟩ := info_facts info_Rep
  obtain ⟨g, cap, rfl, hg, hgl, hcell, hcap⟩ : ∃ g cap, v = .slice (some ⟨g, 0, none⟩) vs.length cap ∧ base ≤ g ∧ g < w.heap.size ∧ (∀ i (hi : i < vs.length), w.cell? ⟨g, i, none⟩ = some vs[i]) ∧ vs.length ≤ cap := by
    rcases own_cells hv with ⟨h0, _⟩ | ⟨g, cap, rfl, h1, h2, h3⟩
    · subst h0; simp at hp
    · refine ⟨g, cap, rfl, h1, h2, fun i hi => (h3 i hi).1, ?_⟩
      obtain ⟨_, ⟨e1, _⟩ | ⟨g', cap', cur, e1, _, _, hcap, _⟩⟩ := hv
      · cases e1
      · injection e1 with _ _ e3
        subst e3
        exact hcap
  have HLE := hide hL.1
  have HC := hide hcell
  have HL := hide hL
  have HZ := hide hz
  clear hv hcell hL hz
  go_enter Tryd.func61, Tryd.ntmps61
  go_wp2_with fail
  go_loopw [5] (fun n wr => ∃ k : Nat, k ≤ vs.length ∧ n = .int .i64 k ∧ (∀ j (h : j < xs.length), k ≤ j → (xs[j]).isEmpty = true) ∧ Below w.heap.size w wr) (fun n _ => (intOf n).toNat)
  case atStart => exact ⟨vs.length, Nat.le_refl _, rfl, fun j h h1 => absurd h1 (by have := HLE.out; omega), Below.refl _ _⟩
  case round =>
    obtain ⟨k, hk, rfl, hA, hb⟩ := hrel
    have HA := hide hA
    clear hA
    by_cases hz : 0 < k
    · have hk1 : k - 1 < vs.length := by omega
      have hk2 : k - 1 < xs.length := by have := HLE.out; omega
      obtain ⟨a5, c5, e5⟩ := HL.out.2 (k - 1) hk1 hk2
      have hc1 : wr.cell? ⟨g, k - 1, none⟩ = some (.slice a5 (xs[k - 1]'hk2).length c5) := by rw [hb.cell (p := ⟨g, k - 1, none⟩) hgl, ← e5]; exact HC.out (k - 1) hk1
      have hzi : (0 : Int) < (k : Int) := by omega
      have htn : ((k : Int) - 1).toNat = k - 1 := by omega
      have hb0' : (0 : Int) ≤ (k : Int) - 1 := by omega
      have hb1' : (k : Int) - 1 < (vs.length : Int) := by omega
      have hbs := hb.size
      clear e5
      cases hem : (xs[k - 1]'hk2).isEmpty
      · have HD : Hid (decide ((xs[k - 1]'hk2).length = 0) = false) := by
          show decide _ = false
          refine decide_eq_false fun h0 => ?_
          rw [List.length_eq_zero_iff.1 h0] at hem; cases hem
        have HK := hide (keepN_is List.isEmpty xs k (by have := HLE.out; omega) HA.out (fun _ _ => hem))
        clear hem
        have hcp : (k : Int) ≤ (cap : Int) := by omega
        have hbA := hb.alloc hb.size (Obj.cells #[.slice a5 (xs[k - 1]'hk2).length c5] 50)
        have HCA : Hid (∀ i (hi : i < vs.length), (wr.alloc (Obj.cells #[.slice a5 (xs[k - 1]'hk2).length c5] 50)).cell? ⟨g, i, none⟩ = some vs[i]) := fun i hi => by rw [hbA.cell (p := ⟨g, i, none⟩) hgl]; exact HC.out i hi
        have HBA := hide hbA
        clear hbA
        go_wp2_with fail
        refine (repIsEmpty_any _ _ _ _).mono ?_
        rintro e w2 ⟨rfl, rfl⟩
        rw [HD.out]
        go_wp2_with (first
          | (at_builtin; refine wpList_append_own_at _ rfl _ _ 45 rfl w.heap.size 50 i0 (.agg #[.slice none 0 0]) 1 24 Tryd.underlying45 hi hz0 hz1 hz2 rfl (by decide) _ _ _ rfl (World.ownsRow_nil _ w.heap.size 50 1) ⟨g, 0, none⟩ k cap (vs.take k) rfl ?c0 ?c1 ?c2 ?c3 ?c4 ?c5 ?_)
          | fail)
        case c0 => simp; omega
        case c1 => exact row_cells hk HCA.out
        case c2 => exact one_lens HL.out k
        case c3 => unfold maxLen; omega
        case c4 => omega
        case c5 => simp; omega
        intro v' w2 hown' hgrow hnil hat
        have HS : Hid (w2.ownsRow w.heap.size 50 1 v' (keepN List.isEmpty xs) (vs.take (keepN List.isEmpty xs))) := by
          show World.ownsRow _ _ _ _ _ _ _
          rw [HK.out]
          simpa using hown'
        have HBW := hide (HBA.out.grown (row := none) (by simpa [Value.ownBlock] using hgrow) (by simp; omega) (fun b hb' => by cases hb'))
        clear hown' hgrow hnil hat
        go_wp2_with fail
        go_ret
        exact ⟨_, rfl, HS.out, HBW.out⟩
      · have HD : Hid (decide ((xs[k - 1]'hk2).length = 0) = true) := by
          rw [List.isEmpty_iff.1 hem]; rfl
        have HA2 : Hid (∀ j (h : j < xs.length), k - 1 ≤ j → (xs[j]).isEmpty = true) := fun j hj h => by
          by_cases e : j = k - 1
          · subst e; exact hem
          · exact HA.out j hj (by omega)
        clear hem
        have HBA := hide (hb.alloc hb.size (Obj.cells #[.slice a5 (xs[k - 1]'hk2).length c5] 50))
        go_wp2_with fail
        refine (repIsEmpty_any _ _ _ _).mono ?_
        rintro e w2 ⟨rfl, rfl⟩
        rw [HD.out]
        go_wp2_with fail
        go_roundw
        case rel => exact ⟨k - 1, by omega, by go_num, HA2.out, HBA.out⟩
        case measure => simp [intOf]; omega
    · obtain rfl : k = 0 := by omega
      have HK := hide (keepN_is List.isEmpty xs 0 (Nat.zero_le _) HA.out (fun _ h => absurd h (by omega)))
      have HS : Hid (wr.ownsRow w.heap.size 50 1 (.slice none 0 0) (keepN List.isEmpty xs) (vs.take (keepN List.isEmpty xs))) := by
        rw [HK.out]
        exact World.ownsRow_nil wr w.heap.size 50 1
      go_wp2_with fail
      go_ret
      exact ⟨_, rfl, HS.out, hb⟩
end Go.Proofs.YtpdnocolmghnbaaDoor.Msg
