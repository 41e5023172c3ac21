import Derived.Test.YtpdnocolmghnbaaDoorImplCut
import Derived.Test.YtpdnocolmghnbaaDoorParseSegs
import Derived.Test.YtpdnocolmghnbaaDoorImplCs
namespace Go.Proofs.YtpdnocolmghnbaaDoor.Msg
open Go.ChangeShapes Go.WideShapes Go.ChangeAt Go.RowKit
set_option linter.unusedVariables false
set_option linter.unusedSimpArgs false

theorem add_none0 (b off k : Nat) : (⟨b, off, none⟩ : Addr).add k = ⟨b, off + k, none⟩ := by
  unfold Addr.add
  split <;> simp_all
theorem take_cells (ps : List (List UInt8)) (k : Nat) (hk : k ≤ ps.length) {w : World} {g : Nat} (hc : ∀ i (hi : i < ps.length), w.cell? ⟨g, i, none⟩ = some (.string (txt ps[i])) ∧ w.frozen? ⟨g, i, none⟩ = false) :
    ∀ (j : Nat) (u : Value), (((ps.take k).map txt).map Value.string)[j]? = some u → w.cell? ((⟨g, 0, none⟩ : Addr).add j) = some u := by
  intro j u hj
  rw [add_none0, Nat.zero_add]
  have hjl : j < (((ps.take k).map txt).map Value.string).length := (List.getElem?_eq_some_iff.1 hj).1
  simp only [List.length_map, List.length_take] at hjl
  rw [List.getElem?_eq_getElem (by simp only [List.length_map, List.length_take]; omega)] at hj
  simp only [List.getElem_map, List.getElem_take] at hj
  injection hj with hj
  rw [← hj]
  exact (hc j (by omega)).1
theorem one_strs (xs : List ByteArray) : ∀ u ∈ xs.map Value.string, u.oneCell' = true := by
  intro u hu
  rw [List.mem_map] at hu
  obtain ⟨x, _, rfl⟩ := hu
  rfl
theorem grown_nil {w w' : World} (h : w.grownBy w' none) : Below w.heap.size w w' := ⟨h.os, h.tape, h.output, h.size, fun k hk => h.block k hk (by simp)⟩
set_option maxRecDepth 100000 in
set_option maxHeartbeats 2000000 in
theorem cutS_any (ps : List (List UInt8)) (base : Nat) (v : Value) (w : World) (hv : SBuf base w v (ps.map txt)) (hp : 0 < ps.length) (hl : ps.length ≤ 40001) (hz : ∀ p ∈ ps, p.length ≤ 1048576) :
    Calls Tryd.prog 59 #[v, .func (.func 60) #[] #[]] w fun e w' => ∃ u, e = .returned u ∧ SBuf w.heap.size w' u ((trimE List.isEmpty ps).map txt) ∧ Below w.heap.size w w' := by
  obtain ⟨i0, hi, hz0, hz1, hz2⟩ := str_facts
  obtain ⟨g, cap, rfl, hg, hgl, hcap, hcm, hcell⟩ := pieces_form hv hp
  have HC := hide hcell
  clear hv hcell
  go_enter Tryd.func59, Tryd.ntmps59
  go_wp2_with fail
  go_loop [5] (fun n => ∃ k : Nat, k ≤ ps.length ∧ n = .int .i64 k ∧ ∀ j (h : j < ps.length), k ≤ j → (ps[j]).isEmpty = true) (fun n => (intOf n).toNat)
  case atStart => exact ⟨ps.length, Nat.le_refl _, rfl, fun j h h1 => absurd h1 (by omega)⟩
  case round =>
    obtain ⟨k, hk, rfl, hA⟩ := hrel
    have HA := hide hA
    clear hA
    by_cases hz : 0 < k
    · have hk1 : k - 1 < ps.length := by omega
      have hzi : (0 : Int) < (k : Int) := by omega
      have hc1 := (HC.out (k - 1) hk1).1
      have htn : ((k : Int) - 1).toNat = k - 1 := by omega
      have hb0' : (0 : Int) ≤ (k : Int) - 1 := by omega
      have hb1' : (k : Int) - 1 < (ps.length : Int) := by omega
      have HTS := hide (txt_size (ps[k - 1]'hk1))
      cases hem : (ps[k - 1]'hk1).isEmpty
      · have HD : Hid (decide ((txt (ps[k - 1]'hk1)).size = 0) = false) := by
          rw [HTS.out]
          show decide _ = false
          refine decide_eq_false fun h0 => ?_
          rw [List.length_eq_zero_iff.1 h0] at hem; cases hem
        have HK := hide (keepN_is List.isEmpty ps k hk HA.out (fun _ _ => hem))
        have HT : Hid (trimE List.isEmpty ps = ps.take k) := by unfold trimE; rw [HK.out]; trivial
        clear hem
        have hcp : (k : Int) ≤ (cap : Int) := by omega
        go_wp2_with fail
        refine (isEmptyText_any _ _).mono ?_
        rintro e w' ⟨rfl, rfl⟩
        rw [HD.out]
        go_wp2_with (first
          | (at_builtin; refine wpList_append_own_at _ rfl _ _ 30 rfl w'.heap.size 9 i0 (.string ByteArray.empty) 1 16 Tryd.underlying30 hi hz0 hz1 hz2 rfl (by decide) _ _ _ rfl (World.ownsRow_nil w' w'.heap.size 9 1) ⟨g, 0, none⟩ k cap (((ps.take k).map txt).map Value.string) rfl ?c0 ?c1 ?c2 ?c3 ?c4 ?c5 ?_)
          | fail)
        case c0 => simp; omega
        case c1 => exact take_cells ps k hk HC.out
        case c2 => exact one_strs _
        case c3 => unfold maxLen; omega
        case c4 => omega
        case c5 => exact Nat.le_refl _
        intro v' w2 hown' hgrow hnil hat
        have HS : Hid (SBuf w'.heap.size w2 v' ((trimE List.isEmpty ps).map txt)) := by
          have hlk : ((ps.take k).map txt).length = 0 + k := by simp; omega
          rw [HT.out]
          show World.ownsRow _ _ _ _ _ _ _
          rw [hlk]
          simpa using hown'
        have HBW := hide (grown_nil (by simpa [Value.ownBlock] using hgrow))
        clear hown' hgrow hnil hat
        go_wp2_with fail
        go_ret
        exact ⟨_, rfl, HS.out, HBW.out⟩
      · have HD : Hid (decide ((txt (ps[k - 1]'hk1)).size = 0) = true) := by
          rw [HTS.out, List.isEmpty_iff.1 hem]; rfl
        have HA2 : Hid (∀ j (h : j < ps.length), k - 1 ≤ j → (ps[j]).isEmpty = true) := fun j hj h => by
          by_cases e : j = k - 1
          · subst e; exact hem
          · exact HA.out j hj (by omega)
        clear hem
        go_wp2_with fail
        refine (isEmptyText_any _ _).mono ?_
        rintro e w' ⟨rfl, rfl⟩
        rw [HD.out]
        go_wp2_with fail
        go_round
        case rel => exact ⟨k - 1, by omega, by go_num, HA2.out⟩
        case measure => simp [intOf]; omega
    · obtain rfl : k = 0 := by omega
      have HK := hide (keepN_is List.isEmpty ps 0 (Nat.zero_le _) HA.out (fun _ h => absurd h (by omega)))
      have HT : Hid (trimE List.isEmpty ps = []) := by unfold trimE; rw [HK.out]; rfl
      have HS : Hid (SBuf w.heap.size w (.slice none 0 0) ((trimE List.isEmpty ps).map txt)) := by
        rw [HT.out]
        exact World.ownsRow_nil w w.heap.size 9 1
      go_wp2_with fail
      go_ret
      exact ⟨_, rfl, HS.out, Below.refl _ _⟩
end Go.Proofs.YtpdnocolmghnbaaDoor.Msg
