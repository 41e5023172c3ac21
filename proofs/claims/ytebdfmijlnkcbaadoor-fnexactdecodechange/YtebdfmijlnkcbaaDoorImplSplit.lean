import Derived.Test.YtebdfmijlnkcbaaDoorCutPure
import Derived.Test.YtebdfmijlnkcbaaDoorParseComps
import Derived.Lib.Split
import Derived.Lib.SplitLaws
import Derived.Lib.CountLaws
import Derived.Lib.IndexBytes
namespace Go.Proofs.YtebdfmijlnkcbaaDoor.Msg
set_option linter.unusedVariables false
set_option linter.unusedSimpArgs false

theorem indexByte_parts (c : UInt8) : ∀ l : List UInt8, (Lib.indexByte l c = -1 ∧ ∀ x ∈ l, x ≠ c) ∨ ∃ i : Nat, Lib.indexByte l c = i ∧ i < l.length ∧ l = l.take i ++ c :: l.drop (i + 1) ∧ ∀ x ∈ l.take i, x ≠ c
  | [] => .inl ⟨rfl, fun _ h => by cases h⟩
  | b :: l => by
    by_cases hb : b = c
    · subst hb
      refine .inr ⟨0, ?_, by simp, by simp, fun x h => by simp at h⟩
      unfold Lib.indexByte
      rw [if_pos (by simp)]
      rfl
    · have hb' : (b == c) = false := by rw [beq_eq_false_iff_ne]; exact hb
      rcases indexByte_parts c l with ⟨h1, h2⟩ | ⟨i, h1, h2, h3, h4⟩
      · refine .inl ⟨?_, fun x hx => ?_⟩
        · unfold Lib.indexByte
          rw [hb', h1]; rfl
        · rw [List.mem_cons] at hx
          rcases hx with rfl | hx
          · exact hb
          · exact h2 x hx
      · refine .inr ⟨i + 1, ?_, by simp; omega, ?_, fun x hx => ?_⟩
        · unfold Lib.indexByte
          rw [hb', h1]
          have : ((i : Int) == -1) = false := by rw [beq_eq_false_iff_ne]; omega
          rw [this]
          simp only [Bool.false_eq_true, if_false]
          omega
        · rw [List.take_succ_cons, List.drop_succ_cons, List.cons_append, ← h3]
        · rw [List.take_succ_cons, List.mem_cons] at hx
          rcases hx with rfl | hx
          · exact hb
          · exact h4 x hx

theorem cutGo_hit (c : UInt8) (a b cur : List UInt8) (h : ∀ x ∈ a, x ≠ c) : cutGo c cur (a ++ c :: b) = (cur ++ a) :: cutGo c [] b := by
  rw [cutGo_skip c a (c :: b) cur h]
  conv => lhs; unfold cutGo
  rw [if_pos rfl]
theorem cutL_none (c : UInt8) (l : List UInt8) (h : ∀ x ∈ l, x ≠ c) : cutL c l = [l] := by
  unfold cutL
  have := cutGo_skip c l [] [] h
  rw [List.append_nil] at this
  rw [this]
  simp [cutGo]

theorem splitK_cut (c : UInt8) : ∀ (n : Nat) (l : List UInt8), l.length ≤ n → Lib.splitK [c] 0 (Lib.count l [c]) l = cutL c l
  | n, l, hn => by
    rcases indexByte_parts c l with ⟨h1, h2⟩ | ⟨i, h1, h2, h3, h4⟩
    · rw [Lib.count_miss (by rw [Lib.index_one]; exact h1), cutL_none c l h2]
      rfl
    · match n with
      | 0 => omega
      | n + 1 =>
        have hi : Lib.index l [c] = i := by rw [Lib.index_one]; exact h1
        have ih := splitK_cut c n (l.drop (i + 1)) (by simp; omega)
        rw [Lib.count_hit (by simp) hi, Nat.add_comm 1]
        unfold Lib.splitK
        rw [hi]
        have hm : ((i : Int) == -1) = false := by rw [beq_eq_false_iff_ne]; omega
        rw [hm]
        simp only [Bool.false_eq_true, if_false, Int.toNat_natCast, Nat.add_zero, List.length_cons, List.length_nil, Nat.zero_add]
        rw [ih]
        conv => rhs; rw [h3]
        unfold cutL
        rw [cutGo_hit c _ _ [] h4]
        rfl

theorem splitB_cut (c : UInt8) (s : ByteArray) : Lib.splitB ⟨#[c]⟩ 0 (Lib.countB s ⟨#[c]⟩) s = (cutL c s.data.toList).map txt := by
  have h1 := Lib.splitB_data ⟨#[c]⟩ 0 (Lib.countB s ⟨#[c]⟩) s
  have h2 : Lib.countB s ⟨#[c]⟩ = Lib.count s.data.toList [c] := rfl
  rw [h2] at h1 ⊢
  have h3 : Lib.splitK (⟨#[c]⟩ : ByteArray).data.toList 0 (Lib.count s.data.toList [c]) s.data.toList = cutL c s.data.toList := splitK_cut c _ _ (Nat.le_refl _)
  rw [h3] at h1
  rw [← h1, List.map_map]
  conv => lhs; rw [← List.map_id (Lib.splitB _ _ _ _)]
  apply List.map_congr_left
  intro x _
  exact (txt_of x).symm
theorem countB_cut (c : UInt8) (s : ByteArray) : Lib.countB s ⟨#[c]⟩ + 1 = (cutL c s.data.toList).length := by
  have h := Lib.splitB_all ⟨#[c]⟩ (Nat.le_refl 1) 0 _ s rfl
  rw [splitB_cut, List.length_map] at h
  exact h.symm
end Go.Proofs.YtebdfmijlnkcbaaDoor.Msg
