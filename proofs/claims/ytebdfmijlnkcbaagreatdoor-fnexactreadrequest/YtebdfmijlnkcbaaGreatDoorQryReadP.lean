import Derived.Test.YtebdfmijlnkcbaaGreatDoorQryLetter
namespace Go.Proofs.YtebdfmijlnkcbaaGreatDoor.Msg
open Go.ChangeShapes Go.WideShapes Go.ChangeAt Go.RowKit
set_option linter.unusedVariables false
set_option linter.unusedSimpArgs false

theorem emp_eq (s : ByteArray) : (s.toList == []) = !decide (0 < s.size) := by
  by_cases h : 0 < s.size
  · rw [decide_eq_true h, ByteArray.toList_eq]
    rw [beq_eq_false_iff_ne.2]
    · rfl
    · intro h2
      have := congrArg List.length h2
      simp at this
      have h3 : s.size = 0 := by rw [this]; rfl
      omega
  · rw [decide_eq_false h]
    have e : s = ⟨#[]⟩ := by
      apply ByteArray.ext
      exact Array.eq_empty_of_size_eq_zero (by show s.size = 0; omega)
    rw [e, ByteArray.toList_eq]
    rfl
theorem known_yes {ct : ByteArray} (h : controlB ct = true) : known ct = ct ∧ (ct.toList == []) = false := by
  refine ⟨by unfold known; rw [h]; rfl, ?_⟩
  have h1 : 1 ≤ ct.size := by
    unfold controlB boundB at h
    rw [Bool.and_eq_true, decide_eq_true_eq] at h
    exact h.1
  rw [emp_eq, decide_eq_true (by omega)]
  rfl
theorem known_no {ct : ByteArray} (h : controlB ct = false) : known ct = ⟨#[]⟩ := by unfold known; rw [h]; rfl

/-- what readLetter gives: the letter and what it lacks -/
def readL (kind ct ver idt tag query pointer : ByteArray) (page : Int) : Value × Option Int :=
  if !(kind.toList == [81, 66, 80]) && !(kind.toList == [81, 67, 78]) then (.nilIface, some 200)
  else if !controlB ct then (.nilIface, some 101)
  else if !(ver.toList == [50, 46, 53, 46, 49]) then (.nilIface, some 203)
  else (looseV kind ct idt tag query pointer page,
    if kind.toList == [81, 67, 78] then (if controlB ct && tagB idt then none else some 101)
    else if pointer.toList == [] then newL ct tag query page else nextL ct tag query pointer)

theorem readL_some {kind ct ver idt tag query pointer size : ByteArray} {num c : Int} (h : (readL kind ct ver idt tag query pointer (if size.toList == [] then 10 else num)).2 = some c) :
    readOf kind ct ver idt tag query pointer size num = (told ct, c) := by
  have ep := emp_eq pointer
  have es := emp_eq size
  unfold readL at h
  unfold readOf
  split at h
  · rename_i h1
    rw [if_pos h1]
    injection h with h
    rw [h]
  · rename_i h1
    rw [if_neg h1]
    split at h
    · rename_i h2
      rw [if_pos h2]
      injection h with h
      rw [h]
    · rename_i h2
      rw [if_neg h2]
      have hc : controlB ct = true := by cases hc : controlB ct <;> simp [hc] at h2 ⊢
      split at h
      · rename_i h3
        rw [if_pos h3]
        injection h with h
        rw [h]
      · rename_i h3
        rw [if_neg h3]
        simp only at h
        split at h
        · rename_i h4
          rw [if_pos h4]
          cases ht : tagB idt
          · rw [hc, ht] at h
            simp at h
            simp [h]
          · rw [hc, ht] at h
            simp at h
        · rename_i h4
          rw [if_neg h4]
          unfold newL nextL at h
          cases ht : tagB tag
          · rw [hc, ht] at h
            simp at h
            simp [h]
          · rw [hc, ht] at h
            cases hq : textB query
            · rw [hq] at h
              simp at h
              simp [h]
            · cases hp : textB pointer
              · have hz : ¬ (pointer.toList == []) = true := by
                  intro hz
                  rw [ep] at hz
                  have h0 : pointer.size = 0 := by
                    by_cases h0 : 0 < pointer.size
                    · rw [decide_eq_true h0] at hz; cases hz
                    · omega
                  have : textB pointer = true := by
                    unfold textB boundB plainB
                    have e : pointer = ⟨#[]⟩ := by
                      apply ByteArray.ext
                      exact Array.eq_empty_of_size_eq_zero h0
                    rw [e]
                    rfl
                  rw [this] at hp
                  cases hp
                rw [if_neg hz, hq, hp] at h
                simp at h
                simp [h]
              · by_cases hz : 0 < pointer.size
                · rw [if_neg (by rw [ep, decide_eq_true hz]; simp), hq, hp, decide_eq_true hz] at h
                  simp at h
                · rw [if_pos (by rw [ep, decide_eq_false hz]; rfl), hq] at h
                  rw [if_neg (by simp), if_neg (by simp), if_neg hz]
                  by_cases hs : 0 < size.size
                  · have e2 : (size.toList == []) = false := by rw [es, decide_eq_true hs]; rfl
                    simp only [e2, Bool.false_eq_true, if_false, Bool.and_self, if_true, Bool.true_and] at h
                    rw [if_pos hs]
                    cases hn : (decide (1 ≤ num) && decide (num ≤ 50))
                    · rw [hn] at h
                      simp at h
                      simp [h]
                    · rw [hn] at h
                      simp at h
                  · have e2 : (size.toList == []) = true := by rw [es, decide_eq_false hs]; rfl
                    simp only [e2, if_true, Bool.and_self, Bool.true_and] at h
                    rw [if_pos (by decide)] at h
                    cases h
theorem readL_none {kind ct ver idt tag query pointer size : ByteArray} {num : Int} (h : (readL kind ct ver idt tag query pointer (if size.toList == [] then 10 else num)).2 = none) :
    ((readL kind ct ver idt tag query pointer (if size.toList == [] then 10 else num)).1 = .iface 90 (.agg #[.string ct, .string idt]) ∧ readOf kind ct ver idt tag query pointer size num = (⟨3, ct, idt, ⟨#[]⟩, 0, ⟨#[]⟩⟩, 0)) ∨
    ((readL kind ct ver idt tag query pointer (if size.toList == [] then 10 else num)).1 = .iface 92 (.agg #[.string ct, .string tag, .string query, .string pointer]) ∧ readOf kind ct ver idt tag query pointer size num = (⟨2, ct, tag, query, 0, pointer⟩, 0)) ∨
    ((readL kind ct ver idt tag query pointer (if size.toList == [] then 10 else num)).1 = .iface 95 (.agg #[.string ct, .string tag, .string query, .int .i64 (if size.toList == [] then 10 else num)]) ∧ readOf kind ct ver idt tag query pointer size num = (⟨1, ct, tag, query, if size.toList == [] then 10 else num, ⟨#[]⟩⟩, 0)) := by
  have ep := emp_eq pointer
  have es := emp_eq size
  unfold readL at h ⊢
  unfold readOf
  split at h
  · cases h
  · rename_i h1
    rw [if_neg h1, if_neg h1]
    split at h
    · cases h
    · rename_i h2
      rw [if_neg h2, if_neg h2]
      have hc : controlB ct = true := by cases hc : controlB ct <;> simp [hc] at h2 ⊢
      split at h
      · cases h
      · rename_i h3
        rw [if_neg h3, if_neg h3]
        simp only at h
        unfold looseV
        split at h
        · rename_i h4
          simp only [if_pos h4]
          cases ht : tagB idt
          · rw [hc, ht] at h
            simp at h
          · exact .inl ⟨trivial, by simp⟩
        · rename_i h4
          simp only [if_neg h4]
          unfold newL nextL at h
          cases ht : tagB tag
          · rw [hc, ht] at h
            simp at h
          · rw [hc, ht] at h
            cases hq : textB query
            · rw [hq] at h
              simp at h
            · by_cases hz : 0 < pointer.size
              · have e1 : ¬ (pointer.toList == []) = true := by rw [ep, decide_eq_true hz]; simp
                rw [if_neg e1, hq, decide_eq_true hz] at h
                cases hp : textB pointer
                · rw [hp] at h
                  simp at h
                · simp only [if_neg e1]
                  exact .inr (.inl ⟨trivial, by simp [hz]⟩)
              · have e1 : (pointer.toList == []) = true := by rw [ep, decide_eq_false hz]; rfl
                have hp : textB pointer = true := by
                  unfold textB boundB plainB
                  have e : pointer = ⟨#[]⟩ := by
                    apply ByteArray.ext
                    exact Array.eq_empty_of_size_eq_zero (by show pointer.size = 0; omega)
                  rw [e]
                  rfl
                rw [if_pos e1, hq] at h
                simp only [if_pos e1]
                refine .inr (.inr ⟨trivial, ?_⟩)
                rw [hp, if_neg (by simp), if_neg (by simp), if_neg hz]
                by_cases hs : 0 < size.size
                · have e2 : ¬ (size.toList == []) = true := by rw [es, decide_eq_true hs]; simp
                  simp only [if_neg e2] at h
                  simp only [if_neg e2]
                  rw [if_pos hs]
                  cases hn : (decide (1 ≤ num) && decide (num ≤ 50))
                  · rw [hn] at h
                    simp at h
                  · rfl
                · have e2 : (size.toList == []) = true := by rw [es, decide_eq_false hs]; rfl
                  simp only [if_pos e2]
                  rw [if_neg hs]
end Go.Proofs.YtebdfmijlnkcbaaGreatDoor.Msg
