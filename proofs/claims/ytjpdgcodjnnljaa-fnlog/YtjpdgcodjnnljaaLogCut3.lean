import Derived.Test.YtjpdgcodjnnljaaLogCut2
import Derived.Test.YtjpdgcodjnnljaaCrashSpec
namespace Go.Proofs.Ytjpdgcodjnnljaa.Msg
set_option linter.unusedVariables false
set_option linter.unusedSimpArgs false

theorem getD_take (A : List UInt8) (n i : Nat) (h : i < n) : (A.take n).getD i 0 = A.getD i 0 := by
  rw [List.getD_eq_getElem?_getD, List.getElem?_take, if_pos h, ← List.getD_eq_getElem?_getD]
theorem hurt_take (O : List UInt8) (a : Nat) : Hurt O (O.take a) := by
  refine ⟨by rw [List.length_take]; omega, fun s hs _ i hi => ?_⟩
  rw [List.length_take] at hs
  exact getD_take _ _ _ (by omega)
def tornL (O : List UInt8) (s : Nat) : List UInt8 := O.take (32 * s + 31) ++ [0] ++ O.drop (32 * s + 32)
theorem torn_length (O : List UInt8) (s : Nat) (h : 32 * s + 31 < O.length) : (tornL O s).length = O.length := by
  simp only [tornL, List.length_append, List.length_take, List.length_drop, List.length_cons, List.length_nil]
  omega
theorem torn_get (O : List UInt8) (s i : Nat) (h : 32 * s + 31 < O.length) : (tornL O s).getD i 0 = if i = 32 * s + 31 then 0 else O.getD i 0 := by
  unfold tornL
  by_cases h1 : i < 32 * s + 31
  · rw [if_neg (by omega), List.append_assoc, List.getD_eq_getElem?_getD, List.getElem?_append_left (by rw [List.length_take]; omega), ← List.getD_eq_getElem?_getD]
    exact getD_take _ _ _ h1
  · by_cases h2 : i = 32 * s + 31
    · rw [if_pos h2, h2, List.append_assoc, List.getD_eq_getElem?_getD, List.getElem?_append_right (by rw [List.length_take]; omega), List.length_take, show 32 * s + 31 - min (32 * s + 31) O.length = 0 by omega]
      rfl
    · rw [if_neg h2, List.getD_eq_getElem?_getD, List.getElem?_append_right (by simp; omega), List.getElem?_drop, List.getD_eq_getElem?_getD]
      congr 2
      simp
      omega
theorem hurt_torn (O : List UInt8) (s : Nat) (h : 32 * s + 31 < O.length) : Hurt O (tornL O s) := by
  refine ⟨by rw [torn_length O s h]; exact Nat.le_refl _, fun s' hs hne i hi => ?_⟩
  rw [torn_get O s _ h] at hne ⊢
  by_cases e : s' = s
  · subst e; rw [if_pos rfl] at hne; exact absurd rfl hne
  · rw [if_neg (by omega)]

/-! a crash -/
theorem crash_get (N : List UInt8) (a : Nat) (ps : List Int) (ha : a ≤ N.length) : ∀ k, (∀ i, i < (crashT (N.take a) N ps k).length → (crashT (N.take a) N ps k).getD i 0 = if i < a then N.getD i 0 else if keptB a ps i then N.getD i 0 else 0) ∧
    ∀ i, (crashT (N.take a) N ps k).length ≤ i → i < a + k → keptB a ps i = false
  | 0 => by
    have hl : (N.take a).length = a := by rw [List.length_take]; omega
    refine ⟨fun i hi => ?_, fun i h1 h2 => ?_⟩
    · unfold crashT at hi ⊢
      rw [hl] at hi
      rw [if_pos hi]
      exact getD_take _ _ _ hi
    · unfold crashT at h1
      rw [hl] at h1
      omega
  | k + 1 => by
    obtain ⟨ih1, ih2⟩ := crash_get N a ps ha k
    have hl : (N.take a).length = a := by rw [List.length_take]; omega
    have hlen := crashT_len (N.take a) N ps k
    rw [hl] at hlen
    cases hk : keptB a ps (a + k)
    · have e : crashT (N.take a) N ps (k + 1) = crashT (N.take a) N ps k := by
        conv => lhs; unfold crashT
        rw [hl, hk]; rfl
      rw [e]
      refine ⟨ih1, fun i h1 h2 => ?_⟩
      by_cases hi : i = a + k
      · rw [hi]; exact hk
      · exact ih2 i h1 (by omega)
    · have e : crashT (N.take a) N ps (k + 1) = crashT (N.take a) N ps k ++ List.replicate (a + k - (crashT (N.take a) N ps k).length) 0 ++ [N.getD (a + k) 0] := by
        conv => lhs; unfold crashT
        rw [hl, hk]; rfl
      generalize hT : crashT (N.take a) N ps k = T at *
      have hel : (T ++ List.replicate (a + k - T.length) 0 ++ [N.getD (a + k) 0]).length = a + k + 1 := by simp; omega
      rw [e, hel]
      refine ⟨fun i hi => ?_, fun i h1 h2 => by omega⟩
      by_cases h1 : i < T.length
      · rw [List.append_assoc, List.getD_eq_getElem?_getD, List.getElem?_append_left h1, ← List.getD_eq_getElem?_getD]
        exact ih1 i h1
      · by_cases h2 : i < a + k
        · have hkf := ih2 i (by omega) h2
          rw [if_neg (by omega), hkf, List.append_assoc, List.getD_eq_getElem?_getD, List.getElem?_append_right (by omega), List.getElem?_append_left (by simp; omega), List.getElem?_replicate, if_pos (by omega)]
          rfl
        · obtain rfl : i = a + k := by omega
          rw [if_neg (by omega), hk, List.getD_eq_getElem?_getD, List.getElem?_append_right (by simp; omega)]
          have : a + k - (T ++ List.replicate (a + k - T.length) 0).length = 0 := by simp; omega
          rw [this]
          rfl
theorem kept_mono (a : Nat) (ps : List Int) (s i : Nat) (hi : i < 32) (ha : a ≤ 32 * s + i) (h : keptB a ps (32 * s + 31) = true) : keptB a ps (32 * s + i) = true := by
  unfold keptB at *
  rw [decide_eq_true_eq] at *
  rw [show (32 * s + 31) / 32 = s by omega] at h
  rw [show (32 * s + i) / 32 = s by omega]
  omega
theorem hurt_crash (N : List UInt8) (a : Nat) (ps : List Int) (ha : a ≤ N.length) : Hurt N (crashT (N.take a) N ps (N.length - a)) := by
  have hl : (N.take a).length = a := by rw [List.length_take]; omega
  have hlen := crashT_len (N.take a) N ps (N.length - a)
  rw [hl] at hlen
  obtain ⟨h1, _⟩ := crash_get N a ps ha (N.length - a)
  refine ⟨by omega, fun s hs hne i hi => ?_⟩
  rw [h1 _ hs] at hne
  rw [h1 _ (by omega)]
  by_cases hia : 32 * s + i < a
  · rw [if_pos hia]
  · rw [if_neg hia]
    rw [if_neg (by omega)] at hne
    have hk : keptB a ps (32 * s + 31) = true := by
      cases hk : keptB a ps (32 * s + 31)
      · rw [hk] at hne; exact absurd rfl hne
      · rfl
    rw [kept_mono a ps s i hi (by omega) hk]
    rfl
theorem okD_take (N : ByteArray) (a : Nat) (ha : a ≤ N.size) : okD (N.extract 0 a) N = true := by
  have hs : (N.extract 0 a).size = a := by rw [ByteArray.size_extract]; omega
  unfold okD
  rw [hs, decide_eq_true ha, Bool.true_and]
  exact beq_self_eq_true _
/-- what a crash leaves of an image of which the first a bytes are safe -/
theorem crash_img (N : ByteArray) (a : Nat) (ps : List Int) (ha : a ≤ N.size) :
    Hurt N.data.toList (crash (N.extract 0 a) N ps).data.toList ∧ a ≤ (crash (N.extract 0 a) N ps).size ∧ (crash (N.extract 0 a) N ps).size ≤ N.size ∧
      (∀ i, i < a → (crash (N.extract 0 a) N ps).data.toList.getD i 0 = N.data.toList.getD i 0) ∧
      ∀ i, i < (crash (N.extract 0 a) N ps).size → (crash (N.extract 0 a) N ps).data.toList.getD i 0 = N.data.toList.getD i 0 ∨ (crash (N.extract 0 a) N ps).data.toList.getD i 0 = 0 := by
  have hs : (N.extract 0 a).size = a := by rw [ByteArray.size_extract]; omega
  have hnl : N.data.toList.length = N.size := by simp
  have hS : (N.extract 0 a).data.toList = N.data.toList.take a := by
    simp only [ByteArray.data_extract, Array.toList_extract, List.extract_eq_take_drop, List.drop_zero, Nat.sub_zero]
  have hc : (crash (N.extract 0 a) N ps).data.toList = crashT (N.data.toList.take a) N.data.toList ps (N.data.toList.length - a) := by
    unfold crash
    rw [okD_take N a ha, hS, hs, hnl]
    rfl
  have hl : (N.data.toList.take a).length = a := by rw [List.length_take]; omega
  have hlen := crashT_len (N.data.toList.take a) N.data.toList ps (N.data.toList.length - a)
  rw [hl, ← hc] at hlen
  have hcs : (crash (N.extract 0 a) N ps).data.toList.length = (crash (N.extract 0 a) N ps).size := by simp
  obtain ⟨h1, _⟩ := crash_get N.data.toList a ps (by omega) (N.data.toList.length - a)
  rw [← hc] at h1
  refine ⟨by rw [hc]; exact hurt_crash _ _ _ (by omega), by omega, by omega, fun i hi => ?_, fun i hi => ?_⟩
  · rw [h1 i (by omega), if_pos hi]
  · rw [h1 i (by omega)]
    split
    · exact .inl rfl
    · split
      · exact .inl rfl
      · exact .inr rfl
end Go.Proofs.Ytjpdgcodjnnljaa.Msg
