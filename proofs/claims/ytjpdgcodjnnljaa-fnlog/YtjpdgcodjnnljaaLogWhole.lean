import Derived.Test.YtjpdgcodjnnljaaLogLaw2
namespace Go.Proofs.Ytjpdgcodjnnljaa.Msg
set_option linter.unusedVariables false
set_option linter.unusedSimpArgs false

def endsI (ts : List (List UInt8)) : List Int := (List.range ts.length).map fun j => ((endL ts (j + 1) : Nat) : Int)
theorem endsI_get (ts : List (List UInt8)) (j : Nat) (h : j < ts.length) : (endsI ts).getD j 0 = ((endL ts (j + 1) : Nat) : Int) := by
  unfold endsI
  rw [List.getD_eq_getElem?_getD, List.getElem?_map, List.getElem?_range h]
  rfl
theorem whole_eq (ts : List (List UInt8)) (a c : Nat) (hc : c ≤ ts.length) (h1 : endL ts c ≤ a) (h2 : ∀ i, i ≤ ts.length → endL ts i ≤ a → i ≤ c) : wholeN (endsI ts) (a : Int) ts.length = c := by
  have hle := whole_le (endsI ts) (a : Int) ts.length
  have hin := whole_in (endsI ts) (a : Int) ts.length
  have hout := whole_out (endsI ts) (a : Int) ts.length
  generalize wholeN (endsI ts) (a : Int) ts.length = W at *
  have hWc : W ≤ c := by
    rcases hin with h | h
    · omega
    · by_cases h0 : W = 0
      · omega
      · rw [endsI_get ts (W - 1) (by omega), show W - 1 + 1 = W by omega] at h
        exact h2 W hle (by omega)
  by_cases hlt : W < c
  · have := hout W (Nat.le_refl _) (by omega)
    rw [endsI_get ts W (by omega)] at this
    have := endL_le ts (i := W + 1) (j := c) (by omega) hc
    omega
  · omega
theorem recAt_texts (ts : List (List UInt8)) (c : Nat) (hc : c ≤ ts.length) : ((List.range c).map (recAt ts)).map (·.1) = (ts.take c).map bsOf := by
  rw [List.map_map]
  apply List.ext_getElem
  · simp; omega
  · intro i h1 h2
    have hi : i < c := by simpa using h1
    simp [recAt, bsOf, List.getD_eq_getElem?_getD, show i < ts.length by omega]
variable {ts : List (List UInt8)} {O : ByteArray}
theorem log_all (hL : O.data.toList = imgL ts) (hs : ∀ t ∈ ts, t.length ≤ 60000) : logTexts O = ts.map bsOf ∧ endOf (recsA O) = O.size := by
  have h := recsA_img hL hs
  unfold logTexts
  rw [h, recAt_texts ts _ (Nat.le_refl _), List.take_length, endOf_range, endL_all, ← hL]
  simp
theorem log_cut (hL : O.data.toList = imgL ts) (hs : ∀ t ∈ ts, t.length ≤ 60000) (a : Nat) (ha : a ≤ O.size) : logTexts (O.extract 0 a) = (ts.take (wholeN (endsI ts) (a : Int) ts.length)).map bsOf := by
  have hD : (O.extract 0 a).data.toList = O.data.toList.take a := by simp only [ByteArray.data_extract, Array.toList_extract, List.extract_eq_take_drop, List.drop_zero, Nat.sub_zero]
  have hDs : (O.extract 0 a).size = a := by rw [ByteArray.size_extract]; omega
  obtain ⟨c, h1, h2, h3, h4, h5, h6⟩ := hurt_all (D := O.extract 0 a) hL hs (by rw [hD]; exact hurt_take _ _)
  have hw := whole_eq ts a c h1 (by omega) (fun i hi he => h6 i hi (by omega) (fun x hx => by rw [hD]; exact getD_take _ _ _ (by omega)))
  unfold logTexts
  rw [h2, recAt_texts ts c h1, hw]
theorem log_torn (hL : O.data.toList = imgL ts) (hs : ∀ t ∈ ts, t.length ≤ 60000) (s : Nat) (hs' : 32 * s + 31 < O.size) {D : ByteArray} (hD : D.data.toList = tornL O.data.toList s) : logTexts D = (ts.take (wholeN (endsI ts) ((32 * s : Nat) : Int) ts.length)).map bsOf := by
  have hOl : O.data.toList.length = O.size := by simp
  have hDs : D.size = O.size := by
    have : D.data.toList.length = D.size := by simp
    rw [← this, hD, torn_length _ _ (by omega), hOl]
  obtain ⟨c, h1, h2, h3, h4, h5, h6⟩ := hurt_all (D := D) hL hs (by rw [hD]; exact hurt_torn _ _ (by omega))
  have hc : endL ts c ≤ 32 * s := by
    by_cases h : 32 * s < endL ts c
    · have := h5 s h
      rw [hD, torn_get _ _ _ (by omega), if_pos rfl] at this
      exact absurd rfl this
    · omega
  have hw := whole_eq ts (32 * s) c h1 hc (fun i hi he => h6 i hi (by omega) (fun x hx => by rw [hD, torn_get _ _ _ (by omega), if_neg (by omega)]))
  unfold logTexts
  rw [h2, recAt_texts ts c h1, hw]
theorem log_crash (hL : O.data.toList = imgL ts) (hs : ∀ t ∈ ts, t.length ≤ 60000) (a : Nat) (ha : a ≤ O.size) (ps : List Int) :
    ∃ c, c ≤ ts.length ∧ wholeN (endsI ts) (a : Int) ts.length ≤ c ∧ logTexts (crash (O.extract 0 a) O ps) = (ts.take c).map bsOf := by
  obtain ⟨g1, g2, g3, g4, g5⟩ := crash_img O a ps ha
  obtain ⟨c, h1, h2, h3, h4, h5, h6⟩ := hurt_all hL hs g1
  refine ⟨c, h1, ?_, by unfold logTexts; rw [h2, recAt_texts ts c h1]⟩
  have hle := whole_le (endsI ts) (a : Int) ts.length
  have hin := whole_in (endsI ts) (a : Int) ts.length
  generalize wholeN (endsI ts) (a : Int) ts.length = W at *
  rcases hin with h | h
  · omega
  · by_cases h0 : W = 0
    · omega
    · rw [endsI_get ts (W - 1) (by omega), show W - 1 + 1 = W by omega] at h
      exact h6 W hle (by omega) (fun x hx => g4 x (by omega))
end Go.Proofs.Ytjpdgcodjnnljaa.Msg
