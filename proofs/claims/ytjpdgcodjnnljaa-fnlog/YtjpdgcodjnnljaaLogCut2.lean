import Derived.Test.YtjpdgcodjnnljaaLogCut
import Derived.Test.YtjpdgcodjnnljaaLogSpec
namespace Go.Proofs.Ytjpdgcodjnnljaa.Msg
set_option linter.unusedVariables false
set_option linter.unusedSimpArgs false

theorem first_rest (img : ByteArray) (a : Nat) : firstB (img.extract a img.size) = firstL (img.data.toList.drop a) := by
  unfold firstL
  congr 1
  apply bytes_ext
  rw [rest_list]

/-! an image of records -/
def imgL (ts : List (List UInt8)) : List UInt8 := ts.flatMap recL
theorem imgL_snoc (ts : List (List UInt8)) (t : List UInt8) : imgL (ts ++ [t]) = imgL ts ++ recL t := by simp [imgL]
theorem imgL_cons (t : List UInt8) (ts : List (List UInt8)) : imgL (t :: ts) = recL t ++ imgL ts := by simp [imgL]
theorem imgL_split (ts : List (List UInt8)) (i : Nat) : imgL ts = imgL (ts.take i) ++ imgL (ts.drop i) := by
  unfold imgL
  rw [← List.flatMap_append, List.take_append_drop]
def endL (ts : List (List UInt8)) (i : Nat) : Nat := (imgL (ts.take i)).length
theorem endL_zero (ts : List (List UInt8)) : endL ts 0 = 0 := by simp [endL, imgL]
theorem endL_succ (ts : List (List UInt8)) (i : Nat) (h : i < ts.length) : endL ts (i + 1) = endL ts i + 32 * sectN ts[i].length := by
  unfold endL
  rw [List.take_succ_eq_append_getElem h, imgL_snoc, List.length_append, recL_length]
theorem endL_all (ts : List (List UInt8)) : endL ts ts.length = (imgL ts).length := by unfold endL; rw [List.take_length]
theorem endL_mod (ts : List (List UInt8)) : ∀ i, i ≤ ts.length → endL ts i % 32 = 0
  | 0, _ => by rw [endL_zero]
  | i + 1, h => by
    have ih := endL_mod ts i (by omega)
    rw [endL_succ ts i (by omega)]
    omega
theorem endL_lt (ts : List (List UInt8)) (i : Nat) (h : i < ts.length) : endL ts i + 32 ≤ endL ts (i + 1) := by
  have := sectN_pos ts[i].length
  rw [endL_succ ts i h]
  omega
theorem endL_mono (ts : List (List UInt8)) (i : Nat) : ∀ j, i + j ≤ ts.length → endL ts i ≤ endL ts (i + j)
  | 0, _ => Nat.le_refl _
  | j + 1, h => by
    have ih := endL_mono ts i j (by omega)
    have := endL_lt ts (i + j) (by omega)
    show endL ts i ≤ endL ts (i + j + 1)
    omega
theorem endL_le (ts : List (List UInt8)) {i j : Nat} (hij : i ≤ j) (hj : j ≤ ts.length) : endL ts i ≤ endL ts j := by
  have := endL_mono ts i (j - i) (by omega)
  rwa [show i + (j - i) = j by omega] at this
def recAt (ts : List (List UInt8)) (j : Nat) : ByteArray × Nat := (⟨(ts.getD j []).toArray⟩, endL ts (j + 1))
theorem endOf_range (ts : List (List UInt8)) (i : Nat) : endOf ((List.range i).map (recAt ts)) = endL ts i := by
  cases i with
  | zero => rw [endL_zero]; rfl
  | succ i => rw [List.range_succ, List.map_append]; exact endOf_snoc _ _ _
theorem recsK_img {ts : List (List UInt8)} {img : ByteArray} (hL : img.data.toList = imgL ts) (hs : ∀ t ∈ ts, t.length ≤ 60000) : ∀ i, i ≤ ts.length → recsK img i = (List.range i).map (recAt ts)
  | 0, _ => rfl
  | i + 1, h => by
    have ih := recsK_img hL hs i (by omega)
    have hf : firstB (img.extract (endOf (recsK img i)) img.size) = some (⟨(ts[i]'(by omega)).toArray⟩, 32 * sectN (ts[i]'(by omega)).length) := by
      rw [ih, endOf_range, first_rest, hL, imgL_split ts i]
      unfold endL
      rw [List.drop_append_of_le_length (Nat.le_refl _), List.drop_length, List.nil_append, List.drop_eq_getElem_cons (by omega), imgL_cons]
      exact firstL_rec _ _ (hs _ (List.getElem_mem _))
    rw [recsK_yes hf, ih, endOf_range, ← endL_succ ts i (by omega), List.range_succ, List.map_append]
    congr 1
    simp [recAt, List.getD_eq_getElem?_getD, show i < ts.length by omega]
theorem recsA_img {ts : List (List UInt8)} {img : ByteArray} (hL : img.data.toList = imgL ts) (hs : ∀ t ∈ ts, t.length ≤ 60000) : recsA img = (List.range ts.length).map (recAt ts) := by
  have h := recsK_img hL hs ts.length (Nat.le_refl _)
  have hsz : img.size = (imgL ts).length := by rw [← hL]; simp
  have hlen : (recsK img ts.length).length = ts.length := by rw [h]; simp
  rw [← h]
  refine recsA_of (by have := recsK_full hlen; omega) ?_
  rw [h, endOf_range, endL_all, ← hsz]
  exact firstB_at_end img img.size (by omega)

/-! images that were hurt -/
theorem recsK_mono (img : ByteArray) (k : Nat) : ∀ j, (recsK img k).length ≤ (recsK img (k + j)).length
  | 0 => Nat.le_refl _
  | j + 1 => by
    have ih := recsK_mono img k j
    show _ ≤ (recsK img (k + j + 1)).length
    cases hf : firstB (img.extract (endOf (recsK img (k + j))) img.size) with
    | none => rw [recsK_no hf 1]; exact ih
    | some p => obtain ⟨t, n⟩ := p; rw [recsK_yes hf, List.length_append]; omega
/-- the mark of every sector that was read -/
theorem recsK_marks (D : ByteArray) : ∀ k, endOf (recsK D k) % 32 = 0 ∧ ∀ s, 32 * s < endOf (recsK D k) → D.data.toList.getD (32 * s + 31) 0 ≠ 0
  | 0 => ⟨rfl, fun s hs => absurd hs (by simp [recsK, endOf])⟩
  | k + 1 => by
    obtain ⟨ih1, ih2⟩ := recsK_marks D k
    cases hf : firstB (D.extract (endOf (recsK D k)) D.size) with
    | none => rw [recsK_no hf 1]; exact ⟨ih1, ih2⟩
    | some p =>
      obtain ⟨t, n⟩ := p
      rw [recsK_yes hf, endOf_snoc]
      rw [first_rest] at hf
      generalize endOf (recsK D k) = e at *
      obtain ⟨h1, h2, h3, h4, h5⟩ := firstL_some hf
      refine ⟨by omega, fun s hs => ?_⟩
      by_cases hlt : 32 * s < e
      · exact ih2 s hlt
      · have hlen : (textL (D.data.toList.drop e)).length = sizeL (D.data.toList.drop e) := textL_length _ (by omega)
        have hm := recL_mark (textL (D.data.toList.drop e)) (s - e / 32) (by rw [hlen]; omega)
        rw [h5, List.getD_eq_getElem?_getD, List.getElem?_take, if_pos (by omega), List.getElem?_drop, ← List.getD_eq_getElem?_getD, show e + (32 * (s - e / 32) + 31) = 32 * s + 31 by omega] at hm
        rw [hm]
        exact mkAt_ne _
/-- a sector is as it was, or its mark is gone -/
def Hurt (O D : List UInt8) : Prop := D.length ≤ O.length ∧ ∀ s, 32 * s + 31 < D.length → D.getD (32 * s + 31) 0 ≠ 0 → ∀ i, i < 32 → D.getD (32 * s + i) 0 = O.getD (32 * s + i) 0
theorem ext_getD {A B : List UInt8} (hl : A.length = B.length) (h : ∀ i, i < A.length → A.getD i 0 = B.getD i 0) : A = B := by
  apply List.ext_getElem hl
  intro i h1 h2
  have := h i h1
  rw [List.getD_eq_getElem?_getD, List.getD_eq_getElem?_getD, List.getElem?_eq_getElem h1, List.getElem?_eq_getElem h2] at this
  exact this
theorem take_drop_getD (A : List UInt8) (e n i : Nat) (hi : i < n) : ((A.drop e).take n).getD i 0 = A.getD (e + i) 0 := by
  rw [List.getD_eq_getElem?_getD, List.getElem?_take, if_pos hi, List.getElem?_drop, ← List.getD_eq_getElem?_getD]
theorem hurt_first {O D : List UInt8} (hz : Hurt O D) {e : Nat} (he : e % 32 = 0) {t : ByteArray} {n : Nat} (hf : firstL (D.drop e) = some (t, n)) : firstL (O.drop e) = some (t, n) := by
  obtain ⟨h1, h2, h3, h4, h5⟩ := firstL_some hf
  have hlen : (textL (D.drop e)).length = sizeL (D.drop e) := textL_length _ (by omega)
  rw [List.length_drop] at h2
  have hDO := hz.1
  refine firstL_same hf ?_ (by rw [List.length_drop]; omega)
  apply ext_getD
  · rw [List.length_take, List.length_take, List.length_drop, List.length_drop]; omega
  · intro i hi
    have hin : i < n := by rw [List.length_take] at hi; omega
    rw [take_drop_getD _ _ _ _ hin, take_drop_getD _ _ _ _ hin]
    have hm := recL_mark (textL (D.drop e)) (i / 32) (by rw [hlen]; omega)
    rw [h5, take_drop_getD _ _ _ _ (by omega)] at hm
    have hs := hz.2 (e / 32 + i / 32) (by omega) (by rw [show 32 * (e / 32 + i / 32) + 31 = e + (32 * (i / 32) + 31) by omega, hm]; exact mkAt_ne _) (i % 32) (by omega)
    rw [show 32 * (e / 32 + i / 32) + i % 32 = e + i by omega] at hs
    exact hs.symm
theorem hurt_recs {O D : ByteArray} (hz : Hurt O.data.toList D.data.toList) : ∀ k, recsK D k = recsK O (recsK D k).length
  | 0 => rfl
  | k + 1 => by
    have ih := hurt_recs hz k
    have hm := (recsK_marks D k).1
    cases hf : firstB (D.extract (endOf (recsK D k)) D.size) with
    | none => rw [recsK_no hf 1]; exact ih
    | some p =>
      obtain ⟨t, n⟩ := p
      have hy := recsK_yes hf
      rw [first_rest] at hf
      have hO := hurt_first hz hm hf
      rw [← first_rest] at hO
      rw [ih] at hO
      have e := recsK_yes hO
      rw [hy, List.length_append, List.length_cons, List.length_nil, Nat.zero_add, e, ← ih]
/-- the records that were not touched are there -/
theorem kept_recs {ts : List (List UInt8)} {O D : ByteArray} (hL : O.data.toList = imgL ts) (hs : ∀ t ∈ ts, t.length ≤ 60000) : ∀ i, i ≤ ts.length → endL ts i ≤ D.size → (∀ x, x < endL ts i → D.data.toList.getD x 0 = O.data.toList.getD x 0) → recsK D i = recsK O i
  | 0, _, _, _ => rfl
  | i + 1, h, hsz, hx => by
    have hlt := endL_lt ts i (by omega)
    have ih := kept_recs hL hs i (by omega) (by omega) (fun x hx' => hx x (by omega))
    have hO : firstB (O.extract (endOf (recsK O i)) O.size) = some (⟨(ts[i]'(by omega)).toArray⟩, 32 * sectN (ts[i]'(by omega)).length) := by
      rw [recsK_img hL hs i (by omega), endOf_range, first_rest, hL, imgL_split ts i]
      unfold endL
      rw [List.drop_append_of_le_length (Nat.le_refl _), List.drop_length, List.nil_append, List.drop_eq_getElem_cons (by omega), imgL_cons]
      exact firstL_rec _ _ (hs _ (List.getElem_mem _))
    have hend : endOf (recsK O i) = endL ts i := by rw [recsK_img hL hs i (by omega), endOf_range]
    have hsu := endL_succ ts i (by omega)
    have hDl : D.data.toList.length = D.size := by simp
    have hOl : endL ts (i + 1) ≤ O.data.toList.length := by rw [hL, ← endL_all]; exact endL_le ts (by omega) (Nat.le_refl _)
    have hD : firstB (D.extract (endOf (recsK D i)) D.size) = some (⟨(ts[i]'(by omega)).toArray⟩, 32 * sectN (ts[i]'(by omega)).length) := by
      rw [ih, first_rest]
      rw [first_rest] at hO
      refine firstL_same hO ?_ (by rw [List.length_drop, hend]; omega)
      rw [hend]
      apply ext_getD
      · rw [List.length_take, List.length_take, List.length_drop, List.length_drop]; omega
      · intro y hy
        have hyn : y < 32 * sectN (ts[i]'(by omega)).length := by rw [List.length_take] at hy; omega
        rw [take_drop_getD _ _ _ _ hyn, take_drop_getD _ _ _ _ hyn]
        exact hx _ (by omega)
    rw [recsK_yes hD, recsK_yes hO, ih]
/-- what is read of a hurt image: some first of its records; how many at least, and at most -/
theorem hurt_all {ts : List (List UInt8)} {O D : ByteArray} (hL : O.data.toList = imgL ts) (hs : ∀ t ∈ ts, t.length ≤ 60000) (hz : Hurt O.data.toList D.data.toList) :
    ∃ c, c ≤ ts.length ∧ recsA D = (List.range c).map (recAt ts) ∧ endOf (recsA D) = endL ts c ∧ endL ts c ≤ D.size ∧ (∀ s, 32 * s < endL ts c → D.data.toList.getD (32 * s + 31) 0 ≠ 0) ∧
      ∀ i, i ≤ ts.length → endL ts i ≤ D.size → (∀ x, x < endL ts i → D.data.toList.getD x 0 = O.data.toList.getD x 0) → i ≤ c := by
  have h := hurt_recs hz D.size
  have hOsz : O.size = (imgL ts).length := by rw [← hL]; simp
  have hle : (recsK D D.size).length ≤ ts.length := by
    by_cases hc : (recsK D D.size).length ≤ ts.length
    · exact hc
    · exfalso
      have hn : firstB (O.extract (endOf (recsK O ts.length)) O.size) = none := by
        rw [recsK_img hL hs _ (Nat.le_refl _), endOf_range, endL_all, ← hOsz]
        exact firstB_at_end O O.size (by omega)
      have hno := recsK_no hn ((recsK D D.size).length - ts.length)
      rw [show ts.length + ((recsK D D.size).length - ts.length) = (recsK D D.size).length by omega] at hno
      have hl := congrArg List.length (h.trans hno)
      rw [recsK_img hL hs _ (Nat.le_refl _), List.length_map, List.length_range] at hl
      omega
  have hrec : recsA D = (List.range (recsK D D.size).length).map (recAt ts) := by
    unfold recsA
    rw [← recsK_img hL hs _ hle]
    exact h
  have hend : endOf (recsA D) = endL ts (recsK D D.size).length := by rw [hrec, endOf_range]
  refine ⟨(recsK D D.size).length, hle, hrec, hend, by rw [← hend]; exact (recsK_len D D.size).2.2.1, fun s hs' => (recsK_marks D D.size).2 s (by rw [show endOf (recsK D D.size) = _ from hend]; exact hs'), fun i hi h1 h2 => ?_⟩
  have e := kept_recs (D := D) hL hs i hi h1 h2
  have hil : (recsK D i).length = i := by rw [e, recsK_img hL hs i hi]; simp
  have hi32 := recsK_full hil
  have := recsK_mono D i (D.size - i)
  rw [show i + (D.size - i) = D.size by omega] at this
  omega
end Go.Proofs.Ytjpdgcodjnnljaa.Msg
