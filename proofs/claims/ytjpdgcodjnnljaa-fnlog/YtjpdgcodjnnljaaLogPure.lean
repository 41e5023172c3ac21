import Derived.Test.YtjpdgcodjnnljaaRecImpl2
namespace Go.Proofs.Ytjpdgcodjnnljaa.Msg
set_option linter.unusedVariables false
set_option linter.unusedSimpArgs false

/-! what stands in the sectors without their marks -/
def unmC (L : List UInt8) : Nat → List UInt8
  | 0 => []
  | k + 1 => unmC L k ++ (L.drop (32 * k)).take 31
def plainU (L : List UInt8) : Nat → List UInt8
  | 0 => []
  | i + 1 => plainU L i ++ [L.getD (i / 31 * 32 + i % 31) 0]
theorem plainU_length (L : List UInt8) : ∀ i, (plainU L i).length = i
  | 0 => rfl
  | i + 1 => by simp [plainU, plainU_length L i]
theorem plainU_run (L : List UInt8) (k : Nat) : ∀ c, c ≤ 31 → 32 * k + c ≤ L.length → plainU L (31 * k + c) = plainU L (31 * k) ++ (L.drop (32 * k)).take c
  | 0, _, _ => by simp
  | c + 1, hc, hl => by
    have ih := plainU_run L k c (by omega) (by omega)
    show plainU L (31 * k + c + 1) = _
    conv => lhs; unfold plainU
    have e : (31 * k + c) / 31 * 32 + (31 * k + c) % 31 = 32 * k + c := by omega
    rw [e, ih, List.append_assoc, List.take_succ_eq_append_getElem (by rw [List.length_drop]; omega), List.getElem_drop, List.getD_eq_getElem?_getD, List.getElem?_eq_getElem (by omega)]
    rfl
theorem plain_eq (L : List UInt8) : ∀ k, 32 * k ≤ L.length → plainU L (31 * k) = unmC L k
  | 0, _ => rfl
  | k + 1, h => by
    have ih := plain_eq L k (by omega)
    have := plainU_run L k 31 (by omega) (by omega)
    rw [show 31 * (k + 1) = 31 * k + 31 by omega, this, ih]
    rfl
theorem unmC_length (L : List UInt8) (k : Nat) (h : 32 * k ≤ L.length) : (unmC L k).length = 31 * k := by rw [← plain_eq L k h, plainU_length]

/-! the record at the beginning of an image -/
def sizeL (L : List UInt8) : Nat := (L.getD 0 0).toNat + (L.getD 1 0).toNat * 256 + (L.getD 2 0).toNat * 65536
theorem sizeL_le (L : List UInt8) : sizeL L ≤ 16777215 := by
  have h0 := (L.getD 0 0).toNat_lt
  have h1 := (L.getD 1 0).toNat_lt
  have h2 := (L.getD 2 0).toNat_lt
  unfold sizeL
  omega
def textL (L : List UInt8) : List UInt8 := ((unmC L (sectN (sizeL L))).drop 3).take (sizeL L)
theorem textL_length (L : List UInt8) (h : 32 * sectN (sizeL L) ≤ L.length) : (textL L).length = sizeL L := by
  unfold textL
  rw [List.length_take, List.length_drop, unmC_length L _ h]
  unfold sectN
  omega
def recText (I : ByteArray) : ByteArray := ⟨(textL I.data.toList).toArray⟩
theorem recText_size (I : ByteArray) (h : 32 * sectN (sizeL I.data.toList) ≤ I.size) : (recText I).size = sizeL I.data.toList := by
  show (textL I.data.toList).toArray.size = _
  rw [List.size_toArray, textL_length _ (by simpa using h)]
def firstB (I : ByteArray) : Option (ByteArray × Nat) :=
  if I.size < 32 then none
  else if I.size < 32 * sectN (sizeL I.data.toList) then none
  else if (recB (recText I)).toList == (I.extract 0 (32 * sectN (sizeL I.data.toList))).toList then some (recText I, 32 * sectN (sizeL I.data.toList)) else none
theorem toList_length (s : ByteArray) : s.toList.length = s.size := by rw [ByteArray.toList_eq]; simp
theorem firstB_big (I : ByteArray) (h : 60000 < sizeL I.data.toList) : firstB I = none := by
  unfold firstB
  split
  · rfl
  split
  · rfl
  · rename_i h1 h2
    rw [if_neg]
    intro e
    have e := congrArg List.length (eq_of_beq e)
    rw [toList_length, toList_length, ByteArray.size_extract] at e
    have h3 : recB (recText I) = ⟨#[]⟩ := by
      unfold recB
      rw [if_neg (by rw [recText_size I (by omega)]; omega)]
    rw [h3] at e
    have : (⟨#[]⟩ : ByteArray).size = 0 := rfl
    have h4 : 1 ≤ sectN (sizeL I.data.toList) := by unfold sectN; omega
    omega
theorem firstB_some {I : ByteArray} {t : ByteArray} {k : Nat} (h : firstB I = some (t, k)) : 32 ≤ k ∧ k ≤ I.size ∧ t.size ≤ 60000 := by
  by_cases hb : 60000 < sizeL I.data.toList
  · rw [firstB_big I hb] at h; cases h
  unfold firstB at h
  split at h
  · cases h
  split at h
  · cases h
  split at h
  · rename_i h1 h2 h3
    injection h with h
    injection h with ht hk
    have h4 : 1 ≤ sectN (sizeL I.data.toList) := by unfold sectN; omega
    refine ⟨by omega, by omega, ?_⟩
    rw [← ht, recText_size I (by omega)]
    omega
  · cases h

/-! all records of an image -/
def endOf (l : List (ByteArray × Nat)) : Nat := (l.getLast?.map (·.2)).getD 0
def recsK (img : ByteArray) : Nat → List (ByteArray × Nat)
  | 0 => []
  | k + 1 => match firstB (img.extract (endOf (recsK img k)) img.size) with
    | some p => recsK img k ++ [(p.1, endOf (recsK img k) + p.2)]
    | none => recsK img k
theorem endOf_snoc (l : List (ByteArray × Nat)) (t : ByteArray) (n : Nat) : endOf (l ++ [(t, n)]) = n := by simp [endOf]
theorem recsK_yes {img : ByteArray} {k : Nat} {t : ByteArray} {n : Nat} (h : firstB (img.extract (endOf (recsK img k)) img.size) = some (t, n)) : recsK img (k + 1) = recsK img k ++ [(t, endOf (recsK img k) + n)] := by
  conv => lhs; unfold recsK
  rw [h]
theorem recsK_no {img : ByteArray} {k : Nat} (h : firstB (img.extract (endOf (recsK img k)) img.size) = none) : ∀ j, recsK img (k + j) = recsK img k
  | 0 => rfl
  | j + 1 => by
    have ih := recsK_no h j
    show recsK img (k + j + 1) = _
    conv => lhs; unfold recsK
    rw [ih, h]
/-- where every one so far was there, the end lies behind 32 bytes a record, and within the image -/
theorem recsK_len (img : ByteArray) : ∀ k, (recsK img k).length ≤ k ∧ 32 * (recsK img k).length ≤ endOf (recsK img k) ∧ endOf (recsK img k) ≤ img.size ∧ ∀ p ∈ recsK img k, p.1.size ≤ 60000 ∧ p.2 ≤ img.size
  | 0 => ⟨Nat.le_refl _, Nat.le_refl _, Nat.zero_le _, fun p hp => by simp [recsK] at hp⟩
  | k + 1 => by
    obtain ⟨h1, h2, h3, h4⟩ := recsK_len img k
    cases hf : firstB (img.extract (endOf (recsK img k)) img.size) with
    | none => rw [recsK_no hf 1]; exact ⟨by omega, h2, h3, h4⟩
    | some p =>
      obtain ⟨t, n⟩ := p
      obtain ⟨g1, g2, g3⟩ := firstB_some hf
      rw [ByteArray.size_extract] at g2
      rw [recsK_yes hf, endOf_snoc]
      refine ⟨by simp; omega, by simp; omega, by omega, fun p hp => ?_⟩
      rcases List.mem_append.1 hp with hp | hp
      · exact h4 p hp
      · simp only [List.mem_singleton] at hp
        subst hp
        exact ⟨g3, by simp only; omega⟩
def recsA (img : ByteArray) : List (ByteArray × Nat) := recsK img img.size
theorem recsA_of {img : ByteArray} {k : Nat} (hk : k ≤ img.size) (h : firstB (img.extract (endOf (recsK img k)) img.size) = none) : recsA img = recsK img k := by
  unfold recsA
  have := recsK_no h (img.size - k)
  rwa [show k + (img.size - k) = img.size by omega] at this
/-- k records were there: the next goes on from k -/
theorem recsK_full {img : ByteArray} {k : Nat} (h : (recsK img k).length = k) : 32 * k ≤ img.size := by
  have := recsK_len img k
  omega
theorem firstB_at_end (img : ByteArray) (n : Nat) (h : img.size < n + 32) : firstB (img.extract n img.size) = none := by
  unfold firstB
  rw [if_pos (by rw [ByteArray.size_extract]; omega)]
end Go.Proofs.Ytjpdgcodjnnljaa.Msg
