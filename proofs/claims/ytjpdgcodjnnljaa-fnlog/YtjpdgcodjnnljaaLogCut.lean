import Derived.Test.YtjpdgcodjnnljaaLogPure
import Derived.Test.YtjpdgcodjnnljaaMarkText
namespace Go.Proofs.Ytjpdgcodjnnljaa.Msg
set_option linter.unusedVariables false
set_option linter.unusedSimpArgs false

/-! reading, over lists -/
def firstL (L : List UInt8) : Option (ByteArray × Nat) := firstB ⟨L.toArray⟩
theorem unmC_take (L : List UInt8) (k : Nat) : ∀ j, 32 * j ≤ k → unmC (L.take k) j = unmC L j
  | 0, _ => rfl
  | j + 1, hj => by
    unfold unmC
    rw [unmC_take L k j (by omega)]
    congr 1
    rw [List.drop_take, List.take_take, Nat.min_eq_left (by omega)]
theorem sizeL_take (L : List UInt8) (k : Nat) (hk : 3 ≤ k) : sizeL (L.take k) = sizeL L := by
  unfold sizeL
  simp only [List.getD_eq_getElem?_getD, List.getElem?_take]
  rw [if_pos (by omega), if_pos (by omega), if_pos (by omega)]
theorem sectN_pos (n : Nat) : 1 ≤ sectN n := by unfold sectN; omega
theorem toList_mk (l : List UInt8) : (⟨l.toArray⟩ : ByteArray).toList = l := by rw [ByteArray.toList_eq]
theorem firstL_some {L : List UInt8} {t : ByteArray} {k : Nat} (h : firstL L = some (t, k)) :
    k = 32 * sectN (sizeL L) ∧ k ≤ L.length ∧ sizeL L ≤ 60000 ∧ t = ⟨(textL L).toArray⟩ ∧ recL (textL L) = L.take k := by
  unfold firstL at h
  have hb : ¬ 60000 < sizeL L := fun hb => by rw [firstB_big ⟨L.toArray⟩ hb] at h; cases h
  have hsz : (⟨L.toArray⟩ : ByteArray).size = L.length := by show L.toArray.size = _; simp
  unfold firstB at h
  rw [hsz] at h
  split at h
  · cases h
  split at h
  · cases h
  split at h
  · rename_i h1 h2 h3
    injection h with h
    injection h with ht hk
    have h2' : 32 * sectN (sizeL L) ≤ L.length := by simpa using h2
    have hts : (recText ⟨L.toArray⟩).size = sizeL L := recText_size ⟨L.toArray⟩ (by rw [hsz]; exact h2')
    refine ⟨hk.symm, by rw [← hk]; exact h2', by omega, ht.symm, ?_⟩
    have h3' := eq_of_beq h3
    unfold recB at h3'
    rw [if_pos (by rw [hts]; omega), toList_mk] at h3'
    have e1 : (recText ⟨L.toArray⟩).data.toList = textL L := rfl
    rw [e1] at h3'
    rw [h3', ByteArray.toList_eq, ← hk]
    simp only [ByteArray.data_extract, Array.toList_extract, List.extract_eq_take_drop, List.drop_zero, Nat.sub_zero]
  · cases h
theorem firstL_mk {L : List UInt8} {k : Nat} (hk : k = 32 * sectN (sizeL L)) (hl : k ≤ L.length) (hs : sizeL L ≤ 60000) (he : recL (textL L) = L.take k) : firstL L = some (⟨(textL L).toArray⟩, k) := by
  have hsz : (⟨L.toArray⟩ : ByteArray).size = L.length := by show L.toArray.size = _; simp
  have hp := sectN_pos (sizeL L)
  have hts : (recText ⟨L.toArray⟩).size = sizeL L := recText_size ⟨L.toArray⟩ (by rw [hsz]; show 32 * sectN (sizeL L) ≤ _; omega)
  unfold firstL firstB
  rw [hsz, if_neg (by omega), if_neg (by show ¬ L.length < 32 * sectN (sizeL L); omega), if_pos]
  · show some (recText ⟨L.toArray⟩, 32 * sectN (sizeL L)) = _
    rw [← hk]
    rfl
  · show ((recB (recText ⟨L.toArray⟩)).toList == ((⟨L.toArray⟩ : ByteArray).extract 0 (32 * sectN (sizeL L))).toList) = true
    rw [beq_iff_eq]
    unfold recB
    rw [if_pos (by rw [hts]; exact hs), toList_mk]
    have e1 : (recText ⟨L.toArray⟩).data.toList = textL L := rfl
    rw [e1, he, hk, ByteArray.toList_eq]
    simp only [ByteArray.data_extract, Array.toList_extract, List.extract_eq_take_drop, List.drop_zero, Nat.sub_zero]
/-- what is read hangs on the record's own bytes alone -/
theorem firstL_same {L L' : List UInt8} {t : ByteArray} {k : Nat} (h : firstL L = some (t, k)) (he : L'.take k = L.take k) (hl : k ≤ L'.length) : firstL L' = some (t, k) := by
  obtain ⟨hk, h1, h2, rfl, h3⟩ := firstL_some h
  have hp := sectN_pos (sizeL L)
  have es : sizeL L' = sizeL L := by rw [← sizeL_take L' k (by omega), he, sizeL_take L k (by omega)]
  have ep : unmC L' (sectN (sizeL L)) = unmC L (sectN (sizeL L)) := by rw [← unmC_take L' k _ (by omega), he, unmC_take L k _ (by omega)]
  have et : textL L' = textL L := by unfold textL; rw [es, ep]
  rw [← et]
  exact firstL_mk (by rw [es]; exact hk) hl (by rw [es]; exact h2) (by rw [et, h3, he])

/-! the sectors of a record -/
def mkAt (k : Nat) : UInt8 := if k = 0 then 65 else 66
theorem mkAt_ne (k : Nat) : mkAt k ≠ 0 := by unfold mkAt; split <;> decide
theorem markU_prefix (P : List UInt8) (i : Nat) : ∀ j, ∃ r, markU P (i + j) = markU P i ++ r
  | 0 => ⟨[], by simp⟩
  | j + 1 => by
    obtain ⟨r, hr⟩ := markU_prefix P i j
    refine ⟨r ++ ([P.getD (i + j) 0] ++ (if (i + j) % 31 = 30 then [if i + j < 31 then 65 else 66] else [])), ?_⟩
    show markU P (i + j + 1) = _
    conv => lhs; unfold markU
    rw [hr]
    simp only [List.append_assoc]
theorem recL_sector (l : List UInt8) (k : Nat) (hk : k < sectN l.length) :
    ((recL l).drop (32 * k)).take 32 = ((paddedL (bodyL l)).drop (31 * k)).take 31 ++ [mkAt k] := by
  have hp := padded_length (bodyL l)
  have hb := bodyL_length l
  have hP : (paddedL (bodyL l)).length = 31 * sectN l.length := by rw [hp, hb]; unfold sectN; omega
  unfold recL
  generalize hPP : paddedL (bodyL l) = P at *
  obtain ⟨r, hr⟩ := markU_prefix P (31 * (k + 1)) (P.length - 31 * (k + 1))
  rw [show 31 * (k + 1) + (P.length - 31 * (k + 1)) = P.length by omega] at hr
  have hs := markU_sector P k (by omega)
  have hl := markU_length P (31 * k)
  have e : (31 * k) / 31 = k := by omega
  rw [e] at hl
  rw [hr, hs]
  have h31 : ((P.drop (31 * k)).take 31).length = 31 := by rw [List.length_take, List.length_drop]; omega
  simp only [List.append_assoc]
  rw [List.drop_append_of_le_length (by omega), List.drop_of_length_le (by omega), List.nil_append, ← List.append_assoc, List.take_append_of_le_length (by simp [h31]), List.take_of_length_le (by simp [h31])]
  rfl
theorem recL_mark (l : List UInt8) (k : Nat) (hk : k < sectN l.length) : (recL l).getD (32 * k + 31) 0 = mkAt k := by
  have h := recL_sector l k hk
  have hp := padded_length (bodyL l)
  have hb := bodyL_length l
  have h31 : (((paddedL (bodyL l)).drop (31 * k)).take 31).length = 31 := by
    rw [List.length_take, List.length_drop, hp, hb]
    unfold sectN at hk
    omega
  have e : (((recL l).drop (32 * k)).take 32)[31]? = some (mkAt k) := by
    rw [h, List.getElem?_append_right (by omega), h31]
    rfl
  rw [List.getElem?_take, if_pos (by omega), List.getElem?_drop] at e
  rw [List.getD_eq_getElem?_getD, e]
  rfl
theorem recL_plain (l : List UInt8) (r : List UInt8) : ∀ k, k ≤ sectN l.length → unmC (recL l ++ r) k = (paddedL (bodyL l)).take (31 * k)
  | 0, _ => by simp [unmC]
  | k + 1, hk => by
    have hlen := recL_length l
    unfold unmC
    rw [recL_plain l r k (by omega), List.drop_append_of_le_length (by omega), List.take_append_of_le_length (by rw [List.length_drop]; omega)]
    have h := recL_sector l k (by omega)
    have hp := padded_length (bodyL l)
    have hb := bodyL_length l
    have h31 : (((paddedL (bodyL l)).drop (31 * k)).take 31).length = 31 := by
      rw [List.length_take, List.length_drop, hp, hb]
      unfold sectN at hk
      omega
    have e : ((recL l).drop (32 * k)).take 31 = ((paddedL (bodyL l)).drop (31 * k)).take 31 := by
      have e0 : ((recL l).drop (32 * k)).take 31 = (((recL l).drop (32 * k)).take 32).take 31 := by rw [List.take_take, Nat.min_eq_left (by omega)]
      rw [e0, h, List.take_append_of_le_length (by omega), List.take_take, Nat.min_self]
    rw [e, ← List.take_add]
    congr 1
/-- a record that stands there is read -/
theorem firstL_rec (l r : List UInt8) (hl : l.length ≤ 60000) : firstL (recL l ++ r) = some (⟨l.toArray⟩, 32 * sectN l.length) := by
  have hlen := recL_length l
  have hb := bodyL_length l
  have hpl := padded_length (bodyL l)
  have hp := sectN_pos l.length
  have hplain := recL_plain l r (sectN l.length) (Nat.le_refl _)
  have hfull : (paddedL (bodyL l)).take (31 * sectN l.length) = paddedL (bodyL l) := List.take_of_length_le (by rw [hpl, hb]; unfold sectN; omega)
  rw [hfull] at hplain
  have h3 : ∀ i, i < 3 → (recL l ++ r).getD i 0 = (szL l.length).getD i 0 := fun i hi => by
    have h := recL_sector l 0 (by omega)
    have e : (((recL l).drop (32 * 0)).take 32)[i]? = (szL l.length)[i]? := by
      rw [h, List.getElem?_append_left (by rw [List.length_take, List.length_drop, hpl, hb]; omega), List.getElem?_take, if_pos (by omega), Nat.mul_zero, List.drop_zero]
      unfold paddedL bodyL
      rw [List.append_assoc, List.getElem?_append_left (by simp [szL]; omega)]
    rw [List.getElem?_take, if_pos (by omega), Nat.mul_zero, List.drop_zero] at e
    rw [List.getD_eq_getElem?_getD, List.getElem?_append_left (by omega), e, List.getD_eq_getElem?_getD]
  have hsize : sizeL (recL l ++ r) = l.length := by
    unfold sizeL
    rw [h3 0 (by omega), h3 1 (by omega), h3 2 (by omega)]
    simp only [szL, List.getD_cons_zero, List.getD_cons_succ]
    rw [UInt8.toNat_ofNat', UInt8.toNat_ofNat', UInt8.toNat_ofNat']
    omega
  have htext : textL (recL l ++ r) = l := by
    unfold textL
    rw [hsize, hplain]
    unfold paddedL bodyL
    rw [List.append_assoc, List.drop_append_of_le_length (by simp [szL]), List.drop_of_length_le (by simp [szL]), List.nil_append, List.take_append_of_le_length (by omega), List.take_of_length_le (by omega)]
  have := firstL_mk (L := recL l ++ r) (k := 32 * sectN l.length) (by rw [hsize]) (by rw [List.length_append]; omega) (by rw [hsize]; exact hl) (by rw [htext, List.take_append_of_le_length (by omega), List.take_of_length_le (by omega)])
  rw [htext] at this
  exact this
end Go.Proofs.Ytjpdgcodjnnljaa.Msg
