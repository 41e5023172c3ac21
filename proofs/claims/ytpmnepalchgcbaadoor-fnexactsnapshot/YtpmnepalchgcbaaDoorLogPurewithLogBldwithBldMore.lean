import Derived.Test.YtpmnepalchgcbaaDoorRecImpl2
import Derived.Test.YtpmnepalchgcbaaDoorShelf
import Derived.Lib.Builder
import Derived.Test.YtpmnepalchgcbaaDoorFlatAppwithDrawMsgKwithTblCopy
namespace Go.Proofs.YtpmnepalchgcbaaDoor.Msg
set_option linter.unusedVariables false
set_option linter.unusedSimpArgs false

/-! what stands in the sectors without their marks -/
def unmC (L : List UInt8) : Nat → List UInt8
  | 0 => []
  | k + 1 => unmC L k ++ (L.drop (32 * k)).take 31
def plainU (L : List UInt8) : Nat → List UInt8
  | 0 => []
  | i + 1 => plainU L i ++ [L.getD (i / 31 * 32 + i % 31) 0]
theorem plainU_length (L : List UInt8) : ∀ i, (plainU L i).length = i
  | 0 => rfl
  | i + 1 => by simp [plainU, plainU_length L i]
theorem plainU_run (L : List UInt8) (k : Nat) : ∀ c, c ≤ 31 → 32 * k + c ≤ L.length → plainU L (31 * k + c) = plainU L (31 * k) ++ (L.drop (32 * k)).take c
  | 0, _, _ => by simp
  | c + 1, hc, hl => by
    have ih := plainU_run L k c (by omega) (by omega)
    show plainU L (31 * k + c + 1) = _
    conv => lhs; unfold plainU
    have e : (31 * k + c) / 31 * 32 + (31 * k + c) % 31 = 32 * k + c := by omega
    rw [e, ih, List.append_assoc, List.take_succ_eq_append_getElem (by rw [List.length_drop]; omega), List.getElem_drop, List.getD_eq_getElem?_getD, List.getElem?_eq_getElem (by omega)]
    rfl
theorem plain_eq (L : List UInt8) : ∀ k, 32 * k ≤ L.length → plainU L (31 * k) = unmC L k
  | 0, _ => rfl
  | k + 1, h => by
    have ih := plain_eq L k (by omega)
    have := plainU_run L k 31 (by omega) (by omega)
    rw [show 31 * (k + 1) = 31 * k + 31 by omega, this, ih]
    rfl
theorem unmC_length (L : List UInt8) (k : Nat) (h : 32 * k ≤ L.length) : (unmC L k).length = 31 * k := by rw [← plain_eq L k h, plainU_length]

/-! the record at the beginning of an image -/
def sizeL (L : List UInt8) : Nat := (L.getD 0 0).toNat + (L.getD 1 0).toNat * 256 + (L.getD 2 0).toNat * 65536
theorem sizeL_le (L : List UInt8) : sizeL L ≤ 16777215 := by
  have h0 := (L.getD 0 0).toNat_lt
  have h1 := (L.getD 1 0).toNat_lt
  have h2 := (L.getD 2 0).toNat_lt
  unfold sizeL
  omega
def textL (L : List UInt8) : List UInt8 := ((unmC L (sectN (sizeL L))).drop 3).take (sizeL L)
theorem textL_length (L : List UInt8) (h : 32 * sectN (sizeL L) ≤ L.length) : (textL L).length = sizeL L := by
  unfold textL
  rw [List.length_take, List.length_drop, unmC_length L _ h]
  unfold sectN
  omega
def recText (I : ByteArray) : ByteArray := ⟨(textL I.data.toList).toArray⟩
theorem recText_size (I : ByteArray) (h : 32 * sectN (sizeL I.data.toList) ≤ I.size) : (recText I).size = sizeL I.data.toList := by
  show (textL I.data.toList).toArray.size = _
  rw [List.size_toArray, textL_length _ (by simpa using h)]
def firstB (I : ByteArray) : Option (ByteArray × Nat) :=
  if I.size < 32 then none
  else if I.size < 32 * sectN (sizeL I.data.toList) then none
  else if (recB (recText I)).toList == (I.extract 0 (32 * sectN (sizeL I.data.toList))).toList then some (recText I, 32 * sectN (sizeL I.data.toList)) else none
theorem toList_length (s : ByteArray) : s.toList.length = s.size := by rw [ByteArray.toList_eq]; simp
theorem firstB_big (I : ByteArray) (h : 60000 < sizeL I.data.toList) : firstB I = none := by
  unfold firstB
  split
  · rfl
  split
  · rfl
  · rename_i h1 h2
    rw [if_neg]
    intro e
    have e := congrArg List.length (eq_of_beq e)
    rw [toList_length, toList_length, ByteArray.size_extract] at e
    have h3 : recB (recText I) = ⟨#[]⟩ := by
      unfold recB
      rw [if_neg (by rw [recText_size I (by omega)]; omega)]
    rw [h3] at e
    have : (⟨#[]⟩ : ByteArray).size = 0 := rfl
    have h4 : 1 ≤ sectN (sizeL I.data.toList) := by unfold sectN; omega
    omega
theorem firstB_some {I : ByteArray} {t : ByteArray} {k : Nat} (h : firstB I = some (t, k)) : 32 ≤ k ∧ k ≤ I.size ∧ t.size ≤ 60000 := by
  by_cases hb : 60000 < sizeL I.data.toList
  · rw [firstB_big I hb] at h; cases h
  unfold firstB at h
  split at h
  · cases h
  split at h
  · cases h
  split at h
  · rename_i h1 h2 h3
    injection h with h
    injection h with ht hk
    have h4 : 1 ≤ sectN (sizeL I.data.toList) := by unfold sectN; omega
    refine ⟨by omega, by omega, ?_⟩
    rw [← ht, recText_size I (by omega)]
    omega
  · cases h

/-! all records of an image -/
def endOf (l : List (ByteArray × Nat)) : Nat := (l.getLast?.map (·.2)).getD 0
def recsK (img : ByteArray) : Nat → List (ByteArray × Nat)
  | 0 => []
  | k + 1 => match firstB (img.extract (endOf (recsK img k)) img.size) with
    | some p => recsK img k ++ [(p.1, endOf (recsK img k) + p.2)]
    | none => recsK img k
theorem endOf_snoc (l : List (ByteArray × Nat)) (t : ByteArray) (n : Nat) : endOf (l ++ [(t, n)]) = n := by simp [endOf]
theorem recsK_yes {img : ByteArray} {k : Nat} {t : ByteArray} {n : Nat} (h : firstB (img.extract (endOf (recsK img k)) img.size) = some (t, n)) : recsK img (k + 1) = recsK img k ++ [(t, endOf (recsK img k) + n)] := by
  conv => lhs; unfold recsK
  rw [h]
theorem recsK_no {img : ByteArray} {k : Nat} (h : firstB (img.extract (endOf (recsK img k)) img.size) = none) : ∀ j, recsK img (k + j) = recsK img k
  | 0 => rfl
  | j + 1 => by
    have ih := recsK_no h j
    show recsK img (k + j + 1) = _
    conv => lhs; unfold recsK
    rw [ih, h]
/-- where every one so far was there, the end lies behind 32 bytes a record, and within the image -/
theorem recsK_len (img : ByteArray) : ∀ k, (recsK img k).length ≤ k ∧ 32 * (recsK img k).length ≤ endOf (recsK img k) ∧ endOf (recsK img k) ≤ img.size ∧ ∀ p ∈ recsK img k, p.1.size ≤ 60000 ∧ p.2 ≤ img.size
  | 0 => ⟨Nat.le_refl _, Nat.le_refl _, Nat.zero_le _, fun p hp => by simp [recsK] at hp⟩
  | k + 1 => by
    obtain ⟨h1, h2, h3, h4⟩ := recsK_len img k
    cases hf : firstB (img.extract (endOf (recsK img k)) img.size) with
    | none => rw [recsK_no hf 1]; exact ⟨by omega, h2, h3, h4⟩
    | some p =>
      obtain ⟨t, n⟩ := p
      obtain ⟨g1, g2, g3⟩ := firstB_some hf
      rw [ByteArray.size_extract] at g2
      rw [recsK_yes hf, endOf_snoc]
      refine ⟨by simp; omega, by simp; omega, by omega, fun p hp => ?_⟩
      rcases List.mem_append.1 hp with hp | hp
      · exact h4 p hp
      · simp only [List.mem_singleton] at hp
        subst hp
        exact ⟨g3, by simp only; omega⟩
def recsA (img : ByteArray) : List (ByteArray × Nat) := recsK img img.size
theorem recsA_of {img : ByteArray} {k : Nat} (hk : k ≤ img.size) (h : firstB (img.extract (endOf (recsK img k)) img.size) = none) : recsA img = recsK img k := by
  unfold recsA
  have := recsK_no h (img.size - k)
  rwa [show k + (img.size - k) = img.size by omega] at this
/-- k records were there: the next goes on from k -/
theorem recsK_full {img : ByteArray} {k : Nat} (h : (recsK img k).length = k) : 32 * k ≤ img.size := by
  have := recsK_len img k
  omega
theorem firstB_at_end (img : ByteArray) (n : Nat) (h : img.size < n + 32) : firstB (img.extract n img.size) = none := by
  unfold firstB
  rw [if_pos (by rw [ByteArray.size_extract]; omega)]
end Go.Proofs.YtpmnepalchgcbaaDoor.Msg

namespace Go.Proofs.YtpmnepalchgcbaaDoor.Msg
open Go.ChangeShapes Go.WideShapes Go.ChangeAt Go.RowKit Go.Shelf
set_option linter.unusedVariables false
set_option linter.unusedSimpArgs false

theorem bld_size : (Tryd.prog.info? 50).map (·.size) = some 2 := by kernel_rfl
theorem bld_lies : liesAt Tryd.prog Tryd.prog.depth 50 (2 / Tryd.prog.cellsOf 50) 0 50 1 = true := by kernel_rfl
theorem bld_cells (l : List UInt8) : Lib.byteCells l = u8s l := rfl

set_option maxHeartbeats 1000000 in
set_option maxRecDepth 100000 in
theorem copyCheck_used (b : Nat) (w : World) (h0 : w.cell? ⟨b, 0, none⟩ = some (.pointer (some ⟨b, 0, none⟩))) :
    Calls Tryd.prog 31 #[.pointer (some ⟨b, 0, none⟩)] w fun e w' => e = .returned (.tuple #[]) ∧ w' = w := by
  obtain ⟨j, hj, _⟩ := Option.map_eq_some_iff.1 bld_size
  go_enter Tryd.func31, Tryd.ntmps31
  go_wp2
  first
    | (go_end0; exact ⟨rfl, rfl⟩)
    | (rw [Lib.run_neq_ptr_same w _ Tryd.underlying48 hj]
       go_wp2
       go_end0
       exact ⟨rfl, rfl⟩)

set_option maxHeartbeats 1000000 in
set_option maxRecDepth 100000 in
theorem copyCheck_fresh (b : Nat) (w : World) (h0 : w.cell? ⟨b, 0, none⟩ = some (.pointer none)) (hsh : w.shape? b = some (50, 2)) (hfz : w.frozen? ⟨b, 0, none⟩ = false) :
    Calls Tryd.prog 31 #[.pointer (some ⟨b, 0, none⟩)] w fun e w' => e = .returned (.tuple #[]) ∧ w' = w.setCell ⟨b, 0, none⟩ (.pointer (some ⟨b, 0, none⟩)) := by
  obtain ⟨j, hj, hjs⟩ := Option.map_eq_some_iff.1 bld_size
  go_enter Tryd.func31, Tryd.ntmps31
  go_wp2
  rw [Lib.run_to_unsafe w ⟨b, 0, none⟩ Tryd.underlying48 Tryd.underlying87 hj (by rw [hjs]; decide) hsh (Nat.zero_lt_succ 1)]
  simp only [Result.andThen]
  rw [Oper.upon_value]
  go_wp2
  rw [run_callFunc_extern Tryd.func51 (by kernel_rfl) (by kernel_rfl) (by kernel_rfl) (e := Extern.AbiNoEscape.same) (by kernel_rfl)]
  rw [Lib.run_noEscape]
  simp only [Result.andThen]
  rw [Oper.upon_value]
  go_wp2
  rw [Lib.run_from_unsafe w ⟨b, 0, none⟩ Tryd.underlying87 Tryd.underlying48 hj hsh bld_lies]
  simp only [Result.andThen]
  rw [Oper.upon_value]
  go_wp2
  go_end0
  exact ⟨rfl, rfl⟩

theorem copyCheck_any (B b : Nat) (bs : List Value) (w : World) (h : Lib.IsBuilder 50 5 B b bs w) :
    Calls Tryd.prog 31 #[.pointer (some ⟨b, 0, none⟩)] w fun e w' => e = .returned (.tuple #[]) ∧ (Lib.BuilderAt 50 5 B b (.pointer (some ⟨b, 0, none⟩)) bs w' ∧ Below B w w') := by
  rcases h with h | h
  · refine (copyCheck_fresh b w h.cell0 h.shape h.frozen0).mono ?_
    rintro e w' ⟨rfl, rfl⟩
    exact ⟨rfl, h.used _, (Below.refl B w).setCell (p := ⟨b, 0, none⟩) h.1 _⟩
  · refine (copyCheck_used b w h.cell0).mono ?_
    rintro e w' ⟨rfl, rfl⟩
    exact ⟨rfl, h, Below.refl B _⟩

set_option maxHeartbeats 2000000 in
set_option maxRecDepth 100000 in
theorem writeStr_any (B b : Nat) (bs : List Value) (s : ByteArray) (w : World) (h : Lib.IsBuilder 50 5 B b bs w) (hlen : bs.length + s.size ≤ 70368744177664) (hBw : B ≤ w.heap.size) :
    Calls Tryd.prog 17 #[.pointer (some ⟨b, 0, none⟩), .string s] w fun e w' => e = .returned (.tuple #[.int .i64 s.size, .nilIface]) ∧ (Lib.BuilderAt 50 5 B b (.pointer (some ⟨b, 0, none⟩)) (bs ++ Lib.strCells s) w' ∧ Below B w w') := by
  obtain ⟨i0, hi, hz0, hz1, hz2⟩ := u8_facts
  go_enter Tryd.func17, Tryd.ntmps17
  go_wp2_with (go_at_call 31; refine (copyCheck_any B b bs _ h).mono ?_)
  rintro e w1 ⟨rfl, h1, hb1⟩
  obtain ⟨hB, v, hbk, hown, hne⟩ := h1
  have c0 : w1.cell? ⟨b, 0, none⟩ = some (.pointer (some ⟨b, 0, none⟩)) := by rw [Lib.cell_of_heap hbk]; rfl
  have c1 : w1.cell? ⟨b, 1, none⟩ = some v := by rw [Lib.cell_of_heap hbk]; rfl
  go_wp2_with (at_builtin; refine Lib.wpList_append_own_string _ rfl _ _ 35 9 rfl B 5 i0 Tryd.underlying35 Tryd.underlying9 hi hz0 hz1 hz2 _ _ _ rfl hown s rfl ?c3 ?c4 ?c5 ?_)
  case c3 => unfold maxLen; omega
  case c4 => omega
  case c5 => have := hb1.size; omega
  intro v' w2 hown' hgrow _
  have hlt : b < w1.heap.size := by
    rcases Nat.lt_or_ge b w1.heap.size with h' | h'
    · exact h'
    · simp [Array.getElem?_eq_none h'] at hbk
  have hb2 : w2.heap[b]? = some (.cells #[.pointer (some ⟨b, 0, none⟩), v] 50 (0, 0)) := by
    rw [hgrow.block b hlt (fun e => hne e.symm)]
    exact hbk
  have d0 : w2.cell? ⟨b, 0, none⟩ = some (.pointer (some ⟨b, 0, none⟩)) := by rw [Lib.cell_of_heap hb2]; rfl
  have d1 : w2.cell? ⟨b, 1, none⟩ = some v := by rw [Lib.cell_of_heap hb2]; rfl
  have f1 : w2.frozen? ⟨b, 1, none⟩ = false := Lib.frozen_of_heap hb2 1
  obtain ⟨ao, n', cap, rfl⟩ : ∃ ao n' cap, v' = .slice ao n' cap := by
    rcases hown'.2 with ⟨hv, _⟩ | ⟨g, cap, cur, hv, _⟩
    · exact ⟨_, _, _, hv⟩
    · exact ⟨_, _, _, hv⟩
  go_wp2
  go_ret2
  refine ⟨rfl, ?_, ?_⟩
  · exact Lib.BuilderAt.put (T := 50) (e := 5) hB hb2 (bs' := bs ++ Lib.strCells s) (by simpa [Lib.strCells_length] using hown') (by decide)
  · exact (hb1.grown hgrow (by have := hb1.size; omega) (fun k hk => (hown.lt k hk).1)).setCell (p := ⟨b, 1, none⟩) hB _

end Go.Proofs.YtpmnepalchgcbaaDoor.Msg

namespace Go.Proofs.YtpmnepalchgcbaaDoor.Msg
open Go.ChangeShapes Go.WideShapes Go.ChangeAt Go.RowKit Go.Shelf
set_option linter.unusedVariables false
set_option linter.unusedSimpArgs false

/-! a strings.Builder beside other boxes: what is neither a Builder nor a row of bytes stays as it is -/
theorem bat_below {T e : TypeId} {B b : Nat} {p : Value} {bs : List Value} {w w' : World} (h : Lib.BuilderAt T e B b p bs w) (hb : Below w.heap.size w w') : Lib.BuilderAt T e B b p bs w' := by
  obtain ⟨hB, v, hk, hown, hne⟩ := h
  have hlt : b < w.heap.size := by rw [Array.getElem?_eq_some_iff] at hk; exact hk.1
  refine ⟨hB, v, by rw [hb.block b hlt]; exact hk, ?_, hne⟩
  obtain ⟨h0, ⟨rfl, h1⟩ | ⟨g, cap, cur, rfl, hg, hh, rest⟩⟩ := hown
  · exact ⟨h0, .inl ⟨rfl, h1⟩⟩
  · have hgl : g < w.heap.size := by rw [Array.getElem?_eq_some_iff] at hh; exact hh.1
    exact ⟨h0, .inr ⟨g, cap, cur, rfl, hg, by rw [hb.block g hgl]; exact hh, rest⟩⟩
theorem isb_below {T e : TypeId} {B b : Nat} {bs : List Value} {w w' : World} (h : Lib.IsBuilder T e B b bs w) (hb : Below w.heap.size w w') : Lib.IsBuilder T e B b bs w' := by
  rcases h with h | h
  · exact .inl (bat_below h hb)
  · exact .inr (bat_below h hb)
theorem copyCheck_more (B b : Nat) (bs : List Value) (w : World) (h : Lib.IsBuilder 50 5 B b bs w) :
    Calls Tryd.prog 31 #[.pointer (some ⟨b, 0, none⟩)] w fun e w' => e = .returned (.tuple #[]) ∧ (Lib.BuilderAt 50 5 B b (.pointer (some ⟨b, 0, none⟩)) bs w' ∧ Below B w w' ∧ ∀ d, d ≠ b → w'.heap[d]? = w.heap[d]?) := by
  rcases h with h | h
  · refine (copyCheck_fresh b w h.cell0 h.shape h.frozen0).mono ?_
    rintro e w' ⟨rfl, rfl⟩
    exact ⟨rfl, h.used _, (Below.refl B w).setCell (p := ⟨b, 0, none⟩) h.1 _, fun d hd => Deep.blk_setCell_other _ ⟨b, 0, none⟩ _ d hd⟩
  · refine (copyCheck_used b w h.cell0).mono ?_
    rintro e w' ⟨rfl, rfl⟩
    exact ⟨rfl, h, Below.refl B _, fun _ _ => rfl⟩

/-- what is no Builder and no row of bytes stays -/
def BKeeps (w w' : World) : Prop := ∀ d t cs, Box w d t cs → t ≠ 50 → t ≠ 5 → w'.heap[d]? = w.heap[d]?
set_option maxHeartbeats 2000000 in
set_option maxRecDepth 100000 in
theorem writeStr_more (B b : Nat) (bs : List Value) (s : ByteArray) (w : World) (h : Lib.IsBuilder 50 5 B b bs w) (hlen : bs.length + s.size ≤ 70368744177664) (hBw : B ≤ w.heap.size) :
    Calls Tryd.prog 17 #[.pointer (some ⟨b, 0, none⟩), .string s] w fun e w' => e = .returned (.tuple #[.int .i64 s.size, .nilIface]) ∧ (Lib.IsBuilder 50 5 B b (bs ++ Lib.strCells s) w' ∧ Below B w w' ∧ BKeeps w w') := by
  obtain ⟨i0, hi, hz0, hz1, hz2⟩ := u8_facts
  have HBT : Hid (∀ d t cs, Box w d t cs → t ≠ 50 → d ≠ b) := fun d t cs hd ht e => by
    subst e
    have hk : ∃ p v, w.heap[d]? = some (.cells #[p, v] 50 (0, 0)) := by
      rcases h with ⟨_, v, hk, _⟩ | ⟨_, v, hk, _⟩
      · exact ⟨_, _, hk⟩
      · exact ⟨_, _, hk⟩
    obtain ⟨p, v, hk⟩ := hk
    have hd' : w.heap[d]? = some (.cells cs t (0, 0)) := hd
    rw [hk] at hd'
    injection hd' with hd'
    injection hd' with _ hd' _
    exact ht hd'.symm
  go_enter Tryd.func17, Tryd.ntmps17
  go_wp2_with (go_at_call 31; refine (copyCheck_more B b bs _ h).mono ?_)
  rintro e w1 ⟨rfl, h1, hb1, hk1⟩
  have HK1 := hide hk1
  obtain ⟨hB, v, hbk, hown, hne⟩ := h1
  have c0 : w1.cell? ⟨b, 0, none⟩ = some (.pointer (some ⟨b, 0, none⟩)) := by rw [Lib.cell_of_heap hbk]; rfl
  have c1 : w1.cell? ⟨b, 1, none⟩ = some v := by rw [Lib.cell_of_heap hbk]; rfl
  clear hk1
  go_wp2_with (at_builtin; refine Lib.wpList_append_own_string _ rfl _ _ 35 9 rfl B 5 i0 Tryd.underlying35 Tryd.underlying9 hi hz0 hz1 hz2 _ _ _ rfl hown s rfl ?c3 ?c4 ?c5 ?_)
  case c3 => unfold maxLen; omega
  case c4 => omega
  case c5 => have := hb1.size; omega
  intro v' w2 hown' hgrow _
  have hlt : b < w1.heap.size := by
    rcases Nat.lt_or_ge b w1.heap.size with h' | h'
    · exact h'
    · simp [Array.getElem?_eq_none h'] at hbk
  have hb2 : w2.heap[b]? = some (.cells #[.pointer (some ⟨b, 0, none⟩), v] 50 (0, 0)) := by
    rw [hgrow.block b hlt (fun e => hne e.symm)]
    exact hbk
  have d0 : w2.cell? ⟨b, 0, none⟩ = some (.pointer (some ⟨b, 0, none⟩)) := by rw [Lib.cell_of_heap hb2]; rfl
  have d1 : w2.cell? ⟨b, 1, none⟩ = some v := by rw [Lib.cell_of_heap hb2]; rfl
  have f1 : w2.frozen? ⟨b, 1, none⟩ = false := Lib.frozen_of_heap hb2 1
  obtain ⟨ao, n', cap, rfl⟩ : ∃ ao n' cap, v' = .slice ao n' cap := by
    rcases hown'.2 with ⟨hv, _⟩ | ⟨g, cap, cur, hv, _⟩
    · exact ⟨_, _, _, hv⟩
    · exact ⟨_, _, _, hv⟩
  have HKP : Hid (∀ x, BKeeps w (w2.setCell ⟨b, 1, none⟩ x)) := fun x d t cs hd h1 h2 => by
    have hdb := HBT.out d t cs hd h1
    have e1 : w1.heap[d]? = w.heap[d]? := HK1.out d hdb
    have hd' : w.heap[d]? = some (.cells cs t (0, 0)) := hd
    have hd1 : w1.heap[d]? = some (.cells cs t (0, 0)) := e1.trans hd'
    have hlt1 : d < w1.heap.size := by rw [Array.getElem?_eq_some_iff] at hd1; exact hd1.1
    have hnv : v.ownBlock ≠ some d := fun e => by
      obtain ⟨_, ⟨rfl, _⟩ | ⟨g, cap, cur, rfl, hg, hh, _⟩⟩ := hown
      · simp [Value.ownBlock] at e
      · simp [Value.ownBlock] at e
        subst e
        rw [hh] at hd1
        injection hd1 with hd1
        injection hd1 with _ hd1 _
        exact h2 hd1.symm
    rw [Deep.blk_setCell_other _ ⟨b, 1, none⟩ _ d hdb, hgrow.block d hlt1 (fun e => hnv e.symm), e1]
  go_wp2
  go_ret2
  refine ⟨rfl, ?_, ?_, HKP.out _⟩
  · exact .inr (Lib.BuilderAt.put (T := 50) (e := 5) hB hb2 (bs' := bs ++ Lib.strCells s) (by simpa [Lib.strCells_length] using hown') (by decide))
  · exact (hb1.grown hgrow (by have := hb1.size; omega) (fun k hk => (hown.lt k hk).1)).setCell (p := ⟨b, 1, none⟩) hB _
theorem BKeeps.fb {α : Type} {C : α → List Value} {c : Nat} {e : TypeId} {base : Nat} {w w' : World} {v : Value} {xs : List α} (hk : BKeeps w w') (h : FB C c e base w v xs) (h1 : e ≠ 50 := by decide) (h2 : e ≠ 5 := by decide) : FB C c e base w' v xs :=
  h.keep fun b hb => by
    have hb' : v.ownBlock = some b := Option.mem_toList.1 hb
    obtain ⟨_, ⟨rfl, _⟩ | ⟨g, cap, cur, rfl, hg, hs, _⟩⟩ := h
    · simp [Value.ownBlock] at hb'
    · simp [Value.ownBlock] at hb'
      subst hb'
      exact hk g e cur hs h1 h2
end Go.Proofs.YtpmnepalchgcbaaDoor.Msg
