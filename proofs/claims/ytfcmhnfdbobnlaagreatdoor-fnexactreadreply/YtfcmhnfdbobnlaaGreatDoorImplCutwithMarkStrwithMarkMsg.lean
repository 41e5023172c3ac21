import Derived.Test.YtfcmhnfdbobnlaaGreatDoorMarkDatawithParseCompswithImplSplit
import Derived.Test.YtfcmhnfdbobnlaaGreatDoorShelf
import Derived.Test.YtfcmhnfdbobnlaaGreatDoorMsgEqwithMsgEq2withMsgTo
namespace Go.Proofs.YtfcmhnfdbobnlaaGreatDoor.Msg
open Go.ChangeShapes Go.WideShapes Go.ChangeAt Go.RowKit
set_option linter.unusedVariables false
set_option linter.unusedSimpArgs false

/-- the library's variable that strings.Index reads holds some number -/
def Mx (w : World) : Prop := ∃ m, w.cell? ⟨5, 0, none⟩ = some (.int .i64 m)
theorem Mx.pos {w : World} (h : Mx w) : 5 < w.heap.size := by
  obtain ⟨m, h⟩ := h
  by_cases h0 : 5 < w.heap.size
  · exact h0
  · simp [World.cell?, Array.getElem?_eq_none (show w.heap.size ≤ 5 by omega)] at h
theorem Mx.below {w w' : World} (h : Mx w) {B : Nat} (hB : 5 < B) (hb : Below B w w') : Mx w' := by
  have hp := h.pos
  obtain ⟨m, h⟩ := h
  exact ⟨m, by rw [hb.cell (p := ⟨5, 0, none⟩) hB]; exact h⟩
theorem Mx.kept {w w' : World} (h : Mx w) (hb : Below w.heap.size w w') : Mx w' := h.below h.pos hb

theorem mark_text (c : UInt8) (w : World) : Sem.run Tryz.prog (convert 71 9 (.slice (some ⟨w.heap.size, 0, none⟩) 1 1)) (w.alloc (.cells #[.int .u8 (c.toNat : Int)] 5)) = .ok (.string ⟨#[c]⟩) (w.alloc (.cells #[.int .u8 (c.toNat : Int)] 5)) := by
  have h := run_convert_bytes_arg (w.alloc (.cells #[.int .u8 (c.toNat : Int)] 5)) 71 5 Tryz.underlying71 Tryz.underlying5 w.heap.size 0 1 1 [(c.toNat : Int)] rfl (by
    intro i hi
    have : i = 0 := by omega
    subst this
    simp) 9 Tryz.underlying9
  have e : strOfNums [(c.toNat : Int)] = (⟨#[c]⟩ : ByteArray) := by unfold strOfNums; simp
  rw [h, e]

end Go.Proofs.YtfcmhnfdbobnlaaGreatDoor.Msg

namespace Go.Proofs.YtfcmhnfdbobnlaaGreatDoor.Msg
open Go.ChangeShapes Go.WideShapes Go.ChangeAt Go.RowKit
set_option linter.unusedVariables false
set_option linter.unusedSimpArgs false

/-- the row of strings, the first j of them marked -/
def RowM (w : World) (b off k : Nat) (xs : List ByteArray) (j : Nat) : Prop :=
  ∀ i (h : i < xs.length), w.cell? ⟨b, off + i, none⟩ = some (.string (if i < j then markT (k + i) else xs[i])) ∧ w.frozen? ⟨b, off + i, none⟩ = false
theorem RowM.step {w w2 : World} {b off k : Nat} {xs : List ByteArray} {j : Nat} (h : RowM w b off k xs j) (hb : w2.heap[b]? = w.heap[b]?) (hj : j < xs.length) : RowM (w2.setCell ⟨b, off + j, none⟩ (.string (markT (k + j)))) b off k xs (j + 1) := by
  intro i hi
  obtain ⟨h1, h2⟩ := h i hi
  refine ⟨?_, ?_⟩
  · by_cases e : i = j
    · subst e
      rw [if_pos (by omega)]
      obtain ⟨v, hv⟩ : ∃ v, w2.cell? ⟨b, off + i, none⟩ = some v := ⟨_, by rw [cellSame hb]; exact h1⟩
      rw [World.cell?_setCell_same _ _ _ hv]
    · rw [World.cell?_setCell_other _ _ _ _ (by intro h; injection h with _ h2 _; omega), cellSame hb, h1]
      by_cases e2 : i < j
      · rw [if_pos e2, if_pos (by omega)]
      · rw [if_neg e2, if_neg (by omega)]
  · rw [World.frozen?_setCell, frozenSame hb]
    exact h2

theorem Only.setCell {bs : List Nat} {w w1 : World} (h : Only bs w w1) {b o : Nat} (hb : b ∈ bs) (v : Value) : Only bs w (w1.setCell ⟨b, o, none⟩ v) :=
  ⟨h.os, h.tape, h.output, by rw [Deep.nblk_setCell]; exact h.size, fun k h1 h2 => by rw [Deep.blk_setCell_other _ _ _ _ (fun e => h2 (by rw [e]; exact hb))]; exact h.block k h1 h2⟩

theorem flat_nil {bss : List (List Nat)} (h : ∀ i (h : i < bss.length), bss[i] = []) : bss.flatten = [] := by
  rw [List.flatten_eq_nil_iff]
  intro l hl
  obtain ⟨i, hi, rfl⟩ := List.getElem_of_mem hl
  exact h i hi

set_option maxHeartbeats 1000000 in
theorem markStrs_any (xs : List ByteArray) (v : Value) (bs : List Nat) (k : Nat) (w : World) (hk : 1 ≤ k) (hkb : k + cRep xs ≤ 4611686018427387904) (hv : OStrs w v xs bs) :
    Calls Tryz.prog 25 #[v, .int .i64 (k : Int)] w fun e w' => e = .returned (.int .i64 ((k + cRep xs : Nat) : Int)) ∧ Only bs w w' ∧ OStrs w' v (mkRep k xs) bs := by
  have HCL := hide (cRep_len xs)
  rw [HCL.out] at hkb ⊢
  obtain ⟨hl, hv⟩ := hv
  rcases hv with ⟨a0, c0, rfl, rfl, rfl⟩ | ⟨b, off, cap, bss, rfl, hlt, rfl, hlen, hc⟩
  · go_enter Tryz.func25, Tryz.ntmps25
    go_wp2
    go_loop [1, 5] (fun r i => r = .int .i64 (k : Int) ∧ i = .int .i64 0) (fun _ _ => 0)
    case atStart => exact ⟨rfl, rfl⟩
    case round =>
      obtain ⟨rfl, rfl⟩ := hrel
      go_wp2
      go_ret
      exact ⟨ret_int (by simp), Only.refl _ _, ⟨by simp [mkRep, mkL], .inl ⟨_, _, rfl, rfl, rfl⟩⟩⟩
  · have hfl : bss.flatten = [] := flat_nil fun i hi => (hc i (by omega) hi).2.2.2
    have hrow0 : RowM w b off k xs 0 := fun i hi => ⟨by rw [if_neg (by omega)]; simpa using (hc i hi (by omega)).1, by simpa using (hc i hi (by omega)).2.1⟩
    have HE : Hid (∀ i (h : i < bss.length), bss[i] = []) := fun i hi => (hc i (by omega) hi).2.2.2
    clear hc
    go_enter Tryz.func25, Tryz.ntmps25
    go_wp2
    go_loopw [1, 5] (fun r i w1 => ∃ j : Nat, j ≤ xs.length ∧ i = .int .i64 j ∧ r = .int .i64 ((k : Int) + (j : Int)) ∧ RowM w1 b off k xs j ∧ Only (b :: bss.flatten) w w1) (fun _ i _ => xs.length - (intOf i).toNat)
    case atStart => exact ⟨0, Nat.zero_le _, rfl, by simp, hrow0, Only.refl _ _⟩
    case round =>
      obtain ⟨j, hj, rfl, rfl, hrow, ho⟩ := hrel
      by_cases hj2 : j < xs.length
      · have hbl : b < wr.heap.size := Nat.lt_of_lt_of_le hlt ho.size
        obtain ⟨hcell, hfz⟩ := hrow j hj2
        have HR := hide hrow
        have HO := hide ho
        clear hrow ho
        have ecast : ((k : Int) + (j : Int)) = ((k + j : Nat) : Int) := by omega
        have HEC := hide ecast
        clear ecast
        go_wp2_with fail
        rw [HEC.out]
        refine (markText_any (k + j) _ (by omega) (by omega)).mono ?_
        rintro e w2 ⟨rfl, hb2⟩
        have hcell2 : w2.cell? ⟨b, off + j, none⟩ = some (.string (if j < j then markT (k + j) else xs[j])) := by rw [hb2.cell (p := ⟨b, off + j, none⟩) hbl]; exact hcell
        have hfz2 : w2.frozen? ⟨b, off + j, none⟩ = false := by rw [hb2.frozen (p := ⟨b, off + j, none⟩) hbl]; exact hfz
        have HN := hide (HR.out.step (hb2.block b hbl) hj2)
        have HN2 := hide ((HO.out.trans (Only.of_below hb2)).setCell (b := b) (o := off + j) (by simp) (.string (markT (k + j))))
        clear hcell hfz hb2
        rw [← HEC.out]
        go_wp2_with fail
        go_roundw
        case rel => exact ⟨j + 1, by omega, by go_num, by go_num, HN.out, HN2.out⟩
        case measure => simp [intOf]; omega
      · obtain rfl : j = xs.length := by omega
        go_wp2_with fail
        go_ret
        refine ⟨ret_int (by omega), ho, ⟨by unfold mkRep; rw [mkL_len]; exact hl, .inr ⟨b, off, cap, bss, by unfold mkRep; rw [mkL_len], Nat.lt_of_lt_of_le hlt ho.size, rfl, by unfold mkRep; rw [mkL_len]; exact hlen, fun i hi h2 => ?_⟩⟩⟩
        have hi' : i < xs.length := by unfold mkRep at hi; rw [mkL_len] at hi; exact hi
        obtain ⟨h1, h3⟩ := hrow i hi'
        rw [if_pos hi'] at h1
        have e1 : (mkRep k xs)[i] = markT (k + i) := (mkL_get mkStr oneC ⟨#[]⟩ k xs i hi' hi).trans (by rw [one_take xs i (by omega)]; rfl)
        rw [e1]
        exact ⟨by simpa using h1, by simpa using h3, by have := markT_size (k + i) (by omega); omega, HE.out i h2⟩
end Go.Proofs.YtfcmhnfdbobnlaaGreatDoor.Msg

namespace Go.Proofs.YtfcmhnfdbobnlaaGreatDoor.Msg
open Go.ChangeShapes Go.WideShapes Go.ChangeAt Go.RowKit
set_option linter.unusedVariables false
set_option linter.unusedSimpArgs false

theorem disj_of {bss : List (List Nat)} (h : bss.flatten.Nodup) {i j : Nat} (hi : i < bss.length) (hj : j < bss.length) (hij : i ≠ j) {c : Nat} (hc : c ∈ bss[i]) : c ∉ bss[j] := by
  intro hd
  rw [List.Nodup, List.pairwise_flatten] at h
  have hp := List.pairwise_iff_getElem.1 h.2
  rcases Nat.lt_or_gt_of_ne hij with hlt | hlt
  · exact hp i j hi hj hlt c hc c hd rfl
  · exact hp j i hj hi hlt c hd c hc rfl

/-- the first j elements of a row of lists are marked -/
def Mix {α : Type} (O : World → Value → α → List Nat → Prop) (mk : Nat → α → α) (c : α → Nat) (k : Nat) (w : World) (b off : Nat) (xs : List α) (bss : List (List Nat)) (j : Nat) : Prop :=
  ∀ i (h : i < xs.length) (h2 : i < bss.length), ∃ v, w.cell? ⟨b, off + i, none⟩ = some v ∧ O w v (if i < j then mk (k + sumOf c (xs.take i)) xs[i] else xs[i]) bss[i]

theorem Mix.step {α : Type} {O : World → Value → α → List Nat → Prop} {mk : Nat → α → α} {c : α → Nat} {k : Nat} {w w2 : World} {b off : Nat} {xs : List α} {bss : List (List Nat)} {j : Nat}
    (hkeep : ∀ w w' v x bs, O w v x bs → w.heap.size ≤ w'.heap.size → (∀ d ∈ bs, w'.heap[d]? = w.heap[d]?) → O w' v x bs) (hlt : ∀ w v x bs, O w v x bs → ∀ d ∈ bs, d < w.heap.size)
    (h : Mix O mk c k w b off xs bss j) (hb : b < w.heap.size) (hn : (b :: bss.flatten).Nodup) (hj : j < xs.length) (hj2 : j < bss.length) {v : Value} (hv : w.cell? ⟨b, off + j, none⟩ = some v)
    (ho : Only bss[j] w w2) (hO : O w2 v (mk (k + sumOf c (xs.take j)) xs[j]) bss[j]) : Mix O mk c k w2 b off xs bss (j + 1) := by
  rw [List.nodup_cons] at hn
  have hbj : b ∉ bss[j] := fun hm => hn.1 (by rw [List.mem_flatten]; exact ⟨_, List.getElem_mem hj2, hm⟩)
  have hrow := ho.block b hb hbj
  intro i hi h2
  by_cases e : i = j
  · subst e
    exact ⟨v, by rw [cellSame hrow]; exact hv, by rw [if_pos (by omega)]; exact hO⟩
  · obtain ⟨vi, g1, g2⟩ := h i hi h2
    refine ⟨vi, by rw [cellSame hrow]; exact g1, ?_⟩
    have g3 := hkeep _ w2 _ _ _ g2 ho.size fun d hd => ho.block d (hlt _ _ _ _ g2 d hd) (disj_of hn.2 h2 hj2 e hd)
    by_cases e2 : i < j
    · rw [if_pos e2] at g3; rw [if_pos (by omega)]; exact g3
    · rw [if_neg e2] at g3; rw [if_neg (by omega)]; exact g3

theorem sub_flat {bss : List (List Nat)} {j : Nat} (hj : j < bss.length) (b : Nat) : ∀ c ∈ bss[j], c ∈ b :: bss.flatten := fun c hc => by
  simp only [List.mem_cons, List.mem_flatten]
  exact .inr ⟨bss[j], List.getElem_mem hj, hc⟩

theorem nodup_at {bss : List (List Nat)} {b j : Nat} (h : (b :: bss.flatten).Nodup) (hj : j < bss.length) : bss[j].Nodup := by
  rw [List.nodup_cons, List.Nodup, List.pairwise_flatten] at h
  exact h.2.1 _ (List.getElem_mem hj)

set_option maxHeartbeats 1000000 in
theorem markReps_any (xs : List Rep) (v : Value) (bs : List Nat) (k : Nat) (w : World) (hk : 1 ≤ k) (hkb : k + cField xs ≤ 4611686018427387904) (hnd : bs.Nodup) (hv : OReps w v xs bs) :
    Calls Tryz.prog 65 #[v, .int .i64 (k : Int)] w fun e w' => e = .returned (.int .i64 ((k + cField xs : Nat) : Int)) ∧ Only bs w w' ∧ OReps w' v (mkField k xs) bs := by
  obtain ⟨hl, hv⟩ := hv
  rcases hv with ⟨a0, c0, rfl, rfl, rfl⟩ | ⟨b, off, cap, bss, rfl, hlt, rfl, hlen, hc⟩
  · go_enter Tryz.func65, Tryz.ntmps65
    go_wp2
    go_loop [1, 5] (fun r i => r = .int .i64 (k : Int) ∧ i = .int .i64 0) (fun _ _ => 0)
    case atStart => exact ⟨rfl, rfl⟩
    case round =>
      obtain ⟨rfl, rfl⟩ := hrel
      go_wp2
      go_ret
      exact ⟨ret_int (by simp [cField, sumOf]), Only.refl _ _, ⟨by simp [mkField, mkL], .inl ⟨_, _, rfl, rfl, rfl⟩⟩⟩
  · have hmix0 : Mix OStrs mkRep cRep k w b off xs bss 0 := fun i hi h2 => by
      obtain ⟨ve, g1, g2⟩ := hc i hi h2
      exact ⟨ve, by simpa using g1, by rw [if_neg (by omega)]; exact g2⟩
    have HCF : Hid (cField xs = sumOf cRep xs) := rfl
    clear hc
    go_enter Tryz.func65, Tryz.ntmps65
    go_wp2
    go_loopw [1, 5] (fun r i w1 => ∃ j : Nat, j ≤ xs.length ∧ i = .int .i64 j ∧ r = .int .i64 ((k + sumOf cRep (xs.take j) : Nat) : Int) ∧ Mix OStrs mkRep cRep k w1 b off xs bss j ∧ Only (b :: bss.flatten) w w1) (fun _ i _ => xs.length - (intOf i).toNat)
    case atStart => exact ⟨0, Nat.zero_le _, rfl, by simp [sumOf], hmix0, Only.refl _ _⟩
    case round =>
      clear hmix0
      obtain ⟨j, hj, rfl, rfl, hmix, ho⟩ := hrel
      by_cases hj2 : j < xs.length
      · have hbl : b < wr.heap.size := Nat.lt_of_lt_of_le hlt ho.size
        have hjb : j < bss.length := by omega
        obtain ⟨ve, hcell, hO⟩ := hmix j hj2 hjb
        rw [if_neg (by omega)] at hO
        have HM := hide hmix
        have HO := hide ho
        have HOO := hide hO
        have hst := sum_take cRep xs j hj2
        have hsl := sum_le cRep xs (j + 1)
        have hcf := HCF.out
        have hroom : k + sumOf cRep (xs.take j) + cRep xs[j] ≤ 4611686018427387904 := by omega
        have HST := hide hst
        clear hmix ho hO hst hsl hcf
        go_wp2_with fail
        refine (markStrs_any xs[j] ve bss[j] (k + sumOf cRep (xs.take j)) _ (by omega) hroom HOO.out).mono ?_
        rintro e w2 ⟨rfl, ho2, hO2⟩
        have HN := hide (Mix.step (O := OStrs) (fun _ _ _ _ _ h s d => OAt.kept keptO_str h s d) (fun _ _ _ _ h => OAt.lt ltO_str h) HM.out hbl hnd hj2 hjb hcell ho2 hO2)
        have HN2 := hide (HO.out.trans (ho2.mono (sub_flat hjb b)))
        clear ho2 hO2 hcell
        go_wp2_with fail
        go_roundw
        case rel => exact ⟨j + 1, by omega, by go_num, by rw [HST.out]; go_num, HN.out, HN2.out⟩
        case measure => simp [intOf]; omega
      · obtain rfl : j = xs.length := by omega
        go_wp2_with fail
        go_ret
        refine ⟨ret_int (by rw [HCF.out, List.take_length]), ho, ⟨by unfold mkField; rw [mkL_len]; exact hl, .inr ⟨b, off, cap, bss, by unfold mkField; rw [mkL_len], Nat.lt_of_lt_of_le hlt ho.size, rfl, by unfold mkField; rw [mkL_len]; exact hlen, fun i hi h2 => ?_⟩⟩⟩
        have hi' : i < xs.length := by unfold mkField at hi; rw [mkL_len] at hi; exact hi
        obtain ⟨vi, h1, h3⟩ := hmix i hi' h2
        rw [if_pos hi'] at h3
        have e1 : (mkField k xs)[i] = mkRep (k + sumOf cRep (xs.take i)) xs[i] := mkL_get mkRep cRep [] k xs i hi' hi
        rw [e1]
        exact ⟨vi, by simpa using h1, h3⟩
set_option maxHeartbeats 1000000 in
theorem markFields_any (xs : List Field) (v : Value) (bs : List Nat) (k : Nat) (w : World) (hk : 1 ≤ k) (hkb : k + cFields xs ≤ 4611686018427387904) (hnd : bs.Nodup) (hv : OFields w v xs bs) :
    Calls Tryz.prog 44 #[v, .int .i64 (k : Int)] w fun e w' => e = .returned (.int .i64 ((k + cFields xs : Nat) : Int)) ∧ Only bs w w' ∧ OFields w' v (mkFields k xs) bs := by
  obtain ⟨hl, hv⟩ := hv
  rcases hv with ⟨a0, c0, rfl, rfl, rfl⟩ | ⟨b, off, cap, bss, rfl, hlt, rfl, hlen, hc⟩
  · go_enter Tryz.func44, Tryz.ntmps44
    go_wp2
    go_loop [1, 5] (fun r i => r = .int .i64 (k : Int) ∧ i = .int .i64 0) (fun _ _ => 0)
    case atStart => exact ⟨rfl, rfl⟩
    case round =>
      obtain ⟨rfl, rfl⟩ := hrel
      go_wp2
      go_ret
      exact ⟨ret_int (by simp [cFields, sumOf]), Only.refl _ _, ⟨by simp [mkFields, mkL], .inl ⟨_, _, rfl, rfl, rfl⟩⟩⟩
  · have hmix0 : Mix OReps mkField cField k w b off xs bss 0 := fun i hi h2 => by
      obtain ⟨ve, g1, g2⟩ := hc i hi h2
      exact ⟨ve, by simpa using g1, by rw [if_neg (by omega)]; exact g2⟩
    have HCF : Hid (cFields xs = sumOf cField xs) := rfl
    clear hc
    go_enter Tryz.func44, Tryz.ntmps44
    go_wp2
    go_loopw [1, 5] (fun r i w1 => ∃ j : Nat, j ≤ xs.length ∧ i = .int .i64 j ∧ r = .int .i64 ((k + sumOf cField (xs.take j) : Nat) : Int) ∧ Mix OReps mkField cField k w1 b off xs bss j ∧ Only (b :: bss.flatten) w w1) (fun _ i _ => xs.length - (intOf i).toNat)
    case atStart => exact ⟨0, Nat.zero_le _, rfl, by simp [sumOf], hmix0, Only.refl _ _⟩
    case round =>
      clear hmix0
      obtain ⟨j, hj, rfl, rfl, hmix, ho⟩ := hrel
      by_cases hj2 : j < xs.length
      · have hbl : b < wr.heap.size := Nat.lt_of_lt_of_le hlt ho.size
        have hjb : j < bss.length := by omega
        obtain ⟨ve, hcell, hO⟩ := hmix j hj2 hjb
        rw [if_neg (by omega)] at hO
        have HM := hide hmix
        have HO := hide ho
        have HOO := hide hO
        have hst := sum_take cField xs j hj2
        have hsl := sum_le cField xs (j + 1)
        have hcf := HCF.out
        have hroom : k + sumOf cField (xs.take j) + cField xs[j] ≤ 4611686018427387904 := by omega
        have HST := hide hst
        clear hmix ho hO hst hsl hcf
        go_wp2_with fail
        refine (markReps_any xs[j] ve bss[j] (k + sumOf cField (xs.take j)) _ (by omega) hroom (nodup_at hnd hjb) HOO.out).mono ?_
        rintro e w2 ⟨rfl, ho2, hO2⟩
        have HN := hide (Mix.step (O := OReps) (fun _ _ _ _ _ h s d => OAt.kept keptO_rep h s d) (fun _ _ _ _ h => OAt.lt ltO_rep h) HM.out hbl hnd hj2 hjb hcell ho2 hO2)
        have HN2 := hide (HO.out.trans (ho2.mono (sub_flat hjb b)))
        clear ho2 hO2 hcell
        go_wp2_with fail
        go_roundw
        case rel => exact ⟨j + 1, by omega, by go_num, by rw [HST.out]; go_num, HN.out, HN2.out⟩
        case measure => simp [intOf]; omega
      · obtain rfl : j = xs.length := by omega
        go_wp2_with fail
        go_ret
        refine ⟨ret_int (by rw [HCF.out, List.take_length]), ho, ⟨by unfold mkFields; rw [mkL_len]; exact hl, .inr ⟨b, off, cap, bss, by unfold mkFields; rw [mkL_len], Nat.lt_of_lt_of_le hlt ho.size, rfl, by unfold mkFields; rw [mkL_len]; exact hlen, fun i hi h2 => ?_⟩⟩⟩
        have hi' : i < xs.length := by unfold mkFields at hi; rw [mkL_len] at hi; exact hi
        obtain ⟨vi, h1, h3⟩ := hmix i hi' h2
        rw [if_pos hi'] at h3
        have e1 : (mkFields k xs)[i] = mkField (k + sumOf cField (xs.take i)) xs[i] := mkL_get mkField cField [] k xs i hi' hi
        rw [e1]
        exact ⟨vi, by simpa using h1, h3⟩
end Go.Proofs.YtfcmhnfdbobnlaaGreatDoor.Msg
