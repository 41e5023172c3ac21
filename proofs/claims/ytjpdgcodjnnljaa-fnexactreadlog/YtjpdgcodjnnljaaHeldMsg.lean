import Derived.Test.YtjpdgcodjnnljaaMarkSeg
import Derived.Deep.RegionHeld3
namespace Go.Proofs.Ytjpdgcodjnnljaa.Msg
open Go.ChangeShapes Go.WideShapes Go.ChangeAt Go.RowKit
set_option linter.unusedVariables false
set_option linter.unusedSimpArgs false

theorem hold1 {w w' : World} {b o : Nat} {v : Value} (h : Below w.heap.size w w') (h1 : b < w.heap.size) (g1 : w.cell? ⟨b, o, none⟩ = some v) : w'.cell? ⟨b, o, none⟩ = some v ∧ Below w.heap.size w w' :=
  ⟨by rw [h.cell (p := ⟨b, o, none⟩) h1]; exact g1, h⟩

/-- the places of a marked list -/
theorem mkL_form {α : Type} {n : Nat} {R : Nat → World → Nat → Nat → α → Prop} {mk : Nat → α → α} {c : α → Nat} {d : α} {k lo : Nat} {w : World} {v : Value} {xs : List α} (h : At n R lo w v (mkL mk c d k xs)) :
    ∃ a cap, v = .slice a xs.length cap ∧ ∀ j (h : j < xs.length), ∃ b off, a = some ⟨b, off, none⟩ ∧ b < w.heap.size ∧ R lo w b (off + j * n) (mk (k + sumOf c (xs.take j)) xs[j]) := by
  obtain ⟨a, cap, rfl, hc⟩ := h.form
  refine ⟨a, cap, by rw [mkL_len], fun j hj => ?_⟩
  obtain ⟨b, off, e, _, hb, hr⟩ := hc j (by rw [mkL_len]; exact hj)
  rw [mkL_get mk c d k xs j hj] at hr
  exact ⟨b, off, e, hb, hr⟩

set_option maxHeartbeats 1000000 in
theorem heldStrs_any (xs : List ByteArray) (v : Value) (k : Nat) (w : World) (hk : 1 ≤ k) (hkb : k + cRep xs ≤ 4611686018427387904) {lo : Nat} (hv : StrsAt lo w v (mkRep k xs)) :
    Calls Try.prog 45 #[v, .int .i64 (k : Int)] w fun e w' => e = .returned (.int .i64 ((k + cRep xs : Nat) : Int)) ∧ Below w.heap.size w w' := by
  have hl : xs.length ≤ 9223372036854775807 := by have := hv.1; unfold mkRep at this; rw [mkL_len] at this; exact this
  have HCL := hide (cRep_len xs)
  rw [HCL.out] at hkb ⊢
  obtain ⟨a, cap, rfl, hc⟩ := mkL_form hv
  have HC : Hid (∀ j (h : j < xs.length), ∃ b off, a = some ⟨b, off, none⟩ ∧ b < w.heap.size ∧ w.cell? ⟨b, off + j, none⟩ = some (.string (markT (k + j)))) := fun j hj => by
    obtain ⟨b, off, e, hb, hr⟩ := hc j hj
    rw [one_take xs j (by omega)] at hr
    exact ⟨b, off, e, hb, by have h9 := hr.1; rw [Nat.mul_one] at h9; exact h9⟩
  clear hc hv
  go_enter Try.func45, Try.ntmps45
  go_wp2
  go_loopw [1, 5] (fun r i w1 => ∃ j : Nat, j ≤ xs.length ∧ i = .int .i64 j ∧ r = .int .i64 ((k : Int) + (j : Int)) ∧ Below w.heap.size w w1) (fun _ i _ => xs.length - (intOf i).toNat)
  case atStart => exact ⟨0, Nat.zero_le _, rfl, by simp, Below.refl _ _⟩
  case round =>
    obtain ⟨j, hj, rfl, rfl, hb⟩ := hrel
    by_cases hj2 : j < xs.length
    · obtain ⟨b, off, rfl, hbl, hcell⟩ := HC.out j hj2
      have h1 : wr.cell? ⟨b, off + j, none⟩ = some (.string (markT (k + j))) := by rw [hb.cell (p := ⟨b, off + j, none⟩) hbl]; exact hcell
      have hi : (j : Int) < (xs.length : Int) := by omega
      have hi0 : (0 : Int) ≤ (j : Int) := by omega
      have hd := hb.drew
      have ecast : ((k : Int) + (j : Int)) = ((k + j : Nat) : Int) := by omega
      have HEC := hide ecast
      clear ecast
      go_wp2
      go_region_held3 (fun w' => w'.cell? ⟨b, off + j, none⟩ = some (.string (markT (k + j))) ∧ Below w.heap.size w w')
        (first | exact hold1 hd hbl hcell | exact hold1 hb9 hbl hcell)
        ((go_at_call 67; rw [HEC.out]; refine (markText_any (k + j) _ (by omega) (by omega)).mono ?_; rintro e w2 ⟨rfl, hb2⟩; have hb9 : Below w.heap.size w w2 := bjoin hb2 (by assumption)))
      go_wp2
      go_roundw
      case rel => exact ⟨j + 1, by omega, by go_num, by go_num, hb9⟩
      case measure => simp [intOf]; omega
    · obtain rfl : j = xs.length := by omega
      go_wp2
      go_ret
      exact ⟨ret_int (by omega), hb⟩

set_option maxHeartbeats 1000000 in
theorem heldReps_any (xs : List Rep) (v : Value) (k : Nat) (w : World) (hk : 1 ≤ k) (hkb : k + cField xs ≤ 4611686018427387904) {lo : Nat} (hv : RepsAt lo w v (mkField k xs)) :
    Calls Try.prog 131 #[v, .int .i64 (k : Int)] w fun e w' => e = .returned (.int .i64 ((k + cField xs : Nat) : Int)) ∧ Below w.heap.size w w' := by
  have hl : xs.length ≤ 9223372036854775807 := by have := hv.1; unfold mkField at this; rw [mkL_len] at this; exact this
  have HCF : Hid (cField xs = sumOf cRep xs) := rfl
  obtain ⟨a, cap, rfl, hc⟩ := mkL_form hv
  have HC := hide hc
  clear hc hv
  go_enter Try.func131, Try.ntmps131
  go_wp2
  go_loopw [1, 5] (fun r i w1 => ∃ j : Nat, j ≤ xs.length ∧ i = .int .i64 j ∧ r = .int .i64 ((k + sumOf cRep (xs.take j) : Nat) : Int) ∧ Below w.heap.size w w1) (fun _ i _ => xs.length - (intOf i).toNat)
  case atStart => exact ⟨0, Nat.zero_le _, rfl, by simp [sumOf], Below.refl _ _⟩
  case round =>
    obtain ⟨j, hj, rfl, rfl, hb⟩ := hrel
    by_cases hj2 : j < xs.length
    · obtain ⟨b, off, rfl, hbl, ve, hcell, hel⟩ := HC.out j hj2
      have h1 : wr.cell? ⟨b, off + j, none⟩ = some ve := by rw [hb.cell (p := ⟨b, off + j, none⟩) hbl]; simpa using hcell
      have hel' := At.kept kept_str hel hb
      have hst := sum_take cRep xs j hj2
      have hsl := sum_le cRep xs (j + 1)
      have hcf := HCF.out
      have hroom : k + sumOf cRep (xs.take j) + cRep xs[j] ≤ 4611686018427387904 := by omega
      have HST := hide hst
      clear hcell hel hst hsl hcf
      go_wp2_with fail
      refine (heldStrs_any xs[j] ve (k + sumOf cRep (xs.take j)) _ (by omega) hroom hel').mono ?_
      rintro e w2 ⟨rfl, hb2⟩
      have hb9 : Below w.heap.size w w2 := bjoin hb2 hb
      have hpos : ¬ (((k + sumOf cRep (xs.take j) + cRep xs[j] : Nat) : Int)) < 0 := by omega
      clear hb2 h1 hel'
      go_wp2_with fail
      go_roundw
      case rel => exact ⟨j + 1, by omega, by go_num, by rw [HST.out]; go_num, hb9⟩
      case measure => simp [intOf]; omega
    · obtain rfl : j = xs.length := by omega
      go_wp2_with fail
      go_ret
      exact ⟨ret_int (by rw [HCF.out, List.take_length]), hb⟩

set_option maxHeartbeats 1000000 in
theorem heldFields_any (xs : List Field) (v : Value) (k : Nat) (w : World) (hk : 1 ≤ k) (hkb : k + cFields xs ≤ 4611686018427387904) {lo : Nat} (hv : FieldsAt lo w v (mkFields k xs)) :
    Calls Try.prog 115 #[v, .int .i64 (k : Int)] w fun e w' => e = .returned (.int .i64 ((k + cFields xs : Nat) : Int)) ∧ Below w.heap.size w w' := by
  have hl : xs.length ≤ 9223372036854775807 := by have := hv.1; unfold mkFields at this; rw [mkL_len] at this; exact this
  have HCF : Hid (cFields xs = sumOf cField xs) := rfl
  obtain ⟨a, cap, rfl, hc⟩ := mkL_form hv
  have HC := hide hc
  clear hc hv
  go_enter Try.func115, Try.ntmps115
  go_wp2
  go_loopw [1, 5] (fun r i w1 => ∃ j : Nat, j ≤ xs.length ∧ i = .int .i64 j ∧ r = .int .i64 ((k + sumOf cField (xs.take j) : Nat) : Int) ∧ Below w.heap.size w w1) (fun _ i _ => xs.length - (intOf i).toNat)
  case atStart => exact ⟨0, Nat.zero_le _, rfl, by simp [sumOf], Below.refl _ _⟩
  case round =>
    obtain ⟨j, hj, rfl, rfl, hb⟩ := hrel
    by_cases hj2 : j < xs.length
    · obtain ⟨b, off, rfl, hbl, ve, hcell, hel⟩ := HC.out j hj2
      have h1 : wr.cell? ⟨b, off + j, none⟩ = some ve := by rw [hb.cell (p := ⟨b, off + j, none⟩) hbl]; simpa using hcell
      have hel' := At.kept kept_rep hel hb
      have hst := sum_take cField xs j hj2
      have hsl := sum_le cField xs (j + 1)
      have hcf := HCF.out
      have hroom : k + sumOf cField (xs.take j) + cField xs[j] ≤ 4611686018427387904 := by omega
      have HST := hide hst
      clear hcell hel hst hsl hcf
      go_wp2_with fail
      refine (heldReps_any xs[j] ve (k + sumOf cField (xs.take j)) _ (by omega) hroom hel').mono ?_
      rintro e w2 ⟨rfl, hb2⟩
      have hb9 : Below w.heap.size w w2 := bjoin hb2 hb
      have hpos : ¬ (((k + sumOf cField (xs.take j) + cField xs[j] : Nat) : Int)) < 0 := by omega
      clear hb2 h1 hel'
      go_wp2_with fail
      go_roundw
      case rel => exact ⟨j + 1, by omega, by go_num, by rw [HST.out]; go_num, hb9⟩
      case measure => simp [intOf]; omega
    · obtain rfl : j = xs.length := by omega
      go_wp2_with fail
      go_ret
      exact ⟨ret_int (by rw [HCF.out, List.take_length]), hb⟩

set_option maxHeartbeats 1000000 in
theorem heldSegs_any (xs : List Seg) (v : Value) (k : Nat) (w : World) (hk : 1 ≤ k) (hkb : k + cMsg xs ≤ 4611686018427387904) {lo : Nat} (hv : SegsAt lo w v (mkMsg k xs)) :
    Calls Try.prog 86 #[v, .int .i64 (k : Int)] w fun e w' => e = .returned (.int .i64 ((k + cMsg xs : Nat) : Int)) ∧ Below w.heap.size w w' := by
  have hl : xs.length ≤ 9223372036854775807 := by have := hv.1; unfold mkMsg at this; rw [mkL_len] at this; exact this
  have HCF : Hid (cMsg xs = sumOf cSeg xs) := rfl
  obtain ⟨a, cap, rfl, hc⟩ := mkL_form hv
  have HC := hide hc
  clear hc hv
  go_enter Try.func86, Try.ntmps86
  go_wp2
  go_loopw [1, 5] (fun r i w1 => ∃ j : Nat, j ≤ xs.length ∧ i = .int .i64 j ∧ r = .int .i64 ((k + sumOf cSeg (xs.take j) : Nat) : Int) ∧ Below w.heap.size w w1) (fun _ i _ => xs.length - (intOf i).toNat)
  case atStart => exact ⟨0, Nat.zero_le _, rfl, by simp [sumOf], Below.refl _ _⟩
  case round =>
    obtain ⟨j, hj, rfl, rfl, hb⟩ := hrel
    by_cases hj2 : j < xs.length
    · obtain ⟨b, off, rfl, hbl, hc0, _, ve, hc1, hel⟩ := HC.out j hj2
      have hst := sum_take cSeg xs j hj2
      have hsl := sum_le cSeg xs (j + 1)
      have hcf := HCF.out
      have hcs : cSeg xs[j] = 1 + cFields xs[j].fields := rfl
      have hroom : k + sumOf cSeg (xs.take j) + 1 + cFields xs[j].fields ≤ 4611686018427387904 := by omega
      have HST : Hid (k + sumOf cSeg (xs.take (j + 1)) = k + sumOf cSeg (xs.take j) + 1 + cFields xs[j].fields) := by rw [hst, hcs]; show _ = _; omega
      have hc0' : w.cell? ⟨b, off + j * 2, none⟩ = some (.string (markT (k + sumOf cSeg (xs.take j)))) := hc0
      have hel0 : FieldsAt lo w ve (mkFields (k + sumOf cSeg (xs.take j) + 1) xs[j].fields) := hel
      clear hst hsl hcf hcs hc0 hel
      generalize hK : k + sumOf cSeg (xs.take j) = K at *
      have hK1 : 1 ≤ K := by omega
      clear hK
      have h1 : wr.cell? ⟨b, off + j * 2, none⟩ = some (.string (markT K)) := by rw [hb.cell (p := ⟨b, off + j * 2, none⟩) hbl]; exact hc0'
      have hi : (j : Int) < (xs.length : Int) := by omega
      have hi0 : (0 : Int) ≤ (j : Int) := by omega
      have hd := hb.drew
      go_wp2
      go_region_held3 (fun w' => w'.cell? ⟨b, off + j * 2, none⟩ = some (.string (markT K)) ∧ Below w.heap.size w w')
        (first | exact hold1 hd hbl hc0' | exact hold1 hb9 hbl hc0')
        ((go_at_call 67; refine (markText_any K _ hK1 (by omega)).mono ?_; rintro e w2 ⟨rfl, hb2⟩; have hb9 : Below w.heap.size w w2 := bjoin hb2 (by assumption)))
      have h2 : w2.cell? ⟨b, off + j * 2 + 1, none⟩ = some ve := by rw [hb9.cell (p := ⟨b, off + j * 2 + 1, none⟩) hbl]; exact hc1
      have hel' := At.kept kept_field hel0 hb9
      go_wp2_with fail
      have ecast : ((K : Int) + 1) = ((K + 1 : Nat) : Int) := by omega
      rw [ecast]
      refine (heldFields_any xs[j].fields ve (K + 1) _ (by omega) (by omega) hel').mono ?_
      rintro e w3 ⟨rfl, hb3⟩
      have hb10 : Below w.heap.size w w3 := bjoin hb3 hb9
      have hpos : ¬ (((K + 1 + cFields xs[j].fields : Nat) : Int)) < 0 := by omega
      clear hb3 h2 hel' ecast
      go_wp2_with fail
      go_roundw
      case rel => exact ⟨j + 1, by omega, by go_num, by rw [HST.out]; go_num, hb10⟩
      case measure => simp [intOf]; omega
    · obtain rfl : j = xs.length := by omega
      go_wp2_with fail
      go_ret
      exact ⟨ret_int (by rw [HCF.out, List.take_length]), hb⟩

set_option maxHeartbeats 400000 in
theorem heldMsg_any (xs : List Seg) (v : Value) (k : Nat) (w : World) (hk : 1 ≤ k) (hkb : k + cMsg xs ≤ 4611686018427387904) {lo : Nat} (hv : SegsAt lo w v (mkMsg k xs)) :
    Calls Try.prog 40 #[.agg #[v], .int .i64 (k : Int)] w fun e w' => e = .returned (.int .i64 ((k + cMsg xs : Nat) : Int)) ∧ Below w.heap.size w w' := by
  have hb := (Below.refl w.heap.size w).alloc (Nat.le_refl _) (Obj.cells #[v] 55)
  have hv1 := At.kept kept_seg hv hb
  have hpos : ¬ (((k + cMsg xs : Nat) : Int)) < 0 := by omega
  go_enter Try.func40, Try.ntmps40
  go_wp2_with fail
  refine (heldSegs_any xs v k _ hk hkb hv1).mono ?_
  rintro e w' ⟨rfl, hb2⟩
  go_wp2_with fail
  go_ret
  exact ⟨rfl, bjoin hb2 hb⟩
end Go.Proofs.Ytjpdgcodjnnljaa.Msg
