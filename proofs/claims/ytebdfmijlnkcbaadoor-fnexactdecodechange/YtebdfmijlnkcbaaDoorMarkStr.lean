import Derived.Test.YtebdfmijlnkcbaaDoorMarkData
import Derived.Test.YtebdfmijlnkcbaaDoorMsgTo
namespace Go.Proofs.YtebdfmijlnkcbaaDoor.Msg
open Go.ChangeShapes Go.WideShapes Go.ChangeAt Go.RowKit
set_option linter.unusedVariables false
set_option linter.unusedSimpArgs false

/-- the row of strings, the first j of them marked -/
def RowM (w : World) (b off k : Nat) (xs : List ByteArray) (j : Nat) : Prop :=
  ∀ i (h : i < xs.length), w.cell? ⟨b, off + i, none⟩ = some (.string (if i < j then markT (k + i) else xs[i])) ∧ w.frozen? ⟨b, off + i, none⟩ = false
theorem RowM.step {w w2 : World} {b off k : Nat} {xs : List ByteArray} {j : Nat} (h : RowM w b off k xs j) (hb : w2.heap[b]? = w.heap[b]?) (hj : j < xs.length) : RowM (w2.setCell ⟨b, off + j, none⟩ (.string (markT (k + j)))) b off k xs (j + 1) := by
  intro i hi
  obtain ⟨h1, h2⟩ := h i hi
  refine ⟨?_, ?_⟩
  · by_cases e : i = j
    · subst e
      rw [if_pos (by omega)]
      obtain ⟨v, hv⟩ : ∃ v, w2.cell? ⟨b, off + i, none⟩ = some v := ⟨_, by rw [cellSame hb]; exact h1⟩
      rw [World.cell?_setCell_same _ _ _ hv]
    · rw [World.cell?_setCell_other _ _ _ _ (by intro h; injection h with _ h2 _; omega), cellSame hb, h1]
      by_cases e2 : i < j
      · rw [if_pos e2, if_pos (by omega)]
      · rw [if_neg e2, if_neg (by omega)]
  · rw [World.frozen?_setCell, frozenSame hb]
    exact h2

theorem Only.setCell {bs : List Nat} {w w1 : World} (h : Only bs w w1) {b o : Nat} (hb : b ∈ bs) (v : Value) : Only bs w (w1.setCell ⟨b, o, none⟩ v) :=
  ⟨h.os, h.tape, h.output, by rw [Deep.nblk_setCell]; exact h.size, fun k h1 h2 => by rw [Deep.blk_setCell_other _ _ _ _ (fun e => h2 (by rw [e]; exact hb))]; exact h.block k h1 h2⟩

theorem flat_nil {bss : List (List Nat)} (h : ∀ i (h : i < bss.length), bss[i] = []) : bss.flatten = [] := by
  rw [List.flatten_eq_nil_iff]
  intro l hl
  obtain ⟨i, hi, rfl⟩ := List.getElem_of_mem hl
  exact h i hi

set_option maxHeartbeats 1000000 in
theorem markStrs_any (xs : List ByteArray) (v : Value) (bs : List Nat) (k : Nat) (w : World) (hk : 1 ≤ k) (hkb : k + cRep xs ≤ 4611686018427387904) (hv : OStrs w v xs bs) :
    Calls Tryd.prog 16 #[v, .int .i64 (k : Int)] w fun e w' => e = .returned (.int .i64 ((k + cRep xs : Nat) : Int)) ∧ Only bs w w' ∧ OStrs w' v (mkRep k xs) bs := by
  have HCL := hide (cRep_len xs)
  rw [HCL.out] at hkb ⊢
  obtain ⟨hl, hv⟩ := hv
  rcases hv with ⟨a0, c0, rfl, rfl, rfl⟩ | ⟨b, off, cap, bss, rfl, hlt, rfl, hlen, hc⟩
  · go_enter Tryd.func16, Tryd.ntmps16
    go_wp2
    go_loop [1, 5] (fun r i => r = .int .i64 (k : Int) ∧ i = .int .i64 0) (fun _ _ => 0)
    case atStart => exact ⟨rfl, rfl⟩
    case round =>
      obtain ⟨rfl, rfl⟩ := hrel
      go_wp2
      go_ret
      exact ⟨ret_int (by simp), Only.refl _ _, ⟨by simp [mkRep, mkL], .inl ⟨_, _, rfl, rfl, rfl⟩⟩⟩
  · have hfl : bss.flatten = [] := flat_nil fun i hi => (hc i (by omega) hi).2.2.2
    have hrow0 : RowM w b off k xs 0 := fun i hi => ⟨by rw [if_neg (by omega)]; simpa using (hc i hi (by omega)).1, by simpa using (hc i hi (by omega)).2.1⟩
    have HE : Hid (∀ i (h : i < bss.length), bss[i] = []) := fun i hi => (hc i (by omega) hi).2.2.2
    clear hc
    go_enter Tryd.func16, Tryd.ntmps16
    go_wp2
    go_loopw [1, 5] (fun r i w1 => ∃ j : Nat, j ≤ xs.length ∧ i = .int .i64 j ∧ r = .int .i64 ((k : Int) + (j : Int)) ∧ RowM w1 b off k xs j ∧ Only (b :: bss.flatten) w w1) (fun _ i _ => xs.length - (intOf i).toNat)
    case atStart => exact ⟨0, Nat.zero_le _, rfl, by simp, hrow0, Only.refl _ _⟩
    case round =>
      obtain ⟨j, hj, rfl, rfl, hrow, ho⟩ := hrel
      by_cases hj2 : j < xs.length
      · have hbl : b < wr.heap.size := Nat.lt_of_lt_of_le hlt ho.size
        obtain ⟨hcell, hfz⟩ := hrow j hj2
        have HR := hide hrow
        have HO := hide ho
        clear hrow ho
        have ecast : ((k : Int) + (j : Int)) = ((k + j : Nat) : Int) := by omega
        have HEC := hide ecast
        clear ecast
        go_wp2_with fail
        rw [HEC.out]
        refine (markText_any (k + j) _ (by omega) (by omega)).mono ?_
        rintro e w2 ⟨rfl, hb2⟩
        have hcell2 : w2.cell? ⟨b, off + j, none⟩ = some (.string (if j < j then markT (k + j) else xs[j])) := by rw [hb2.cell (p := ⟨b, off + j, none⟩) hbl]; exact hcell
        have hfz2 : w2.frozen? ⟨b, off + j, none⟩ = false := by rw [hb2.frozen (p := ⟨b, off + j, none⟩) hbl]; exact hfz
        have HN := hide (HR.out.step (hb2.block b hbl) hj2)
        have HN2 := hide ((HO.out.trans (Only.of_below hb2)).setCell (b := b) (o := off + j) (by simp) (.string (markT (k + j))))
        clear hcell hfz hb2
        rw [← HEC.out]
        go_wp2_with fail
        go_roundw
        case rel => exact ⟨j + 1, by omega, by go_num, by go_num, HN.out, HN2.out⟩
        case measure => simp [intOf]; omega
      · obtain rfl : j = xs.length := by omega
        go_wp2_with fail
        go_ret
        refine ⟨ret_int (by omega), ho, ⟨by unfold mkRep; rw [mkL_len]; exact hl, .inr ⟨b, off, cap, bss, by unfold mkRep; rw [mkL_len], Nat.lt_of_lt_of_le hlt ho.size, rfl, by unfold mkRep; rw [mkL_len]; exact hlen, fun i hi h2 => ?_⟩⟩⟩
        have hi' : i < xs.length := by unfold mkRep at hi; rw [mkL_len] at hi; exact hi
        obtain ⟨h1, h3⟩ := hrow i hi'
        rw [if_pos hi'] at h1
        have e1 : (mkRep k xs)[i] = markT (k + i) := (mkL_get mkStr oneC ⟨#[]⟩ k xs i hi' hi).trans (by rw [one_take xs i (by omega)]; rfl)
        rw [e1]
        exact ⟨by simpa using h1, by simpa using h3, by have := markT_size (k + i) (by omega); omega, HE.out i h2⟩
end Go.Proofs.YtebdfmijlnkcbaaDoor.Msg
