import Derived.Test.YtjpdgcodjnnljaaImplMsgL
namespace Go.Proofs.Ytjpdgcodjnnljaa.Msg
open Go.ChangeShapes Go.WideShapes Go.ChangeAt Go.RowKit
set_option linter.unusedVariables false
set_option linter.unusedSimpArgs false
theorem Buf.nil (base : Nat) (w : World) : Buf base w (.slice none 0 0) [] := World.ownsRow_nil w base 5 1
theorem room_step {L B : Nat} {W R : List UInt8} (hW : Wr [] W R) (h : L + W.length = B) :
    (40000 - (L : Int) - (R.length : Int) < 0 → L ≤ 40000 → 40000 < B) ∧ (¬ 40000 - (L : Int) - (R.length : Int) < 0 → 40000 - (L : Int) - (R.length : Int) = 40000 - (B : Int) ∧ B ≤ 40000) := by
  have h1 := hW.le
  rw [List.nil_append] at h1
  by_cases hl : W.length ≤ 40000
  · have e := hW.eq (by rw [List.nil_append]; exact hl)
    rw [List.nil_append] at e
    subst e
    exact ⟨fun a b => by omega, fun a => by omega⟩
  · have e := hW.long (by rw [List.nil_append]; omega)
    exact ⟨fun a b => by omega, fun a => by omega⟩

set_option maxRecDepth 100000 in
set_option maxHeartbeats 2000000 in
theorem msgIn_any (xs : List Seg) (v : Value) (w : World) (hsz : msgSz xs ≤ 1048576) {lo : Nat} (hv : SegsAt lo w v xs) :
    Calls Try.prog 75 #[.agg #[v]] w fun e w' => e = .returned (.bool (msgB xs)) ∧ Below w.heap.size w w' := by
  have hl := hv.1
  have hb := (Below.refl w.heap.size w).alloc (Nat.le_refl _) (Obj.cells #[v] 55)
  have hv1 := At.kept kept_seg hv hb
  obtain ⟨a, cap, rfl, hc⟩ := hv1.form
  have HC := hide hc
  clear hc hv hv1
  by_cases h0 : xs.length = 0
  · have HX := hide (msgB_none xs h0)
    have hz : ((xs.length : Int) == 0) = true := by rw [beq_iff_eq]; omega
    clear h0
    go_enter Try.func75, Try.ntmps75
    go_wp2_with fail
    go_ret
    exact ⟨ret_bool HX.out.symm, hb⟩
  have hz : ((xs.length : Int) == 0) = false := by rw [beq_eq_false_iff_ne]; omega
  by_cases h250 : (250 : Int) < (xs.length : Int)
  · have HX := hide (msgB_many xs (by omega))
    go_enter Try.func75, Try.ntmps75
    go_wp2_with fail
    go_ret
    exact ⟨ret_bool HX.out.symm, hb⟩
  go_enter Try.func75, Try.ntmps75
  go_wp2_with fail
  go_loopg [3, 19] xs.length (fun n r i wr => ∃ k : Nat, k ≤ xs.length ∧ n = xs.length - k ∧ i = .int .i64 k ∧ r = .int .i64 (40000 - ((msgWI (xs.take k)).length : Int)) ∧ (msgWI (xs.take k)).length ≤ 40000 ∧ Places xs k ∧ Below (w.heap.size + 1) (w.alloc (Obj.cells #[.slice a xs.length cap] 55)) wr)
  case atStart => exact ⟨0, Nat.zero_le _, by simp, rfl, by simp [msgWI], by simp [msgWI], fun j _ h => absurd h (by omega), Below.refl _ _⟩
  case round =>
    obtain ⟨k, hk, rfl, rfl, rfl, hL, hP, hbr⟩ := hrel
    obtain ⟨W1, rfl⟩ : ∃ x, x = wr := ⟨_, rfl⟩
    have hbw : Below w.heap.size w W1 := hb.trans (hbr.mono (by omega))
    have hbr' : Below (w.alloc (Obj.cells #[.slice a xs.length cap] 55)).heap.size (w.alloc (Obj.cells #[.slice a xs.length cap] 55)) W1 := by simpa using hbr
    by_cases hlt : k < xs.length
    · obtain ⟨b, off, rfl, _, hbl, hc0, hns, ve, hc1, hel⟩ := HC.out k hlt
      obtain ⟨a5, cap5, rfl, _⟩ := hel.form
      have hcell0 : W1.cell? ⟨b, off + k * 2, none⟩ = some (.string xs[k].name) := by rw [hbr'.cell (p := ⟨b, off + k * 2, none⟩) hbl]; exact hc0
      have hcell1 : W1.cell? ⟨b, off + k * 2 + 1, none⟩ = some (.slice a5 xs[k].fields.length cap5) := by rw [hbr'.cell (p := ⟨b, off + k * 2 + 1, none⟩) hbl]; exact hc1
      have hbB : Below W1.heap.size W1 (W1.alloc (Obj.cells #[.string xs[k].name, .slice a5 xs[k].fields.length cap5] 111)) := (Below.refl _ _).alloc (Nat.le_refl _) _
      have hel1 := At.kept kept_field (At.kept kept_field hel hbr') hbB
      have HB := hide (bjoin hbB hbw)
      have HBB := hide (hbr.trans (hbB.mono (by have := hbr.size; simp at this; omega)))
      have HBX0 : Hid ((W1.alloc (Obj.cells #[.string xs[k].name, .slice a5 xs[k].fields.length cap5] 111)).cell? ⟨W1.heap.size, 0, none⟩ = some (.string xs[k].name)) := by simp [Hid]
      have HBX1 : Hid ((W1.alloc (Obj.cells #[.string xs[k].name, .slice a5 xs[k].fields.length cap5] 111)).cell? ⟨W1.heap.size, 1, none⟩ = some (.slice a5 xs[k].fields.length cap5)) := by simp [Hid]
      have hsegz : segSz xs[k] ≤ 1048576 := by
        have := at_le segSz xs k hlt
        unfold msgSz lenSum at hsz
        omega
      obtain ⟨bm, hbm⟩ : ∃ b, (xs[k].name.toList == [77, 83, 72]) = b := ⟨_, rfl⟩
      have HMB : Hid (mshB xs[k].name = bm) := hbm
      obtain ⟨bk, hbk⟩ : ∃ b, ((k : Int) == 0) = b := ⟨_, rfl⟩
      have HBK : Hid ((k == 0) = bk) := by rw [← hbk]; exact (cast_beq k).symm
      have HPL : Hid (placeB k xs[k] = ((mshB xs[k].name == (k == 0)) && segI xs[k])) := rfl
      have HP := hide hP
      clear hc0 hc1 hel hP
      by_cases hmk : bm = bk
      · subst hmk
        have HPS : Hid (placeB k xs[k] = segI xs[k]) := by rw [HPL.out, HMB.out, HBK.out, beq_self_eq_true, Bool.true_and]; trivial
        go_wp2_with fail
        refine (segIn_any xs[k] _ _ hns hel1).mono ?_
        rintro e w2 ⟨rfl, hb2⟩
        have hel2 := At.kept kept_field hel1 hb2
        have hx0 : w2.cell? ⟨W1.heap.size, 0, none⟩ = some (.string xs[k].name) := by rw [hb2.cell (p := ⟨W1.heap.size, 0, none⟩) (by simp)]; exact HBX0.out
        have hx1 : w2.cell? ⟨W1.heap.size, 1, none⟩ = some (.slice a5 xs[k].fields.length cap5) := by rw [hb2.cell (p := ⟨W1.heap.size, 1, none⟩) (by simp)]; exact HBX1.out
        have HB2 := hide (bjoin hb2 HB.out)
        have HBB2 := hide (HBB.out.trans (hb2.mono (by have := hbr.size; simp at this ⊢; omega)))
        clear hb2 hcell0 hcell1 hel1 hbr hbr' hbw hbB hbm hbk
        cases hs : segI xs[k]
        · have HX := hide (msgB_bad xs k hlt (by rw [HPS.out]; exact hs))
          clear hs
          go_wp2_with fail
          go_ret
          exact ⟨ret_bool HX.out.symm, HB2.out⟩
        · have HPK := hide (HP.out.step hlt (by rw [HPS.out]; exact hs))
          clear hs
          go_wp2_with fail
          refine (segWrite_any w2.heap.size [] xs[k] _ _ w2 w2 (Nat.le_refl _) (Below.refl _ _) hel2 (Buf.nil _ _) (Nat.le_refl _) (by simp; omega)).mono ?_
          rintro e w3 ⟨u, R, rfl, hW, hu, hg⟩
          obtain ⟨a6, cap6, rfl⟩ := hu.len
          have hb3 : Below w2.heap.size w2 w3 := hg.below (by simp [Value.ownBlock]) (Nat.le_refl _)
          have HS : Hid ((msgWI (xs.take k)).length + (segWI xs[k]).length = (msgWI (xs.take (k + 1))).length) := by rw [msgWI_snoc xs k hlt, List.length_append]; trivial
          have HRS := hide (room_step hW HS.out)
          have hRl := hW.len (segWI_le xs[k])
          have HB3 := hide (bjoin hb3 HB2.out)
          have HBB3 := hide (HBB2.out.trans (hb3.mono (by have := HBB2.out.size; simp at this ⊢; omega)))
          clear hW hu hg hb3 hel2 hx0 hx1
          rw [List.length_nil] at hRl
          by_cases hneg : 40000 - ((msgWI (xs.take k)).length : Int) - (R.length : Int) < 0
          · have HX := hide (msgB_long xs k hlt HPK.out (HRS.out.1 hneg hL))
            go_wp2_with fail
            go_ret
            exact ⟨ret_bool HX.out.symm, HB3.out⟩
          · have HQ := hide (HRS.out.2 hneg)
            go_wp2_with fail
            go_roundg (xs.length - (k + 1))
            case rel => exact ⟨k + 1, by omega, rfl, by go_num, by rw [← HQ.out.1], HQ.out.2, HPK.out, HBB3.out⟩
            case measure => omega
      · have HX := hide (msgB_bad xs k hlt (by rw [HPL.out, HMB.out, HBK.out, beq_eq_false_iff_ne.2 hmk]; rfl))
        cases bm
        · cases bk
          · exact absurd rfl hmk
          · clear hmk
            go_wp2_with fail
            go_ret
            exact ⟨ret_bool HX.out.symm, HB.out⟩
        · cases bk
          · clear hmk
            go_wp2_with fail
            go_ret
            exact ⟨ret_bool HX.out.symm, HB.out⟩
          · exact absurd rfl hmk
    · obtain rfl : k = xs.length := by omega
      have HX := hide (msgB_good xs (by omega) (by omega) hP hL)
      go_wp2_with fail
      go_ret
      exact ⟨ret_bool HX.out.symm, hbw⟩
end Go.Proofs.Ytjpdgcodjnnljaa.Msg
