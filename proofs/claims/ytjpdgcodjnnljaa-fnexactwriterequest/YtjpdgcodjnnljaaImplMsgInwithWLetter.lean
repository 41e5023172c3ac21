import Derived.Test.YtjpdgcodjnnljaaMsgEncodewithImplMsgL
import Derived.Test.YtjpdgcodjnnljaaImplLetterXwithImplLetterN
import Derived.Test.YtjpdgcodjnnljaaTextImplwithQryImpl
namespace Go.Proofs.Ytjpdgcodjnnljaa.Msg
open Go.ChangeShapes Go.WideShapes Go.ChangeAt Go.RowKit
set_option linter.unusedVariables false
set_option linter.unusedSimpArgs false
theorem Buf.nil (base : Nat) (w : World) : Buf base w (.slice none 0 0) [] := World.ownsRow_nil w base 5 1
theorem room_step {L B : Nat} {W R : List UInt8} (hW : Wr [] W R) (h : L + W.length = B) :
    (40000 - (L : Int) - (R.length : Int) < 0 → L ≤ 40000 → 40000 < B) ∧ (¬ 40000 - (L : Int) - (R.length : Int) < 0 → 40000 - (L : Int) - (R.length : Int) = 40000 - (B : Int) ∧ B ≤ 40000) := by
  have h1 := hW.le
  rw [List.nil_append] at h1
  by_cases hl : W.length ≤ 40000
  · have e := hW.eq (by rw [List.nil_append]; exact hl)
    rw [List.nil_append] at e
    subst e
    exact ⟨fun a b => by omega, fun a => by omega⟩
  · have e := hW.long (by rw [List.nil_append]; omega)
    exact ⟨fun a b => by omega, fun a => by omega⟩

set_option maxRecDepth 100000 in
set_option maxHeartbeats 2000000 in
theorem msgIn_any (xs : List Seg) (v : Value) (w : World) (hsz : msgSz xs ≤ 1048576) {lo : Nat} (hv : SegsAt lo w v xs) :
    Calls Try.prog 75 #[.agg #[v]] w fun e w' => e = .returned (.bool (msgB xs)) ∧ Below w.heap.size w w' := by
  have hl := hv.1
  have hb := (Below.refl w.heap.size w).alloc (Nat.le_refl _) (Obj.cells #[v] 55)
  have hv1 := At.kept kept_seg hv hb
  obtain ⟨a, cap, rfl, hc⟩ := hv1.form
  have HC := hide hc
  clear hc hv hv1
  by_cases h0 : xs.length = 0
  · have HX := hide (msgB_none xs h0)
    have hz : ((xs.length : Int) == 0) = true := by rw [beq_iff_eq]; omega
    clear h0
    go_enter Try.func75, Try.ntmps75
    go_wp2_with fail
    go_ret
    exact ⟨ret_bool HX.out.symm, hb⟩
  have hz : ((xs.length : Int) == 0) = false := by rw [beq_eq_false_iff_ne]; omega
  by_cases h250 : (250 : Int) < (xs.length : Int)
  · have HX := hide (msgB_many xs (by omega))
    go_enter Try.func75, Try.ntmps75
    go_wp2_with fail
    go_ret
    exact ⟨ret_bool HX.out.symm, hb⟩
  go_enter Try.func75, Try.ntmps75
  go_wp2_with fail
  go_loopg [3, 19] xs.length (fun n r i wr => ∃ k : Nat, k ≤ xs.length ∧ n = xs.length - k ∧ i = .int .i64 k ∧ r = .int .i64 (40000 - ((msgWI (xs.take k)).length : Int)) ∧ (msgWI (xs.take k)).length ≤ 40000 ∧ Places xs k ∧ Below (w.heap.size + 1) (w.alloc (Obj.cells #[.slice a xs.length cap] 55)) wr)
  case atStart => exact ⟨0, Nat.zero_le _, by simp, rfl, by simp [msgWI], by simp [msgWI], fun j _ h => absurd h (by omega), Below.refl _ _⟩
  case round =>
    obtain ⟨k, hk, rfl, rfl, rfl, hL, hP, hbr⟩ := hrel
    obtain ⟨W1, rfl⟩ : ∃ x, x = wr := ⟨_, rfl⟩
    have hbw : Below w.heap.size w W1 := hb.trans (hbr.mono (by omega))
    have hbr' : Below (w.alloc (Obj.cells #[.slice a xs.length cap] 55)).heap.size (w.alloc (Obj.cells #[.slice a xs.length cap] 55)) W1 := by simpa using hbr
    by_cases hlt : k < xs.length
    · obtain ⟨b, off, rfl, _, hbl, hc0, hns, ve, hc1, hel⟩ := HC.out k hlt
      obtain ⟨a5, cap5, rfl, _⟩ := hel.form
      have hcell0 : W1.cell? ⟨b, off + k * 2, none⟩ = some (.string xs[k].name) := by rw [hbr'.cell (p := ⟨b, off + k * 2, none⟩) hbl]; exact hc0
      have hcell1 : W1.cell? ⟨b, off + k * 2 + 1, none⟩ = some (.slice a5 xs[k].fields.length cap5) := by rw [hbr'.cell (p := ⟨b, off + k * 2 + 1, none⟩) hbl]; exact hc1
      have hbB : Below W1.heap.size W1 (W1.alloc (Obj.cells #[.string xs[k].name, .slice a5 xs[k].fields.length cap5] 111)) := (Below.refl _ _).alloc (Nat.le_refl _) _
      have hel1 := At.kept kept_field (At.kept kept_field hel hbr') hbB
      have HB := hide (bjoin hbB hbw)
      have HBB := hide (hbr.trans (hbB.mono (by have := hbr.size; simp at this; omega)))
      have HBX0 : Hid ((W1.alloc (Obj.cells #[.string xs[k].name, .slice a5 xs[k].fields.length cap5] 111)).cell? ⟨W1.heap.size, 0, none⟩ = some (.string xs[k].name)) := by simp [Hid]
      have HBX1 : Hid ((W1.alloc (Obj.cells #[.string xs[k].name, .slice a5 xs[k].fields.length cap5] 111)).cell? ⟨W1.heap.size, 1, none⟩ = some (.slice a5 xs[k].fields.length cap5)) := by simp [Hid]
      have hsegz : segSz xs[k] ≤ 1048576 := by
        have := at_le segSz xs k hlt
        unfold msgSz lenSum at hsz
        omega
      obtain ⟨bm, hbm⟩ : ∃ b, (xs[k].name.toList == [77, 83, 72]) = b := ⟨_, rfl⟩
      have HMB : Hid (mshB xs[k].name = bm) := hbm
      obtain ⟨bk, hbk⟩ : ∃ b, ((k : Int) == 0) = b := ⟨_, rfl⟩
      have HBK : Hid ((k == 0) = bk) := by rw [← hbk]; exact (cast_beq k).symm
      have HPL : Hid (placeB k xs[k] = ((mshB xs[k].name == (k == 0)) && segI xs[k])) := rfl
      have HP := hide hP
      clear hc0 hc1 hel hP
      by_cases hmk : bm = bk
      · subst hmk
        have HPS : Hid (placeB k xs[k] = segI xs[k]) := by rw [HPL.out, HMB.out, HBK.out, beq_self_eq_true, Bool.true_and]; trivial
        go_wp2_with fail
        refine (segIn_any xs[k] _ _ hns hel1).mono ?_
        rintro e w2 ⟨rfl, hb2⟩
        have hel2 := At.kept kept_field hel1 hb2
        have hx0 : w2.cell? ⟨W1.heap.size, 0, none⟩ = some (.string xs[k].name) := by rw [hb2.cell (p := ⟨W1.heap.size, 0, none⟩) (by simp)]; exact HBX0.out
        have hx1 : w2.cell? ⟨W1.heap.size, 1, none⟩ = some (.slice a5 xs[k].fields.length cap5) := by rw [hb2.cell (p := ⟨W1.heap.size, 1, none⟩) (by simp)]; exact HBX1.out
        have HB2 := hide (bjoin hb2 HB.out)
        have HBB2 := hide (HBB.out.trans (hb2.mono (by have := hbr.size; simp at this ⊢; omega)))
        clear hb2 hcell0 hcell1 hel1 hbr hbr' hbw hbB hbm hbk
        cases hs : segI xs[k]
        · have HX := hide (msgB_bad xs k hlt (by rw [HPS.out]; exact hs))
          clear hs
          go_wp2_with fail
          go_ret
          exact ⟨ret_bool HX.out.symm, HB2.out⟩
        · have HPK := hide (HP.out.step hlt (by rw [HPS.out]; exact hs))
          clear hs
          go_wp2_with fail
          refine (segWrite_any w2.heap.size [] xs[k] _ _ w2 w2 (Nat.le_refl _) (Below.refl _ _) hel2 (Buf.nil _ _) (Nat.le_refl _) (by simp; omega)).mono ?_
          rintro e w3 ⟨u, R, rfl, hW, hu, hg⟩
          obtain ⟨a6, cap6, rfl⟩ := hu.len
          have hb3 : Below w2.heap.size w2 w3 := hg.below (by simp [Value.ownBlock]) (Nat.le_refl _)
          have HS : Hid ((msgWI (xs.take k)).length + (segWI xs[k]).length = (msgWI (xs.take (k + 1))).length) := by rw [msgWI_snoc xs k hlt, List.length_append]; trivial
          have HRS := hide (room_step hW HS.out)
          have hRl := hW.len (segWI_le xs[k])
          have HB3 := hide (bjoin hb3 HB2.out)
          have HBB3 := hide (HBB2.out.trans (hb3.mono (by have := HBB2.out.size; simp at this ⊢; omega)))
          clear hW hu hg hb3 hel2 hx0 hx1
          rw [List.length_nil] at hRl
          by_cases hneg : 40000 - ((msgWI (xs.take k)).length : Int) - (R.length : Int) < 0
          · have HX := hide (msgB_long xs k hlt HPK.out (HRS.out.1 hneg hL))
            go_wp2_with fail
            go_ret
            exact ⟨ret_bool HX.out.symm, HB3.out⟩
          · have HQ := hide (HRS.out.2 hneg)
            go_wp2_with fail
            go_roundg (xs.length - (k + 1))
            case rel => exact ⟨k + 1, by omega, rfl, by go_num, by rw [← HQ.out.1], HQ.out.2, HPK.out, HBB3.out⟩
            case measure => omega
      · have HX := hide (msgB_bad xs k hlt (by rw [HPL.out, HMB.out, HBK.out, beq_eq_false_iff_ne.2 hmk]; rfl))
        cases bm
        · cases bk
          · exact absurd rfl hmk
          · clear hmk
            go_wp2_with fail
            go_ret
            exact ⟨ret_bool HX.out.symm, HB.out⟩
        · cases bk
          · clear hmk
            go_wp2_with fail
            go_ret
            exact ⟨ret_bool HX.out.symm, HB.out⟩
          · exact absurd rfl hmk
    · obtain rfl : k = xs.length := by omega
      have HX := hide (msgB_good xs (by omega) (by omega) hP hL)
      go_wp2_with fail
      go_ret
      exact ⟨ret_bool HX.out.symm, hbw⟩
end Go.Proofs.Ytjpdgcodjnnljaa.Msg

namespace Go.Proofs.Ytjpdgcodjnnljaa.Msg
open Go.ChangeShapes Go.WideShapes Go.ChangeAt Go.RowKit
set_option linter.unusedVariables false
set_option linter.unusedSimpArgs false

theorem form_segs3 {w : World} {v : Value} {xs : List Seg} {bs : List Nat} (h : OSegs w v xs bs) : ∃ a c, v = .slice a xs.length c := by
  obtain ⟨a, c, e, _⟩ := (OAt.toAt toAt_seg h (lo := 0) (fun _ _ => Nat.zero_le _)).form
  exact ⟨a, c, e⟩

set_option maxRecDepth 100000 in
set_option maxHeartbeats 2000000 in
/-- writeLetter of a letter that lacks nothing and whose message is in order -/
theorem writeLetter_yes (T fl fw : Nat) (av : Value) (xs : List Seg) (w : World) (m1 : ∀ w, (Go.method 337 T av "loop.example/s01639/impl.lacks").run Try.prog w = .ok (fl, av) w) (m2 : ∀ w, (Go.method 337 T av "loop.example/s01639/impl.write").run Try.prog w = .ok (fw, av) w)
    (hl : ∀ W, Calls Try.prog fl #[av] W fun e w' => e = .returned .nilIface ∧ Below W.heap.size W w') (hw : ∀ W, Calls Try.prog fw #[av] W (MsgPost W xs)) (hB : msgB xs = true) (hsz : msgSz xs ≤ 1048576) (e1 : ∀ args w, (callFunc fl args).run Try.prog w = .ok (.enter fl args) w) (e2 : ∀ args w, (callFunc fw args).run Try.prog w = .ok (.enter fw args) w) :
    Calls Try.prog 84 #[.iface T av] w (MsgPost w xs) := by
  obtain ⟨w1, hw1⟩ : ∃ w1, w.alloc (Obj.cells #[.slice none 0 0] 55) = w1 := ⟨_, rfl⟩
  have hb1 : Below w.heap.size w w1 := by rw [← hw1]; exact (Below.refl _ _).alloc (Nat.le_refl _) _
  have c1 : w1.cell? ⟨w.heap.size, 0, none⟩ = some (.slice none 0 0) := by rw [← hw1]; simp
  have f1 : w1.frozen? ⟨w.heap.size, 0, none⟩ = false := by rw [← hw1]; simp
  have l1 : w.heap.size < w1.heap.size := by rw [← hw1]; simp
  have HL := hide hl
  have HW := hide hw
  have HBB := hide hB
  clear hl hw hB
  go_enter Try.func84, Try.ntmps84
  go_wp2_with fail
  refine (HL.out _).mono ?_
  rintro e w2 ⟨rfl, hb2⟩
  go_wp2_with fail
  refine (HW.out _).mono ?_
  rintro e w3 ⟨u, rfl, bs, hO, hN, hF, hb3⟩
  obtain ⟨a, c, rfl⟩ := form_segs3 hO
  have hB3 := bjoin hb3 hb2
  have c3 : w3.cell? ⟨w.heap.size, 0, none⟩ = some (.slice none 0 0) := (hB3.cell (p := ⟨w.heap.size, 0, none⟩) l1).trans c1
  have f3 : w3.frozen? ⟨w.heap.size, 0, none⟩ = false := (hB3.frozen (p := ⟨w.heap.size, 0, none⟩) l1).trans f1
  have hs3 := hB3.size
  have hs2 := hb2.size
  obtain ⟨w4, hw4⟩ : ∃ w4, w3.alloc (Obj.cells #[.slice a xs.length c] 55) = w4 := ⟨_, rfl⟩
  have hb4 : Below w3.heap.size w3 w4 := by rw [← hw4]; exact (Below.refl _ _).alloc (Nat.le_refl _) _
  have d4 : w4.cell? ⟨w3.heap.size, 0, none⟩ = some (.slice a xs.length c) := by rw [← hw4]; simp
  have l4 : w3.heap.size < w4.heap.size := by rw [← hw4]; simp
  have HO4 := hide (OAt.kept keptO_seg hO hb4.size fun d hd => hb4.block d (OAt.lt ltO_seg hO d hd))
  have HF3 : Hid (∀ d ∈ bs, w2.heap.size ≤ d ∧ d < w3.heap.size) := fun d hd => ⟨hF d hd, OAt.lt ltO_seg hO d hd⟩
  have c4 : w4.cell? ⟨w.heap.size, 0, none⟩ = some (.slice none 0 0) := (hb4.cell (p := ⟨w.heap.size, 0, none⟩) (by dsimp only; omega)).trans c3
  have f4 : w4.frozen? ⟨w.heap.size, 0, none⟩ = false := (hb4.frozen (p := ⟨w.heap.size, 0, none⟩) (by dsimp only; omega)).trans f3
  have HB4 := hide (bjoin hb4 (bjoin hB3 hb1))
  have HND := hide hN
  clear hO hF hN hb3 hB3 hb4 c3 f3
  go_wp2_with fail
  refine (msgIn_any xs _ _ hsz (OAt.toAt toAt_seg HO4.out (lo := 0) (fun _ _ => Nat.zero_le _))).mono ?_
  rintro e w5 ⟨rfl, hb5⟩
  rw [HBB.out]
  have d5 : w5.cell? ⟨w3.heap.size, 0, none⟩ = some (.slice a xs.length c) := (hb5.cell (p := ⟨w3.heap.size, 0, none⟩) l4).trans d4
  have c5 : w5.cell? ⟨w.heap.size, 0, none⟩ = some (.slice none 0 0) := (hb5.cell (p := ⟨w.heap.size, 0, none⟩) (by dsimp only; omega)).trans c4
  have f5 : w5.frozen? ⟨w.heap.size, 0, none⟩ = false := (hb5.frozen (p := ⟨w.heap.size, 0, none⟩) (by dsimp only; omega)).trans f4
  have l5 : w.heap.size < w5.heap.size := by have := hb5.size; omega
  have HO5 := hide (OAt.kept keptO_seg HO4.out hb5.size fun d hd => hb5.block d (by have := (HF3.out d hd).2; omega))
  have HOF : Hid (∀ x, OSegs (w5.setCell ⟨w.heap.size, 0, none⟩ x) (.slice a xs.length c) xs bs) := fun x => OAt.kept keptO_seg HO5.out (by rw [Deep.nblk_setCell]; exact Nat.le_refl _) fun d hd => Deep.blk_setCell_other _ ⟨w.heap.size, 0, none⟩ _ d (by have := (HF3.out d hd).1; dsimp only; omega)
  have HBF : Hid (∀ x, Below w.heap.size w (w5.setCell ⟨w.heap.size, 0, none⟩ x)) := fun x => (bjoin hb5 HB4.out).setCell (p := ⟨w.heap.size, 0, none⟩) (Nat.le_refl _) x
  have HFR : Hid (∀ b ∈ bs, w.heap.size ≤ b) := fun b hb => by have := (HF3.out b hb).1; omega
  clear hb5
  go_wp2_with fail
  exact bodyPost_ret (v := .agg #[.slice a xs.length c]) (by simp [results, Try.results84, go_sem, c5, l5]) rfl ⟨_, rfl, bs, HOF.out _, HND.out, HFR.out, HBF.out _⟩
theorem msgPost_nil (w w' : World) (a : Option Addr) (c : Nat) (hb : Below w.heap.size w w') : MsgPost w [] (.returned (.agg #[.slice a 0 c])) w' := ⟨_, rfl, [], ⟨by simp, .inl ⟨a, c, rfl, rfl, rfl⟩⟩, by simp, by simp, hb⟩

set_option maxRecDepth 100000 in
set_option maxHeartbeats 2000000 in
/-- writeLetter of a letter that lacks something -/
theorem writeLetter_no (T fl : Nat) (av : Value) (c : Int) (w : World) (m1 : ∀ w, (Go.method 337 T av "loop.example/s01639/impl.lacks").run Try.prog w = .ok (fl, av) w)
    (hl : ∀ W, Calls Try.prog fl #[av] W fun e w' => e = .returned (lackV c) ∧ Below W.heap.size W w') (e1 : ∀ args w, (callFunc fl args).run Try.prog w = .ok (.enter fl args) w) :
    Calls Try.prog 84 #[.iface T av] w (MsgPost w []) := by
  obtain ⟨w1, hw1⟩ : ∃ w1, w.alloc (Obj.cells #[.slice none 0 0] 55) = w1 := ⟨_, rfl⟩
  have hb1 : Below w.heap.size w w1 := by rw [← hw1]; exact (Below.refl _ _).alloc (Nat.le_refl _) _
  have c1 : w1.cell? ⟨w.heap.size, 0, none⟩ = some (.slice none 0 0) := by rw [← hw1]; simp
  have f1 : w1.frozen? ⟨w.heap.size, 0, none⟩ = false := by rw [← hw1]; simp
  have l1 : w.heap.size < w1.heap.size := by rw [← hw1]; simp
  have HL := hide hl
  clear hl
  go_enter Try.func84, Try.ntmps84
  go_wp2_with fail
  refine (HL.out _).mono ?_
  rintro e w2 ⟨rfl, hb2⟩
  dsimp only [lackV]
  have c2 : w2.cell? ⟨w.heap.size, 0, none⟩ = some (.slice none 0 0) := (hb2.cell (p := ⟨w.heap.size, 0, none⟩) l1).trans c1
  have f2 : w2.frozen? ⟨w.heap.size, 0, none⟩ = false := (hb2.frozen (p := ⟨w.heap.size, 0, none⟩) l1).trans f1
  have l2 : w.heap.size < w2.heap.size := by have := hb2.size; omega
  have HBF : Hid (∀ x, Below w.heap.size w (w2.setCell ⟨w.heap.size, 0, none⟩ x)) := fun x => (bjoin hb2 hb1).setCell (p := ⟨w.heap.size, 0, none⟩) (Nat.le_refl _) x
  clear hb2
  go_wp2_with fail
  exact bodyPost_ret (v := .agg #[.slice none 0 0]) (by simp [results, Try.results84, go_sem, c2, l2]) rfl (msgPost_nil _ _ _ _ (HBF.out _))
end Go.Proofs.Ytjpdgcodjnnljaa.Msg
