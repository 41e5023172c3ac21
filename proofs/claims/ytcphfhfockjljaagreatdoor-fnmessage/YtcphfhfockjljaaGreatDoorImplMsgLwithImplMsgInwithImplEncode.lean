import Derived.Test.YtcphfhfockjljaaGreatDoorImplSegWwithImplInwithImplSegIn
import Derived.Test.YtcphfhfockjljaaGreatDoorMsgEncodewithDrawRedowithDrawPar
namespace Go.Proofs.YtcphfhfockjljaaGreatDoor.Msg
set_option linter.unusedVariables false
set_option linter.unusedSimpArgs false

def small (c : ByteArray) : Bool := decide (c.size ≤ 40000)
def repSmall (r : Rep) : Bool := r.all small
def fieldSmall (f : Field) : Bool := f.all repSmall
def segSmall (x : Seg) : Bool := x.fields.all fieldSmall

theorem all_and {α : Type} (p q r : α → Bool) (h : ∀ x, p x = (q x && r x)) : ∀ xs : List α, xs.all p = (xs.all q && xs.all r)
  | [] => rfl
  | x :: xs => by
    rw [List.all_cons, List.all_cons, List.all_cons, all_and p q r h xs, h x]
    cases q x <;> cases r x <;> cases xs.all q <;> rfl
theorem repI_eq (r : Rep) : repI r = (repB r && repSmall r) := by
  have h := all_and compI plainB small (fun c => by unfold compI small; exact Bool.and_comm _ _) r
  unfold repI repB repSmall csB
  rw [h]
  cases decide (r.length ≤ 20) <;> cases endB ByteArray.size r <;> rfl
theorem fieldI_eq (f : Field) : fieldI f = (fieldB f && fieldSmall f) := by
  have h := all_and repI repB repSmall repI_eq f
  unfold fieldI fieldB fieldSmall csB
  rw [h]
  cases decide (f.length ≤ 30) <;> cases endB List.length f <;> rfl
theorem segI_eq (x : Seg) (b : Bool) (hb : mshB x.name = b) : segI x = (segB b x && segSmall x) := by
  have h := all_and fieldI fieldB fieldSmall fieldI_eq x.fields
  unfold segI segB segSmall csB
  rw [h, hb]
  cases nameB x.name <;> cases decide (x.fields.length ≤ 30) <;> cases endB List.length x.fields <;> simp

theorem joined_ge {α : Type} (sep : UInt8) (f : α → List UInt8) (xs : List α) (x : α) (h : x ∈ xs) : (f x).length ≤ (joined sep f xs).length := by
  obtain ⟨k, hk, rfl⟩ := List.getElem_of_mem h
  have := joined_room sep f xs k hk
  omega
theorem fieldsW_ge (xs : List Field) (x : Field) (h : x ∈ xs) : (fieldW x).length ≤ (fieldsW xs).length := by
  obtain ⟨k, hk, rfl⟩ := List.getElem_of_mem h
  have := fieldsW_room xs k hk
  omega
theorem seg_long (x : Seg) (i : Nat) (h : segSmall x = false) : 40000 < (segW i x).length := by
  unfold segSmall at h
  rw [List.all_eq_false] at h
  obtain ⟨f, hf, h⟩ := h
  have h : fieldSmall f = false := by simpa using h
  unfold fieldSmall at h
  rw [List.all_eq_false] at h
  obtain ⟨r, hr, h⟩ := h
  have h : repSmall r = false := by simpa using h
  unfold repSmall at h
  rw [List.all_eq_false] at h
  obtain ⟨c, hc, h⟩ := h
  have h : small c = false := by simpa using h
  unfold small at h
  have h : ¬ c.size ≤ 40000 := of_decide_eq_false h
  have h1 := escs_ge c.data.toList
  have h2 : c.data.toList.length = c.size := by simp
  have h3 := joined_ge 94 (fun c : ByteArray => escs c.data.toList) r c hc
  have h4 := joined_ge 126 repW f r hr
  have h5 := fieldsW_ge x.fields f hf
  have h6 : (repW r).length = (joined 94 (fun c : ByteArray => escs c.data.toList) r).length := rfl
  have h7 : (fieldW f).length = (joined 126 repW f).length := rfl
  unfold segW
  simp only [List.length_append]
  omega
theorem segW_eq (x : Seg) (k : Nat) (h : mshB x.name = (k == 0)) : segWI x = segW k x := by
  unfold segWI segW dm
  rw [h]
  by_cases hk : k = 0
  · subst hk; rfl
  · rw [if_neg hk, if_neg (by simp [hk])]

/-- the segment in its place, as the program asks -/
def placeB (k : Nat) (x : Seg) : Bool := (mshB x.name == (k == 0)) && segI x
theorem placeB_eq (k : Nat) (x : Seg) : placeB k x = (segB (k == 0) x && segSmall x) := by
  unfold placeB
  by_cases h : mshB x.name = (k == 0)
  · rw [segI_eq x _ h, h, beq_self_eq_true, Bool.true_and]
  · have h1 : (mshB x.name == (k == 0)) = false := by rw [beq_eq_false_iff_ne]; exact h
    unfold segB
    rw [h1]
    simp
/-- the first k segments are in their places -/
def Places (xs : List Seg) (k : Nat) : Prop := ∀ j (h : j < xs.length), j < k → placeB j xs[j] = true
theorem Places.step {xs : List Seg} {k : Nat} (h : Places xs k) (hk : k < xs.length) (hp : placeB k xs[k] = true) : Places xs (k + 1) := fun j hj h2 => by
  by_cases e : j = k
  · subst e; exact hp
  · exact h j hj (by omega)
def msgWI (xs : List Seg) : List UInt8 := xs.flatMap segWI
theorem msgWI_snoc (xs : List Seg) (k : Nat) (h : k < xs.length) : msgWI (xs.take (k + 1)) = msgWI (xs.take k) ++ segWI xs[k] := by
  unfold msgWI
  rw [List.take_succ_eq_append_getElem h, List.flatMap_append]
  simp
theorem place_msh {k : Nat} {x : Seg} (h : placeB k x = true) : mshB x.name = (k == 0) := by
  unfold placeB at h
  rw [Bool.and_eq_true] at h
  exact beq_iff_eq.1 h.1
theorem msgWI_eq (xs : List Seg) : ∀ k, k ≤ xs.length → Places xs k → msgWI (xs.take k) = msgW (xs.take k)
  | 0, _, _ => by simp [msgWI, msgW]
  | k + 1, hk, hp => by
    rw [msgWI_snoc xs k (by omega), msgW_snoc xs k (by omega), msgWI_eq xs k (by omega) (fun j hj h2 => hp j hj (by omega)), segW_eq _ k (place_msh (hp k (by omega) (by omega)))]
theorem msgW_take_le (xs : List Seg) (k : Nat) : (msgW (xs.take k)).length ≤ (msgW xs).length := flat_take_le (fun p => segW p.2 p.1) xs k

theorem msgB_split (xs : List Seg) (h1 : 1 ≤ xs.length) (h2 : xs.length ≤ 250) : msgB xs = (xs.zipIdx.all segAt && decide ((msgW xs).length ≤ 40000)) := by
  unfold msgB shapeB
  rw [decide_eq_true h1, decide_eq_true h2]
  rfl
theorem msgB_bad (xs : List Seg) (k : Nat) (hk : k < xs.length) (hp : placeB k xs[k] = false) : msgB xs = false := by
  rw [placeB_eq, Bool.and_eq_false_iff] at hp
  unfold msgB
  rcases hp with hp | hp
  · have h := zall_fail hk hp
    unfold shapeB
    have h' : (xs.zipIdx.all fun p => segB (p.2 == 0) p.1) = false := h
    rw [h']
    simp
  · have h1 := seg_long xs[k] k hp
    have h2 := msgW_room xs k hk
    rw [decide_eq_false (p := (msgW xs).length ≤ 40000) (by omega), Bool.and_false]
theorem msgB_long (xs : List Seg) (k : Nat) (hk : k < xs.length) (hp : Places xs (k + 1)) (hl : 40000 < (msgWI (xs.take (k + 1))).length) : msgB xs = false := by
  rw [msgWI_eq xs (k + 1) (by omega) hp] at hl
  have := msgW_take_le xs (k + 1)
  unfold msgB
  rw [decide_eq_false (p := (msgW xs).length ≤ 40000) (by omega), Bool.and_false]
theorem msgB_good (xs : List Seg) (h1 : 1 ≤ xs.length) (h2 : xs.length ≤ 250) (hp : Places xs xs.length) (hl : (msgWI (xs.take xs.length)).length ≤ 40000) : msgB xs = true := by
  rw [msgWI_eq xs _ (Nat.le_refl _) hp, List.take_length] at hl
  rw [msgB_split xs h1 h2, decide_eq_true hl, Bool.and_true, List.all_eq_true]
  rintro ⟨x, k⟩ hm
  rw [List.mk_mem_zipIdx_iff_getElem?] at hm
  obtain ⟨hk, rfl⟩ := List.getElem?_eq_some_iff.1 hm
  have := hp k hk hk
  rw [placeB_eq, Bool.and_eq_true] at this
  exact this.1
theorem msgB_places (xs : List Seg) (h : msgB xs = true) : Places xs xs.length := fun j hj _ => by
  cases hp : placeB j xs[j]
  · rw [msgB_bad xs j hj hp] at h; cases h
  · rfl
theorem msgB_size (xs : List Seg) (h : msgB xs = true) : msgWI xs = msgW xs ∧ (msgW xs).length ≤ 40000 := by
  have h1 := msgWI_eq xs xs.length (Nat.le_refl _) (msgB_places xs h)
  rw [List.take_length] at h1
  refine ⟨h1, ?_⟩
  unfold msgB at h
  rw [Bool.and_eq_true] at h
  exact of_decide_eq_true h.2
theorem msgB_none (xs : List Seg) (h : xs.length = 0) : msgB xs = false := by
  unfold msgB shapeB
  rw [decide_eq_false (p := 1 ≤ xs.length) (by omega)]
  rfl
theorem msgB_many (xs : List Seg) (h : 250 < xs.length) : msgB xs = false := by
  unfold msgB shapeB
  rw [decide_eq_false (p := xs.length ≤ 250) (by omega)]
  simp
theorem segWI_le (x : Seg) : (segWI x).length ≤ 6 + 3 * segSz x := by
  have h := fieldsW_le x.fields
  have h2 : x.name.data.toList.length = x.name.size := by simp
  unfold segWI segSz dm
  simp only [List.length_append]
  split <;> simp <;> omega
end Go.Proofs.YtcphfhfockjljaaGreatDoor.Msg

namespace Go.Proofs.YtcphfhfockjljaaGreatDoor.Msg
open Go.ChangeShapes Go.WideShapes Go.ChangeAt Go.RowKit
set_option linter.unusedVariables false
set_option linter.unusedSimpArgs false
theorem Buf.nil (base : Nat) (w : World) : Buf base w (.slice none 0 0) [] := World.ownsRow_nil w base 5 1
theorem room_step {L B : Nat} {W R : List UInt8} (hW : Wr [] W R) (h : L + W.length = B) :
    (40000 - (L : Int) - (R.length : Int) < 0 → L ≤ 40000 → 40000 < B) ∧ (¬ 40000 - (L : Int) - (R.length : Int) < 0 → 40000 - (L : Int) - (R.length : Int) = 40000 - (B : Int) ∧ B ≤ 40000) := by
  have h1 := hW.le
  rw [List.nil_append] at h1
  by_cases hl : W.length ≤ 40000
  · have e := hW.eq (by rw [List.nil_append]; exact hl)
    rw [List.nil_append] at e
    subst e
    exact ⟨fun a b => by omega, fun a => by omega⟩
  · have e := hW.long (by rw [List.nil_append]; omega)
    exact ⟨fun a b => by omega, fun a => by omega⟩

set_option maxRecDepth 100000 in
set_option maxHeartbeats 2000000 in
theorem msgIn_any (xs : List Seg) (v : Value) (w : World) (hsz : msgSz xs ≤ 1048576) {lo : Nat} (hv : SegsAt lo w v xs) :
    Calls Tryz.prog 15 #[.agg #[v]] w fun e w' => e = .returned (.bool (msgB xs)) ∧ Below w.heap.size w w' := by
  have hl := hv.1
  have hb := (Below.refl w.heap.size w).alloc (Nat.le_refl _) (Obj.cells #[v] 25)
  have hv1 := At.kept kept_seg hv hb
  obtain ⟨a, cap, rfl, hc⟩ := hv1.form
  have HC := hide hc
  clear hc hv hv1
  by_cases h0 : xs.length = 0
  · have HX := hide (msgB_none xs h0)
    have hz : ((xs.length : Int) == 0) = true := by rw [beq_iff_eq]; omega
    clear h0
    go_enter Tryz.func15, Tryz.ntmps15
    go_wp2_with fail
    go_ret
    exact ⟨ret_bool HX.out.symm, hb⟩
  have hz : ((xs.length : Int) == 0) = false := by rw [beq_eq_false_iff_ne]; omega
  by_cases h250 : (250 : Int) < (xs.length : Int)
  · have HX := hide (msgB_many xs (by omega))
    go_enter Tryz.func15, Tryz.ntmps15
    go_wp2_with fail
    go_ret
    exact ⟨ret_bool HX.out.symm, hb⟩
  go_enter Tryz.func15, Tryz.ntmps15
  go_wp2_with fail
  go_loopg [3, 19] xs.length (fun n r i wr => ∃ k : Nat, k ≤ xs.length ∧ n = xs.length - k ∧ i = .int .i64 k ∧ r = .int .i64 (40000 - ((msgWI (xs.take k)).length : Int)) ∧ (msgWI (xs.take k)).length ≤ 40000 ∧ Places xs k ∧ Below (w.heap.size + 1) (w.alloc (Obj.cells #[.slice a xs.length cap] 25)) wr)
  case atStart => exact ⟨0, Nat.zero_le _, by simp, rfl, by simp [msgWI], by simp [msgWI], fun j _ h => absurd h (by omega), Below.refl _ _⟩
  case round =>
    obtain ⟨k, hk, rfl, rfl, rfl, hL, hP, hbr⟩ := hrel
    obtain ⟨W1, rfl⟩ : ∃ x, x = wr := ⟨_, rfl⟩
    have hbw : Below w.heap.size w W1 := hb.trans (hbr.mono (by omega))
    have hbr' : Below (w.alloc (Obj.cells #[.slice a xs.length cap] 25)).heap.size (w.alloc (Obj.cells #[.slice a xs.length cap] 25)) W1 := by simpa using hbr
    by_cases hlt : k < xs.length
    · obtain ⟨b, off, rfl, _, hbl, hc0, hns, ve, hc1, hel⟩ := HC.out k hlt
      obtain ⟨a5, cap5, rfl, _⟩ := hel.form
      have hcell0 : W1.cell? ⟨b, off + k * 2, none⟩ = some (.string xs[k].name) := by rw [hbr'.cell (p := ⟨b, off + k * 2, none⟩) hbl]; exact hc0
      have hcell1 : W1.cell? ⟨b, off + k * 2 + 1, none⟩ = some (.slice a5 xs[k].fields.length cap5) := by rw [hbr'.cell (p := ⟨b, off + k * 2 + 1, none⟩) hbl]; exact hc1
      have hbB : Below W1.heap.size W1 (W1.alloc (Obj.cells #[.string xs[k].name, .slice a5 xs[k].fields.length cap5] 41)) := (Below.refl _ _).alloc (Nat.le_refl _) _
      have hel1 := At.kept kept_field (At.kept kept_field hel hbr') hbB
      have HB := hide (bjoin hbB hbw)
      have HBB := hide (hbr.trans (hbB.mono (by have := hbr.size; simp at this; omega)))
      have HBX0 : Hid ((W1.alloc (Obj.cells #[.string xs[k].name, .slice a5 xs[k].fields.length cap5] 41)).cell? ⟨W1.heap.size, 0, none⟩ = some (.string xs[k].name)) := by simp [Hid]
      have HBX1 : Hid ((W1.alloc (Obj.cells #[.string xs[k].name, .slice a5 xs[k].fields.length cap5] 41)).cell? ⟨W1.heap.size, 1, none⟩ = some (.slice a5 xs[k].fields.length cap5)) := by simp [Hid]
      have hsegz : segSz xs[k] ≤ 1048576 := by
        have := at_le segSz xs k hlt
        unfold msgSz lenSum at hsz
        omega
      obtain ⟨bm, hbm⟩ : ∃ b, (xs[k].name.toList == [77, 83, 72]) = b := ⟨_, rfl⟩
      have HMB : Hid (mshB xs[k].name = bm) := hbm
      obtain ⟨bk, hbk⟩ : ∃ b, ((k : Int) == 0) = b := ⟨_, rfl⟩
      have HBK : Hid ((k == 0) = bk) := by rw [← hbk]; exact (cast_beq k).symm
      have HPL : Hid (placeB k xs[k] = ((mshB xs[k].name == (k == 0)) && segI xs[k])) := rfl
      have HP := hide hP
      clear hc0 hc1 hel hP
      by_cases hmk : bm = bk
      · subst hmk
        have HPS : Hid (placeB k xs[k] = segI xs[k]) := by rw [HPL.out, HMB.out, HBK.out, beq_self_eq_true, Bool.true_and]; trivial
        go_wp2_with fail
        refine (segIn_any xs[k] _ _ hns hel1).mono ?_
        rintro e w2 ⟨rfl, hb2⟩
        have hel2 := At.kept kept_field hel1 hb2
        have hx0 : w2.cell? ⟨W1.heap.size, 0, none⟩ = some (.string xs[k].name) := by rw [hb2.cell (p := ⟨W1.heap.size, 0, none⟩) (by simp)]; exact HBX0.out
        have hx1 : w2.cell? ⟨W1.heap.size, 1, none⟩ = some (.slice a5 xs[k].fields.length cap5) := by rw [hb2.cell (p := ⟨W1.heap.size, 1, none⟩) (by simp)]; exact HBX1.out
        have HB2 := hide (bjoin hb2 HB.out)
        have HBB2 := hide (HBB.out.trans (hb2.mono (by have := hbr.size; simp at this ⊢; omega)))
        clear hb2 hcell0 hcell1 hel1 hbr hbr' hbw hbB hbm hbk
        cases hs : segI xs[k]
        · have HX := hide (msgB_bad xs k hlt (by rw [HPS.out]; exact hs))
          clear hs
          go_wp2_with fail
          go_ret
          exact ⟨ret_bool HX.out.symm, HB2.out⟩
        · have HPK := hide (HP.out.step hlt (by rw [HPS.out]; exact hs))
          clear hs
          go_wp2_with fail
          refine (segWrite_any w2.heap.size [] xs[k] _ _ w2 w2 (Nat.le_refl _) (Below.refl _ _) hel2 (Buf.nil _ _) (Nat.le_refl _) (by simp; omega)).mono ?_
          rintro e w3 ⟨u, R, rfl, hW, hu, hg⟩
          obtain ⟨a6, cap6, rfl⟩ := hu.len
          have hb3 : Below w2.heap.size w2 w3 := hg.below (by simp [Value.ownBlock]) (Nat.le_refl _)
          have HS : Hid ((msgWI (xs.take k)).length + (segWI xs[k]).length = (msgWI (xs.take (k + 1))).length) := by rw [msgWI_snoc xs k hlt, List.length_append]; trivial
          have HRS := hide (room_step hW HS.out)
          have hRl := hW.len (segWI_le xs[k])
          have HB3 := hide (bjoin hb3 HB2.out)
          have HBB3 := hide (HBB2.out.trans (hb3.mono (by have := HBB2.out.size; simp at this ⊢; omega)))
          clear hW hu hg hb3 hel2 hx0 hx1
          rw [List.length_nil] at hRl
          by_cases hneg : 40000 - ((msgWI (xs.take k)).length : Int) - (R.length : Int) < 0
          · have HX := hide (msgB_long xs k hlt HPK.out (HRS.out.1 hneg hL))
            go_wp2_with fail
            go_ret
            exact ⟨ret_bool HX.out.symm, HB3.out⟩
          · have HQ := hide (HRS.out.2 hneg)
            go_wp2_with fail
            go_roundg (xs.length - (k + 1))
            case rel => exact ⟨k + 1, by omega, rfl, by go_num, by rw [← HQ.out.1], HQ.out.2, HPK.out, HBB3.out⟩
            case measure => omega
      · have HX := hide (msgB_bad xs k hlt (by rw [HPL.out, HMB.out, HBK.out, beq_eq_false_iff_ne.2 hmk]; rfl))
        cases bm
        · cases bk
          · exact absurd rfl hmk
          · clear hmk
            go_wp2_with fail
            go_ret
            exact ⟨ret_bool HX.out.symm, HB.out⟩
        · cases bk
          · clear hmk
            go_wp2_with fail
            go_ret
            exact ⟨ret_bool HX.out.symm, HB.out⟩
          · exact absurd rfl hmk
    · obtain rfl : k = xs.length := by omega
      have HX := hide (msgB_good xs (by omega) (by omega) hP hL)
      go_wp2_with fail
      go_ret
      exact ⟨ret_bool HX.out.symm, hbw⟩
end Go.Proofs.YtcphfhfockjljaaGreatDoor.Msg

namespace Go.Proofs.YtcphfhfockjljaaGreatDoor.Msg
open Go.ChangeShapes Go.WideShapes Go.ChangeAt Go.RowKit
set_option linter.unusedVariables false
set_option linter.unusedSimpArgs false

theorem msgWI_take_le (xs : List Seg) (k : Nat) : (msgWI (xs.take k)).length ≤ (msgWI xs).length := by
  unfold msgWI
  conv => rhs; rw [← List.take_append_drop k xs]
  rw [List.flatMap_append, List.length_append]
  omega
theorem msgWI_le : ∀ xs : List Seg, (msgWI xs).length ≤ 6 * msgSz xs
  | [] => by simp [msgWI, msgSz, lenSum, sumOf]
  | x :: xs => by
    have ih := msgWI_le xs
    have hx := segWI_le x
    simp only [msgWI, msgSz, lenSum, sumOf, List.flatMap_cons, List.length_append, List.length_cons, List.map_cons, List.sum_cons] at *
    omega

set_option maxRecDepth 100000 in
set_option maxHeartbeats 2000000 in
theorem msgWrite_any (xs : List Seg) (v : Value) (w : World) (hsz : msgSz xs ≤ 1048576) {lo : Nat} (hv : SegsAt lo w v xs) :
    Calls Tryz.prog 16 #[.agg #[v], .slice none 0 0] w fun e w' => ∃ u R, e = .returned u ∧ Wr [] (msgWI xs) R ∧ Buf w.heap.size w' u R ∧ Below w.heap.size w w' := by
  have hl := hv.1
  obtain ⟨a, cap, rfl, hc⟩ := hv.form
  have HC := hide hc
  clear hc hv
  have hml := msgWI_le xs
  have hb0 := (Below.refl w.heap.size w).alloc (Nat.le_refl _) (Obj.cells #[.slice a xs.length cap] 25)
  go_enter Tryz.func16, Tryz.ntmps16
  go_wp2_with fail
  go_loopg [1, 10] xs.length (fun n v1 i wr => ∃ (k : Nat) (R : List UInt8), k ≤ xs.length ∧ n = xs.length - k ∧ i = .int .i64 k ∧ Wr [] (msgWI (xs.take k)) R ∧ Buf w.heap.size wr v1 R ∧ Below w.heap.size w wr)
  case atStart => exact ⟨0, [], Nat.zero_le _, by simp, rfl, by simpa [msgWI] using Wr.nil [], Buf.nil _ _, hb0⟩
  case round =>
    obtain ⟨k, R, hk, rfl, rfl, hW, hbuf, hbr⟩ := hrel
    obtain ⟨W1, rfl⟩ : ∃ x, x = wr := ⟨_, rfl⟩
    have HW := hide hW
    have hRl := hW.len (msgWI_take_le xs k)
    rw [List.length_nil] at hRl
    clear hW
    have hz : w.heap.size ≤ W1.heap.size := hbr.size
    by_cases hlt : k < xs.length
    · obtain ⟨b, off, rfl, _, hbl, hc0, hns, ve, hc1, hel⟩ := HC.out k hlt
      obtain ⟨a5, cap5, rfl, _⟩ := hel.form
      have hcell0 : W1.cell? ⟨b, off + k * 2, none⟩ = some (.string xs[k].name) := by rw [hbr.cell (p := ⟨b, off + k * 2, none⟩) hbl]; exact hc0
      have hcell1 : W1.cell? ⟨b, off + k * 2 + 1, none⟩ = some (.slice a5 xs[k].fields.length cap5) := by rw [hbr.cell (p := ⟨b, off + k * 2 + 1, none⟩) hbl]; exact hc1
      have hsegz : segSz xs[k] ≤ 1048576 := by
        have := at_le segSz xs k hlt
        unfold msgSz lenSum at hsz
        omega
      have HS := hide (msgWI_snoc xs k hlt)
      have hbB := hbr.alloc hz (Obj.cells #[.string xs[k].name, .slice a5 xs[k].fields.length cap5] 41)
      have hop := hbuf.own
      clear hc0 hc1
      go_wp2_with fail
      refine (segWrite_any w.heap.size R xs[k] _ _ w _ (Nat.le_refl _) hbB hel (hbuf.alloc _) (by simp; omega) (by omega)).mono ?_
      rintro e w2 ⟨u, R2, rfl, hW2, hu, hg2⟩
      have HW2 := hide hW2
      have hb2 := hbB.trans (hg2.below hop (by simp; omega))
      clear hW2
      go_wp2_with fail
      go_roundg (xs.length - (k + 1))
      case rel => exact ⟨k + 1, R2, by omega, rfl, by go_num, by rw [HS.out]; exact HW.out.trans HW2.out, hu, hb2⟩
      case measure => omega
    · go_wp2_with fail
      go_ret
      exact ⟨_, _, rfl, by have := HW.out; rwa [List.take_of_length_le (by omega)] at this, hbuf, hbr⟩

set_option maxHeartbeats 1000000 in
theorem encodeImpl_any (xs : List Seg) (v : Value) (w : World) (hsz : msgSz xs ≤ 1048576) {lo : Nat} (hv : SegsAt lo w v xs) :
    Calls Tryz.prog 5 #[.agg #[v]] w fun e w' => e = .returned (.string (encoded xs)) ∧ Below w.heap.size w w' := by
  have hb := (Below.refl w.heap.size w).alloc (Nat.le_refl _) (Obj.cells #[v] 25)
  have hv1 := At.kept kept_seg hv hb
  have hbox : (w.alloc (Obj.cells #[v] 25)).cell? ⟨w.heap.size, 0, none⟩ = some v := by simp
  cases hm : msgB xs
  · have HX := hide (encoded_no hm)
    have HM := hide hm
    clear hm hbox
    go_enter Tryz.func5, Tryz.ntmps5
    go_wp2_with fail
    refine (msgIn_any xs v _ hsz hv1).mono ?_
    rintro e w1 ⟨rfl, hb1⟩
    rw [HM.out]
    go_wp2_with fail
    go_ret
    exact ⟨ret_string HX.out.symm, bjoin hb1 hb⟩
  · have HX := hide (encoded_yes hm)
    have HM := hide hm
    have HZ := hide (msgB_size xs hm)
    have HBX := hide hbox
    clear hm hbox
    go_enter Tryz.func5, Tryz.ntmps5
    go_wp2_with fail
    refine (msgIn_any xs v _ hsz hv1).mono ?_
    rintro e w1 ⟨rfl, hb1⟩
    rw [HM.out]
    have hbox1 : w1.cell? ⟨w.heap.size, 0, none⟩ = some v := by rw [hb1.cell (p := ⟨w.heap.size, 0, none⟩) (by simp)]; exact HBX.out
    have hv2 := At.kept kept_seg hv1 hb1
    have hb2 := bjoin hb1 hb
    clear hv1 hb1
    go_wp2_with fail
    refine (msgWrite_any xs v _ hsz hv2).mono ?_
    rintro e w3 ⟨u, R, rfl, hW, hu, hb3⟩
    have hR : R = msgW xs := by
      have := hW.eq (by rw [List.nil_append, HZ.out.1]; exact HZ.out.2)
      rw [this, List.nil_append, HZ.out.1]
    subst hR
    have hconv := buf_string hu
    clear hbox1 hv2 hW
    go_wp2_with fail
    go_ret
    exact ⟨ret_string HX.out.symm, bjoin hb3 hb2⟩
end Go.Proofs.YtcphfhfockjljaaGreatDoor.Msg
