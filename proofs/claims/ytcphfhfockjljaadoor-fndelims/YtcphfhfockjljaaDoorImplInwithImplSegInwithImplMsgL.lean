import Derived.Test.YtcphfhfockjljaaDoorImplCswithImplShortwithImplShort2
import Derived.Test.YtcphfhfockjljaaDoorImplFieldWwithBufStrwithImplSegW
import Derived.Test.YtcphfhfockjljaaDoorMsgEncodewithMsgInjwithParseData
namespace Go.Proofs.YtcphfhfockjljaaDoor.Msg
open Go.ChangeShapes Go.WideShapes Go.ChangeAt Go.RowKit
set_option linter.unusedVariables false
set_option linter.unusedSimpArgs false

/-! what the program's inOrder says at each level: as the document, and no component is too long for any message -/
def compI (c : ByteArray) : Bool := decide (c.size ≤ 40000) && plainB c
def repI (r : Rep) : Bool := csB 20 ByteArray.size r && r.all compI
def fieldI (f : Field) : Bool := csB 30 List.length f && f.all repI
def segI (s : Seg) : Bool := nameB s.name && (csB 30 List.length s.fields && s.fields.all fieldI)

set_option maxHeartbeats 1000000 in
theorem repIn_any (x : Rep) (v : Value) (w : World) {lo : Nat} (hv : StrsAt lo w v x) :
    Calls Tryd.prog 59 #[.agg #[v]] w fun e w' => e = .returned (.bool (repI x)) ∧ Below w.heap.size w w' := by
  have hl := hv.1
  have hb := (Below.refl w.heap.size w).alloc (Nat.le_refl _) (Obj.cells #[v] 50)
  have hv1 := At.kept kept_str hv hb
  obtain ⟨a, cap, rfl, hc⟩ := hv1.form
  have HC := hide hc
  clear hc
  have HR : Hid (repI x = (csB 20 ByteArray.size x && x.all compI)) := rfl
  cases hcs : csB 20 ByteArray.size x
  · have HX : Hid (repI x = false) := by rw [HR.out, hcs]; rfl
    have HS := hide hcs
    clear hcs
    go_enter Tryd.func59, Tryd.ntmps59
    go_wp2_with fail
    refine (cutShortS_any x 20 _ _ hv1 (by omega)).mono ?_
    rintro e w' ⟨rfl, rfl⟩
    rw [HS.out]
    go_wp2_with fail
    go_ret
    exact ⟨ret_bool HX.out.symm, hb⟩
  · have HX : Hid (repI x = x.all compI) := by rw [HR.out, hcs]; rfl
    have HS := hide hcs
    clear hcs
    go_enter Tryd.func59, Tryd.ntmps59
    go_wp2_with fail
    refine (cutShortS_any x 20 _ _ hv1 (by omega)).mono ?_
    rintro e w' ⟨rfl, rfl⟩
    rw [HS.out]
    clear hv1 hv
    go_wp2_with fail
    go_loop [12] (fun i => ∃ k : Nat, k ≤ x.length ∧ i = .int .i64 k ∧ (x.take k).all compI = true) (fun i => x.length - (intOf i).toNat)
    case atStart => exact ⟨0, Nat.zero_le _, rfl, rfl⟩
    case round =>
      obtain ⟨k, hk, rfl, hall⟩ := hrel
      have HA := hide hall
      clear hall
      by_cases hlt : k < x.length
      · obtain ⟨b, off, rfl, _, _, hr⟩ := HC.out k hlt
        have hcell : (w.alloc (Obj.cells #[.slice (some ⟨b, off, none⟩) x.length cap] 50)).cell? ⟨b, off + k, none⟩ = some (.string x[k]) := by simpa using hr.1
        have hsz := hr.2
        clear hr
        have HK : Hid (compI x[k] = (decide (x[k].size ≤ 40000) && plainB x[k])) := rfl
        by_cases hlong : (40000 : Int) < (x[k].size : Int)
        · have HF := hide (all_fail (p := compI) hlt (by rw [HK.out, decide_eq_false (by omega)]; rfl))
          go_wp2_with fail
          go_ret
          exact ⟨ret_bool (by rw [HX.out, HF.out]), hb⟩
        · have HK2 : Hid (compI x[k] = plainB x[k]) := by rw [HK.out, decide_eq_true (by omega)]; rfl
          go_wp2_with fail
          refine (isPlain_any x[k] _ hsz).mono ?_
          rintro e w' ⟨rfl, rfl⟩
          cases hp : plainB x[k]
          · have HF := hide (all_fail (p := compI) hlt (by rw [HK2.out]; exact hp))
            clear hp
            go_wp2_with fail
            go_ret
            exact ⟨ret_bool (by rw [HX.out, HF.out]), hb⟩
          · have HF := hide (all_step (p := compI) hlt HA.out (by rw [HK2.out]; exact hp))
            clear hp
            go_wp2_with fail
            go_round
            case rel => exact ⟨k + 1, by omega, by go_num, HF.out⟩
            case measure => simp [intOf]; omega
      · have HF := hide (all_done (by omega) HA.out)
        go_wp2_with fail
        go_ret
        exact ⟨ret_bool (by rw [HX.out, HF.out]), hb⟩

set_option maxHeartbeats 1000000 in
theorem fieldIn_any (x : Field) (v : Value) (w : World) {lo : Nat} (hv : RepsAt lo w v x) :
    Calls Tryd.prog 43 #[.agg #[v]] w fun e w' => e = .returned (.bool (fieldI x)) ∧ Below w.heap.size w w' := by
  have hl := hv.1
  have hb := (Below.refl w.heap.size w).alloc (Nat.le_refl _) (Obj.cells #[v] 47)
  have hbox : (w.alloc (Obj.cells #[v] 47)).cell? ⟨w.heap.size, 0, none⟩ = some v := by simp
  have hv1 := At.kept kept_rep hv hb
  have HR : Hid (fieldI x = (csB 30 List.length x && x.all repI)) := rfl
  have HBX := hide hbox
  clear hbox hv
  cases hcs : csB 30 List.length x
  · have HX : Hid (fieldI x = false) := by rw [HR.out, hcs]; rfl
    have HS := hide hcs
    clear hcs
    go_enter Tryd.func43, Tryd.ntmps43
    go_wp2_with fail
    refine (cutShortR_any x 30 _ _ hv1 (by omega)).mono ?_
    rintro e w1 ⟨rfl, hb1⟩
    rw [HS.out]
    clear hv1
    go_wp2_with fail
    go_ret
    exact ⟨ret_bool HX.out.symm, bjoin hb1 hb⟩
  · have HX : Hid (fieldI x = x.all repI) := by rw [HR.out, hcs]; rfl
    have HS := hide hcs
    clear hcs
    go_enter Tryd.func43, Tryd.ntmps43
    go_wp2_with fail
    refine (cutShortR_any x 30 _ _ hv1 (by omega)).mono ?_
    rintro e w1 ⟨rfl, hb1⟩
    rw [HS.out]
    have hbox1 : w1.cell? ⟨w.heap.size, 0, none⟩ = some v := by rw [hb1.cell (p := ⟨w.heap.size, 0, none⟩) (by simp)]; exact HBX.out
    have hv2 := At.kept kept_rep hv1 hb1
    have hb2 := bjoin hb1 hb
    clear hv1 hb1 HBX hb
    obtain ⟨a, cap, rfl, hc⟩ := hv2.form
    have HC := hide hc
    clear hc hv2
    go_wp2_with fail
    clear hbox1
    go_loopw [12] (fun i wr => ∃ k : Nat, k ≤ x.length ∧ i = .int .i64 k ∧ (x.take k).all repI = true ∧ Below w1.heap.size w1 wr) (fun i _ => x.length - (intOf i).toNat)
    case atStart => exact ⟨0, Nat.zero_le _, rfl, rfl, Below.refl _ _⟩
    case round =>
      obtain ⟨k, hk, rfl, hall, hbr⟩ := hrel
      have HA := hide hall
      clear hall
      by_cases hlt : k < x.length
      · obtain ⟨b, off, rfl, _, hbl, ve, hcell, hel⟩ := HC.out k hlt
        obtain ⟨a5, cap5, rfl, _⟩ := hel.form
        have hcell' : wr.cell? ⟨b, off + k, none⟩ = some (.slice a5 x[k].length cap5) := by rw [hbr.cell (p := ⟨b, off + k, none⟩) hbl]; simpa using hcell
        have hbr2 := hbr.alloc hbr.size (Obj.cells #[.slice a5 x[k].length cap5] 50)
        have hel' := At.kept kept_str hel hbr2
        clear hcell hel
        go_wp2_with fail
        refine (repIn_any x[k] _ _ hel').mono ?_
        rintro e w2 ⟨rfl, hb3⟩
        have hb4 : Below w1.heap.size w1 w2 := bjoin hb3 hbr2
        clear hbr hbr2 hb3 hcell' hel'
        cases hp : repI x[k]
        · have HF := hide (all_fail hlt hp)
          clear hp
          go_wp2_with fail
          go_ret
          exact ⟨ret_bool (by rw [HX.out, HF.out]), bjoin hb4 hb2⟩
        · have HF := hide (all_step hlt HA.out hp)
          clear hp
          go_wp2_with fail
          go_roundw
          case rel => exact ⟨k + 1, by omega, by go_num, HF.out, hb4⟩
          case measure => simp [intOf]; omega
      · have HF := hide (all_done (by omega) HA.out)
        go_wp2_with fail
        go_ret
        exact ⟨ret_bool (by rw [HX.out, HF.out]), bjoin hbr hb2⟩
end Go.Proofs.YtcphfhfockjljaaDoor.Msg

namespace Go.Proofs.YtcphfhfockjljaaDoor.Msg
open Go.ChangeShapes Go.WideShapes Go.ChangeAt Go.RowKit
set_option linter.unusedVariables false
set_option linter.unusedSimpArgs false

set_option maxHeartbeats 1000000 in
theorem segIn_any (x : Seg) (v : Value) (w : World) (hns : x.name.size ≤ 9223372036854775807) {lo : Nat} (hv : FieldsAt lo w v x.fields) :
    Calls Tryd.prog 31 #[.agg #[.string x.name, v]] w fun e w' => e = .returned (.bool (segI x)) ∧ Below w.heap.size w w' := by
  have hl := hv.1
  have hb := (Below.refl w.heap.size w).alloc (Nat.le_refl _) (Obj.cells #[.string x.name, v] 44)
  have hbox : (w.alloc (Obj.cells #[.string x.name, v] 44)).cell? ⟨w.heap.size, 1, none⟩ = some v := by simp
  have hv1 := At.kept kept_field hv hb
  have HR : Hid (segI x = (nameB x.name && (csB 30 List.length x.fields && x.fields.all fieldI))) := rfl
  have HBX := hide hbox
  clear hbox hv
  cases hn : nameB x.name
  · have HX : Hid (segI x = false) := by rw [HR.out, hn]; rfl
    have HN := hide hn
    clear hn
    go_enter Tryd.func31, Tryd.ntmps31
    go_wp2_with fail
    refine (isSegmentName_any x.name _ hns).mono ?_
    rintro e w' ⟨rfl, rfl⟩
    rw [HN.out]
    go_wp2_with fail
    go_ret
    exact ⟨ret_bool HX.out.symm, hb⟩
  have HN := hide hn
  clear hn
  cases hcs : csB 30 List.length x.fields
  · have HX : Hid (segI x = false) := by rw [HR.out, hcs, Bool.false_and, Bool.and_false]; trivial
    have HS := hide hcs
    clear hcs
    go_enter Tryd.func31, Tryd.ntmps31
    go_wp2_with fail
    refine (isSegmentName_any x.name _ hns).mono ?_
    rintro e w' ⟨rfl, rfl⟩
    rw [HN.out]
    go_wp2_with fail
    refine (cutShortF_any x.fields 30 _ _ hv1 (by omega)).mono ?_
    rintro e w1 ⟨rfl, hb1⟩
    rw [HS.out]
    clear hv1
    go_wp2_with fail
    go_ret
    exact ⟨ret_bool HX.out.symm, bjoin hb1 hb⟩
  · have HX : Hid (segI x = x.fields.all fieldI) := by rw [HR.out, hcs, HN.out]; rfl
    have HS := hide hcs
    clear hcs
    go_enter Tryd.func31, Tryd.ntmps31
    go_wp2_with fail
    refine (isSegmentName_any x.name _ hns).mono ?_
    rintro e w' ⟨rfl, rfl⟩
    rw [HN.out]
    go_wp2_with fail
    refine (cutShortF_any x.fields 30 _ _ hv1 (by omega)).mono ?_
    rintro e w1 ⟨rfl, hb1⟩
    rw [HS.out]
    have hbox1 : w1.cell? ⟨w.heap.size, 1, none⟩ = some v := by rw [hb1.cell (p := ⟨w.heap.size, 1, none⟩) (by simp)]; exact HBX.out
    have hv2 := At.kept kept_field hv1 hb1
    have hb2 := bjoin hb1 hb
    clear hv1 hb1 HBX hb
    obtain ⟨a, cap, rfl, hc⟩ := hv2.form
    have HC := hide hc
    clear hc hv2
    go_wp2_with fail
    clear hbox1
    go_loopw [18] (fun i wr => ∃ k : Nat, k ≤ x.fields.length ∧ i = .int .i64 k ∧ (x.fields.take k).all fieldI = true ∧ Below w1.heap.size w1 wr) (fun i _ => x.fields.length - (intOf i).toNat)
    case atStart => exact ⟨0, Nat.zero_le _, rfl, rfl, Below.refl _ _⟩
    case round =>
      obtain ⟨k, hk, rfl, hall, hbr⟩ := hrel
      have HA := hide hall
      clear hall
      by_cases hlt : k < x.fields.length
      · obtain ⟨b, off, rfl, _, hbl, ve, hcell, hel⟩ := HC.out k hlt
        obtain ⟨a5, cap5, rfl, _⟩ := hel.form
        have hcell' : wr.cell? ⟨b, off + k, none⟩ = some (.slice a5 x.fields[k].length cap5) := by rw [hbr.cell (p := ⟨b, off + k, none⟩) hbl]; simpa using hcell
        have hbr2 := hbr.alloc hbr.size (Obj.cells #[.slice a5 x.fields[k].length cap5] 47)
        have hel' := At.kept kept_rep hel hbr2
        clear hcell hel
        go_wp2_with fail
        refine (fieldIn_any x.fields[k] _ _ hel').mono ?_
        rintro e w2 ⟨rfl, hb3⟩
        have hb4 : Below w1.heap.size w1 w2 := bjoin hb3 hbr2
        clear hbr hbr2 hb3 hcell' hel'
        cases hp : fieldI x.fields[k]
        · have HF := hide (all_fail hlt hp)
          clear hp
          go_wp2_with fail
          go_ret
          exact ⟨ret_bool (by rw [HX.out, HF.out]), bjoin hb4 hb2⟩
        · have HF := hide (all_step hlt HA.out hp)
          clear hp
          go_wp2_with fail
          go_roundw
          case rel => exact ⟨k + 1, by omega, by go_num, HF.out, hb4⟩
          case measure => simp [intOf]; omega
      · have HF := hide (all_done (by omega) HA.out)
        go_wp2_with fail
        go_ret
        exact ⟨ret_bool (by rw [HX.out, HF.out]), bjoin hbr hb2⟩
end Go.Proofs.YtcphfhfockjljaaDoor.Msg

namespace Go.Proofs.YtcphfhfockjljaaDoor.Msg
set_option linter.unusedVariables false
set_option linter.unusedSimpArgs false

def small (c : ByteArray) : Bool := decide (c.size ≤ 40000)
def repSmall (r : Rep) : Bool := r.all small
def fieldSmall (f : Field) : Bool := f.all repSmall
def segSmall (x : Seg) : Bool := x.fields.all fieldSmall

theorem all_and {α : Type} (p q r : α → Bool) (h : ∀ x, p x = (q x && r x)) : ∀ xs : List α, xs.all p = (xs.all q && xs.all r)
  | [] => rfl
  | x :: xs => by
    rw [List.all_cons, List.all_cons, List.all_cons, all_and p q r h xs, h x]
    cases q x <;> cases r x <;> cases xs.all q <;> rfl
theorem repI_eq (r : Rep) : repI r = (repB r && repSmall r) := by
  have h := all_and compI plainB small (fun c => by unfold compI small; exact Bool.and_comm _ _) r
  unfold repI repB repSmall csB
  rw [h]
  cases decide (r.length ≤ 20) <;> cases endB ByteArray.size r <;> rfl
theorem fieldI_eq (f : Field) : fieldI f = (fieldB f && fieldSmall f) := by
  have h := all_and repI repB repSmall repI_eq f
  unfold fieldI fieldB fieldSmall csB
  rw [h]
  cases decide (f.length ≤ 30) <;> cases endB List.length f <;> rfl
theorem segI_eq (x : Seg) (b : Bool) (hb : mshB x.name = b) : segI x = (segB b x && segSmall x) := by
  have h := all_and fieldI fieldB fieldSmall fieldI_eq x.fields
  unfold segI segB segSmall csB
  rw [h, hb]
  cases nameB x.name <;> cases decide (x.fields.length ≤ 30) <;> cases endB List.length x.fields <;> simp

theorem joined_ge {α : Type} (sep : UInt8) (f : α → List UInt8) (xs : List α) (x : α) (h : x ∈ xs) : (f x).length ≤ (joined sep f xs).length := by
  obtain ⟨k, hk, rfl⟩ := List.getElem_of_mem h
  have := joined_room sep f xs k hk
  omega
theorem fieldsW_ge (xs : List Field) (x : Field) (h : x ∈ xs) : (fieldW x).length ≤ (fieldsW xs).length := by
  obtain ⟨k, hk, rfl⟩ := List.getElem_of_mem h
  have := fieldsW_room xs k hk
  omega
theorem seg_long (x : Seg) (i : Nat) (h : segSmall x = false) : 40000 < (segW i x).length := by
  unfold segSmall at h
  rw [List.all_eq_false] at h
  obtain ⟨f, hf, h⟩ := h
  have h : fieldSmall f = false := by simpa using h
  unfold fieldSmall at h
  rw [List.all_eq_false] at h
  obtain ⟨r, hr, h⟩ := h
  have h : repSmall r = false := by simpa using h
  unfold repSmall at h
  rw [List.all_eq_false] at h
  obtain ⟨c, hc, h⟩ := h
  have h : small c = false := by simpa using h
  unfold small at h
  have h : ¬ c.size ≤ 40000 := of_decide_eq_false h
  have h1 := escs_ge c.data.toList
  have h2 : c.data.toList.length = c.size := by simp
  have h3 := joined_ge 94 (fun c : ByteArray => escs c.data.toList) r c hc
  have h4 := joined_ge 126 repW f r hr
  have h5 := fieldsW_ge x.fields f hf
  have h6 : (repW r).length = (joined 94 (fun c : ByteArray => escs c.data.toList) r).length := rfl
  have h7 : (fieldW f).length = (joined 126 repW f).length := rfl
  unfold segW
  simp only [List.length_append]
  omega
theorem segW_eq (x : Seg) (k : Nat) (h : mshB x.name = (k == 0)) : segWI x = segW k x := by
  unfold segWI segW dm
  rw [h]
  by_cases hk : k = 0
  · subst hk; rfl
  · rw [if_neg hk, if_neg (by simp [hk])]

/-- the segment in its place, as the program asks -/
def placeB (k : Nat) (x : Seg) : Bool := (mshB x.name == (k == 0)) && segI x
theorem placeB_eq (k : Nat) (x : Seg) : placeB k x = (segB (k == 0) x && segSmall x) := by
  unfold placeB
  by_cases h : mshB x.name = (k == 0)
  · rw [segI_eq x _ h, h, beq_self_eq_true, Bool.true_and]
  · have h1 : (mshB x.name == (k == 0)) = false := by rw [beq_eq_false_iff_ne]; exact h
    unfold segB
    rw [h1]
    simp
/-- the first k segments are in their places -/
def Places (xs : List Seg) (k : Nat) : Prop := ∀ j (h : j < xs.length), j < k → placeB j xs[j] = true
theorem Places.step {xs : List Seg} {k : Nat} (h : Places xs k) (hk : k < xs.length) (hp : placeB k xs[k] = true) : Places xs (k + 1) := fun j hj h2 => by
  by_cases e : j = k
  · subst e; exact hp
  · exact h j hj (by omega)
def msgWI (xs : List Seg) : List UInt8 := xs.flatMap segWI
theorem msgWI_snoc (xs : List Seg) (k : Nat) (h : k < xs.length) : msgWI (xs.take (k + 1)) = msgWI (xs.take k) ++ segWI xs[k] := by
  unfold msgWI
  rw [List.take_succ_eq_append_getElem h, List.flatMap_append]
  simp
theorem place_msh {k : Nat} {x : Seg} (h : placeB k x = true) : mshB x.name = (k == 0) := by
  unfold placeB at h
  rw [Bool.and_eq_true] at h
  exact beq_iff_eq.1 h.1
theorem msgWI_eq (xs : List Seg) : ∀ k, k ≤ xs.length → Places xs k → msgWI (xs.take k) = msgW (xs.take k)
  | 0, _, _ => by simp [msgWI, msgW]
  | k + 1, hk, hp => by
    rw [msgWI_snoc xs k (by omega), msgW_snoc xs k (by omega), msgWI_eq xs k (by omega) (fun j hj h2 => hp j hj (by omega)), segW_eq _ k (place_msh (hp k (by omega) (by omega)))]
theorem msgW_take_le (xs : List Seg) (k : Nat) : (msgW (xs.take k)).length ≤ (msgW xs).length := flat_take_le (fun p => segW p.2 p.1) xs k

theorem msgB_split (xs : List Seg) (h1 : 1 ≤ xs.length) (h2 : xs.length ≤ 250) : msgB xs = (xs.zipIdx.all segAt && decide ((msgW xs).length ≤ 40000)) := by
  unfold msgB shapeB
  rw [decide_eq_true h1, decide_eq_true h2]
  rfl
theorem msgB_bad (xs : List Seg) (k : Nat) (hk : k < xs.length) (hp : placeB k xs[k] = false) : msgB xs = false := by
  rw [placeB_eq, Bool.and_eq_false_iff] at hp
  unfold msgB
  rcases hp with hp | hp
  · have h := zall_fail hk hp
    unfold shapeB
    have h' : (xs.zipIdx.all fun p => segB (p.2 == 0) p.1) = false := h
    rw [h']
    simp
  · have h1 := seg_long xs[k] k hp
    have h2 := msgW_room xs k hk
    rw [decide_eq_false (p := (msgW xs).length ≤ 40000) (by omega), Bool.and_false]
theorem msgB_long (xs : List Seg) (k : Nat) (hk : k < xs.length) (hp : Places xs (k + 1)) (hl : 40000 < (msgWI (xs.take (k + 1))).length) : msgB xs = false := by
  rw [msgWI_eq xs (k + 1) (by omega) hp] at hl
  have := msgW_take_le xs (k + 1)
  unfold msgB
  rw [decide_eq_false (p := (msgW xs).length ≤ 40000) (by omega), Bool.and_false]
theorem msgB_good (xs : List Seg) (h1 : 1 ≤ xs.length) (h2 : xs.length ≤ 250) (hp : Places xs xs.length) (hl : (msgWI (xs.take xs.length)).length ≤ 40000) : msgB xs = true := by
  rw [msgWI_eq xs _ (Nat.le_refl _) hp, List.take_length] at hl
  rw [msgB_split xs h1 h2, decide_eq_true hl, Bool.and_true, List.all_eq_true]
  rintro ⟨x, k⟩ hm
  rw [List.mk_mem_zipIdx_iff_getElem?] at hm
  obtain ⟨hk, rfl⟩ := List.getElem?_eq_some_iff.1 hm
  have := hp k hk hk
  rw [placeB_eq, Bool.and_eq_true] at this
  exact this.1
theorem msgB_places (xs : List Seg) (h : msgB xs = true) : Places xs xs.length := fun j hj _ => by
  cases hp : placeB j xs[j]
  · rw [msgB_bad xs j hj hp] at h; cases h
  · rfl
theorem msgB_size (xs : List Seg) (h : msgB xs = true) : msgWI xs = msgW xs ∧ (msgW xs).length ≤ 40000 := by
  have h1 := msgWI_eq xs xs.length (Nat.le_refl _) (msgB_places xs h)
  rw [List.take_length] at h1
  refine ⟨h1, ?_⟩
  unfold msgB at h
  rw [Bool.and_eq_true] at h
  exact of_decide_eq_true h.2
theorem msgB_none (xs : List Seg) (h : xs.length = 0) : msgB xs = false := by
  unfold msgB shapeB
  rw [decide_eq_false (p := 1 ≤ xs.length) (by omega)]
  rfl
theorem msgB_many (xs : List Seg) (h : 250 < xs.length) : msgB xs = false := by
  unfold msgB shapeB
  rw [decide_eq_false (p := xs.length ≤ 250) (by omega)]
  simp
theorem segWI_le (x : Seg) : (segWI x).length ≤ 6 + 3 * segSz x := by
  have h := fieldsW_le x.fields
  have h2 : x.name.data.toList.length = x.name.size := by simp
  unfold segWI segSz dm
  simp only [List.length_append]
  split <;> simp <;> omega
end Go.Proofs.YtcphfhfockjljaaDoor.Msg
