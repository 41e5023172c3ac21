import Derived.Test.YtcphfhfockjljaaGreatDoorImplRepWwithImplFieldWwithBufStr
import Derived.Test.YtcphfhfockjljaaGreatDoorMsgOkwithParseByteswithParsePlain
import Derived.Test.YtcphfhfockjljaaGreatDoorImplCswithImplShortwithImplShort2
namespace Go.Proofs.YtcphfhfockjljaaGreatDoor.Msg
open Go.ChangeShapes Go.WideShapes Go.ChangeAt Go.RowKit
set_option linter.unusedVariables false
set_option linter.unusedSimpArgs false

/-- the delimiters, behind the name MSH -/
def dm (b : Bool) : List UInt8 := if b = true then [124, 94, 126, 92, 38] else []
/-- a segment as the program writes it: the delimiters go by the name -/
def segWI (x : Seg) : List UInt8 := x.name.data.toList ++ dm (mshB x.name) ++ fieldsW x.fields ++ [13]
theorem fieldsW_take_le (xs : List Field) (k : Nat) : (fieldsW (xs.take k)).length ≤ (fieldsW xs).length := by
  unfold fieldsW
  conv => rhs; rw [← List.take_append_drop k xs]
  rw [List.flatMap_append, List.length_append]
  omega

set_option maxRecDepth 100000 in
set_option maxHeartbeats 2000000 in
theorem segWrite_any (base : Nat) (bs : List UInt8) (x : Seg) (vx v : Value) (w0 w : World) (hb0 : w0.heap.size ≤ base) (hbel : Below base w0 w) {lo : Nat} (hx : FieldsAt lo w0 vx x.fields)
    (hown : Buf base w v bs) (hbase : base ≤ w.heap.size) (hl : bs.length + 3 * segSz x ≤ 1099511627776) :
    Calls Tryz.prog 36 #[.agg #[.string x.name, vx], v] w fun e w' => ∃ u R, e = .returned u ∧ Wr bs (segWI x) R ∧ Buf base w' u R ∧ Grew w v w' u := by
  obtain ⟨i0, hi, hz0, hz1, hz2⟩ := u8_facts
  have hlx := hx.1
  obtain ⟨a, cap, rfl, hc⟩ := hx.form
  have HC := hide hc
  have hop := hown.own
  have hne := hown.lt (Nat.le_refl w.heap.size)
  clear hc hx
  have h124 : ((({ data := #[124, 94, 126, 92, 38] } : ByteArray)[0].toNat : Nat) : Int) = 124 := rfl
  have HM : Hid (mshB x.name = (x.name.toList == [77, 83, 72])) := rfl
  have hfl := fieldsW_le x.fields
  have hsz : segSz x = x.name.size + lenSum fieldSz x.fields := rfl
  have hnl : x.name.data.toList.length = x.name.size := by simp
  have FR : Hid (∀ wX vX, Grew (w.alloc (.cells #[.string x.name, .slice a x.fields.length cap] 41)) v wX vX →
      Below base w0 wX ∧ wX.cell? ⟨w.heap.size, 1, none⟩ = some (.slice a x.fields.length cap) ∧ base ≤ wX.heap.size ∧ wX.cell? ⟨w.heap.size, 0, none⟩ = some (.string x.name) ∧ Grew w v wX vX) := fun wX vX hg => by
    refine ⟨(hbel.alloc hbase _).trans (hg.below hop (by simp; omega)), ?_, ?_, ?_, ((Grew.refl w v).alloc _).trans hg⟩
    · rw [World.cell?_of_block (hg.block (b := w.heap.size) (by simp) hne)]; simp
    · have := hg.1.size; simp at this; omega
    · rw [World.cell?_of_block (hg.block (b := w.heap.size) (by simp) hne)]; simp
  have hown1 := hown.alloc (.cells #[.string x.name, .slice a x.fields.length cap] 41)
  have hgr0 : Grew (w.alloc (.cells #[.string x.name, .slice a x.fields.length cap] 41)) v (w.alloc (.cells #[.string x.name, .slice a x.fields.length cap] 41)) v := Grew.refl _ _
  have hnm : bs.length + x.name.size ≤ 1099511627776 := by omega
  obtain ⟨bm, hbm⟩ : ∃ b, (x.name.toList == [77, 83, 72]) = b := ⟨_, rfl⟩
  have HMB : Hid (mshB x.name = bm) := by rw [HM.out, hbm]; trivial
  go_enter Tryz.func36, Tryz.ntmps36
  go_upto_if 13 with (first
    | (at_builtin; refine wpList_str _ rfl _ _ 22 9 rfl base 5 i0 Tryz.underlying22 Tryz.underlying9 hi hz0 hz1 hz2 _ _ _ rfl hown1 x.name rfl ?c3 ?c4 ?c5 ?_)
    | fail)
  case c3 => unfold maxLen; omega
  case c4 => omega
  case c5 => simp; omega
  intro v1 w1 hown' hgrow hat
  have RR := Buf.text (bs := bs) x.name hgr0 rfl hown' hgrow (by simpa using hat)
  clear hown' hgrow hat hown1 hgr0
  obtain ⟨hR1, hR2⟩ := RR
  obtain ⟨_, _, hz1', hbn, _⟩ := FR.out _ _ hR2
  go_upto_if 13 with fail
  go_cut [1] (fun s1 wx => Buf base wx s1 (bs ++ x.name.data.toList ++ dm (mshB x.name)) ∧ Grew (w.alloc (.cells #[.string x.name, .slice a x.fields.length cap] 41)) v wx s1)
  case first =>
    cases bm
    · clear hbm
      go_wp2_with fail
      go_meet
      case rel => exact ⟨by rw [HMB.out]; simpa [dm] using hR1, hR2⟩
    · clear hbm
      go_wp2_with (first
        | (at_builtin; refine wpList_str _ rfl _ _ 22 9 rfl base 5 i0 Tryz.underlying22 Tryz.underlying9 hi hz0 hz1 hz2 _ _ _ rfl hR1 ⟨#[124, 94, 126, 92, 38]⟩ rfl ?c3 ?c4 ?c5 ?_)
        | fail)
      case c3 => have : (⟨#[124, 94, 126, 92, 38]⟩ : ByteArray).size = 5 := rfl; rw [List.length_append]; unfold maxLen; omega
      case c4 => have : (⟨#[124, 94, 126, 92, 38]⟩ : ByteArray).size = 5 := rfl; rw [List.length_append]; omega
      case c5 => exact hz1'
      intro v2 w2 hown' hgrow hat
      have RR := Buf.text (bs := bs ++ x.name.data.toList) ⟨#[124, 94, 126, 92, 38]⟩ hR2 (n := bs.length + x.name.size) (by simp) hown' hgrow hat
      clear hown' hgrow hat
      obtain ⟨hR3, hR4⟩ := RR
      go_wp2_with fail
      go_meet
      case rel => exact ⟨by rw [HMB.out]; simpa [dm] using hR3, hR4⟩
  case rest =>
    clear hbm
    clear hR1 hR2 hz1' hbn
    obtain ⟨hbuf0, hg0⟩ := hcut
    obtain ⟨Wc, rfl⟩ : ∃ x, x = wc := ⟨_, rfl⟩
    obtain ⟨_, hbx, _, _, _⟩ := FR.out _ _ hg0
    have hPl : (bs ++ x.name.data.toList ++ dm (mshB x.name)).length ≤ bs.length + x.name.size + 5 := by
      rw [List.length_append, List.length_append]
      unfold dm
      split <;> simp
    have HP : Hid (bs ++ segWI x = bs ++ x.name.data.toList ++ dm (mshB x.name) ++ (fieldsW x.fields ++ [13])) := by unfold segWI; simp only [List.append_assoc]; trivial
    generalize bs ++ x.name.data.toList ++ dm (mshB x.name) = P at *
    go_wp2_with fail
    clear hbx
    go_loopg [1, 19] x.fields.length (fun n v1 i wr => ∃ (k : Nat) (R : List UInt8), k ≤ x.fields.length ∧ n = x.fields.length - k ∧ i = .int .i64 k ∧ Wr P (fieldsW (x.fields.take k)) R ∧ Buf base wr v1 R ∧ Grew (w.alloc (.cells #[.string x.name, .slice a x.fields.length cap] 41)) v wr v1)
    case atStart => exact ⟨0, P, Nat.zero_le _, by simp, rfl, by simpa [fieldsW] using Wr.nil P, hbuf0, hg0⟩
    case round =>
      clear hbuf0 hg0
      obtain ⟨k, R, hk, rfl, rfl, hW, hbuf, hg⟩ := hrel
      obtain ⟨W1, rfl⟩ : ∃ x, x = wr := ⟨_, rfl⟩
      have HW := hide hW
      have hRl := hW.len (fieldsW_take_le x.fields k)
      clear hW
      obtain ⟨hb1, _, hz, _, _⟩ := FR.out _ _ hg
      by_cases hlt : k < x.fields.length
      · obtain ⟨b, off, rfl, _, hbl, ve, hc0, hel⟩ := HC.out k hlt
        obtain ⟨a5, cap5, rfl, _⟩ := hel.form
        have hcell : W1.cell? ⟨b, off + k, none⟩ = some (.slice a5 x.fields[k].length cap5) := by rw [hb1.cell (p := ⟨b, off + k, none⟩) (by show b < base; omega)]; simpa using hc0
        have HS := hide (fieldsW_snoc x.fields k hlt)
        have HSZ : Hid (R.length + 3 * fieldSz x.fields[k] + 1 ≤ 4398046511104) := by
          have h2 := at_le fieldSz x.fields k hlt
          unfold lenSum at hsz hfl
          show R.length + 3 * fieldSz x.fields[k] + 1 ≤ 4398046511104
          omega
        have hRm : R.length + 1 ≤ 4398046511104 := by have := HSZ.out; omega
        clear hc0
        have hne1 := hbuf.lt (Nat.le_refl W1.heap.size)
        have hbuf1 := hbuf.alloc (.cells #[.slice a5 x.fields[k].length cap5] 49)
        have hg1 := hg.alloc (.cells #[.slice a5 x.fields[k].length cap5] 49)
        clear hbuf hg
        go_wp2_with (first
          | (at_builtin; refine wpList_append_own_at _ rfl _ _ 22 rfl base 5 i0 (.int .u8 0) 1 1 Tryz.underlying22 hi hz0 hz1 hz2 rfl (by decide) _ _ _ rfl (World.ownsRow.alloc hbuf1 _) ⟨W1.heap.size + 1, 0, none⟩ 1 1 [.int .u8 124] rfl rfl ?c1 ?c2 ?c3 ?c4 ?c5 ?_)
          | fail)
        case c1 => have := new_cell (W1.alloc (.cells #[.slice a5 x.fields[k].length cap5] 49)) (.int .u8 124) 5; simpa using this
        case c2 => exact one_u8 _
        case c3 => unfold maxLen; omega
        case c4 => omega
        case c5 => simp; omega
        intro v' w' hown' hgrow hnil hat
        have RR := Buf.snocC (bs := R) 124 124 (by decide) _ hg1 (by first | rfl | simp | (simp; omega)) hown' hgrow (by simpa using hat)
        have hbox : w'.cell? ⟨W1.heap.size, 0, none⟩ = some (.slice a5 x.fields[k].length cap5) := by
          rw [World.cell?_of_block (hgrow.block W1.heap.size (by simp; omega) (fun e => hne1 e.symm)), World.cell?_of_block (Deep.blk_alloc_lt _ _ _ (by simp))]; simp
        clear hown' hgrow hnil hat
        obtain ⟨hR1, hR2⟩ := RR
        obtain ⟨hB, _, hz2', _, _⟩ := FR.out _ _ hR2
        have HB := hide hB
        clear hB
        go_wp2_with fail
        refine (fieldWrite_any base (R ++ [124]) x.fields[k] _ _ w0 _ hb0 HB.out hel hR1 hz2' (by have := HSZ.out; simp; omega)).mono ?_
        rintro e w2 ⟨u, R2, rfl, hW2, hu, hg2⟩
        have HW2 := hide hW2
        clear hW2
        go_wp2_with fail
        go_roundg (x.fields.length - (k + 1))
        case rel => exact ⟨k + 1, R2, by omega, rfl, by go_num, by rw [HS.out]; exact HW.out.trans ((Wr.full R [124]).trans HW2.out), hu, hR2.trans hg2⟩
        case measure => omega
      · have HW2 : Hid (Wr bs (segWI x) (R ++ [13])) := by
          have h1 := HW.out
          rw [List.take_of_length_le (by omega)] at h1
          have h2 := h1.trans (Wr.full R [13])
          unfold Wr at h2 ⊢
          rw [HP.out]
          exact h2
        have hRm : R.length + 1 ≤ 4398046511104 := by unfold lenSum at hsz hfl; omega
        have hne1 := hbuf.lt (Nat.le_refl W1.heap.size)
        go_wp2_with (first
          | (at_builtin; refine wpList_append_own_at _ rfl _ _ 22 rfl base 5 i0 (.int .u8 0) 1 1 Tryz.underlying22 hi hz0 hz1 hz2 rfl (by decide) _ _ _ rfl (World.ownsRow.alloc hbuf _) ⟨W1.heap.size, 0, none⟩ 1 1 [.int .u8 13] rfl rfl ?c1 ?c2 ?c3 ?c4 ?c5 ?_)
          | fail)
        case c1 => exact new_cell _ _ _
        case c2 => exact one_u8 _
        case c3 => unfold maxLen; omega
        case c4 => omega
        case c5 => simp; omega
        intro v' w' hown' hgrow hnil hat
        have RR := Buf.snocC (bs := R) 13 13 (by decide) _ hg (by first | rfl | simp | (simp; omega)) hown' hgrow hat
        clear hown' hgrow hnil hat
        obtain ⟨hR1, hR2⟩ := RR
        obtain ⟨_, _, _, _, hgw⟩ := FR.out _ _ hR2
        go_wp2_with fail
        go_ret
        exact ⟨_, _, rfl, HW2.out, hR1, hgw⟩
end Go.Proofs.YtcphfhfockjljaaGreatDoor.Msg

namespace Go.Proofs.YtcphfhfockjljaaGreatDoor.Msg
open Go.ChangeShapes Go.WideShapes Go.ChangeAt Go.RowKit
set_option linter.unusedVariables false
set_option linter.unusedSimpArgs false

/-! what the program's inOrder says at each level: as the document, and no component is too long for any message -/
def compI (c : ByteArray) : Bool := decide (c.size ≤ 40000) && plainB c
def repI (r : Rep) : Bool := csB 20 ByteArray.size r && r.all compI
def fieldI (f : Field) : Bool := csB 30 List.length f && f.all repI
def segI (s : Seg) : Bool := nameB s.name && (csB 30 List.length s.fields && s.fields.all fieldI)

set_option maxHeartbeats 1000000 in
theorem repIn_any (x : Rep) (v : Value) (w : World) {lo : Nat} (hv : StrsAt lo w v x) :
    Calls Tryz.prog 79 #[.agg #[v]] w fun e w' => e = .returned (.bool (repI x)) ∧ Below w.heap.size w w' := by
  have hl := hv.1
  have hb := (Below.refl w.heap.size w).alloc (Nat.le_refl _) (Obj.cells #[v] 51)
  have hv1 := At.kept kept_str hv hb
  obtain ⟨a, cap, rfl, hc⟩ := hv1.form
  have HC := hide hc
  clear hc
  have HR : Hid (repI x = (csB 20 ByteArray.size x && x.all compI)) := rfl
  cases hcs : csB 20 ByteArray.size x
  · have HX : Hid (repI x = false) := by rw [HR.out, hcs]; rfl
    have HS := hide hcs
    clear hcs
    go_enter Tryz.func79, Tryz.ntmps79
    go_wp2_with fail
    refine (cutShortS_any x 20 _ _ hv1 (by omega)).mono ?_
    rintro e w' ⟨rfl, rfl⟩
    rw [HS.out]
    go_wp2_with fail
    go_ret
    exact ⟨ret_bool HX.out.symm, hb⟩
  · have HX : Hid (repI x = x.all compI) := by rw [HR.out, hcs]; rfl
    have HS := hide hcs
    clear hcs
    go_enter Tryz.func79, Tryz.ntmps79
    go_wp2_with fail
    refine (cutShortS_any x 20 _ _ hv1 (by omega)).mono ?_
    rintro e w' ⟨rfl, rfl⟩
    rw [HS.out]
    clear hv1 hv
    go_wp2_with fail
    go_loop [12] (fun i => ∃ k : Nat, k ≤ x.length ∧ i = .int .i64 k ∧ (x.take k).all compI = true) (fun i => x.length - (intOf i).toNat)
    case atStart => exact ⟨0, Nat.zero_le _, rfl, rfl⟩
    case round =>
      obtain ⟨k, hk, rfl, hall⟩ := hrel
      have HA := hide hall
      clear hall
      by_cases hlt : k < x.length
      · obtain ⟨b, off, rfl, _, _, hr⟩ := HC.out k hlt
        have hcell : (w.alloc (Obj.cells #[.slice (some ⟨b, off, none⟩) x.length cap] 51)).cell? ⟨b, off + k, none⟩ = some (.string x[k]) := by simpa using hr.1
        have hsz := hr.2
        clear hr
        have HK : Hid (compI x[k] = (decide (x[k].size ≤ 40000) && plainB x[k])) := rfl
        by_cases hlong : (40000 : Int) < (x[k].size : Int)
        · have HF := hide (all_fail (p := compI) hlt (by rw [HK.out, decide_eq_false (by omega)]; rfl))
          go_wp2_with fail
          go_ret
          exact ⟨ret_bool (by rw [HX.out, HF.out]), hb⟩
        · have HK2 : Hid (compI x[k] = plainB x[k]) := by rw [HK.out, decide_eq_true (by omega)]; rfl
          go_wp2_with fail
          refine (isPlain_any x[k] _ hsz).mono ?_
          rintro e w' ⟨rfl, rfl⟩
          cases hp : plainB x[k]
          · have HF := hide (all_fail (p := compI) hlt (by rw [HK2.out]; exact hp))
            clear hp
            go_wp2_with fail
            go_ret
            exact ⟨ret_bool (by rw [HX.out, HF.out]), hb⟩
          · have HF := hide (all_step (p := compI) hlt HA.out (by rw [HK2.out]; exact hp))
            clear hp
            go_wp2_with fail
            go_round
            case rel => exact ⟨k + 1, by omega, by go_num, HF.out⟩
            case measure => simp [intOf]; omega
      · have HF := hide (all_done (by omega) HA.out)
        go_wp2_with fail
        go_ret
        exact ⟨ret_bool (by rw [HX.out, HF.out]), hb⟩

set_option maxHeartbeats 1000000 in
theorem fieldIn_any (x : Field) (v : Value) (w : World) {lo : Nat} (hv : RepsAt lo w v x) :
    Calls Tryz.prog 63 #[.agg #[v]] w fun e w' => e = .returned (.bool (fieldI x)) ∧ Below w.heap.size w w' := by
  have hl := hv.1
  have hb := (Below.refl w.heap.size w).alloc (Nat.le_refl _) (Obj.cells #[v] 49)
  have hbox : (w.alloc (Obj.cells #[v] 49)).cell? ⟨w.heap.size, 0, none⟩ = some v := by simp
  have hv1 := At.kept kept_rep hv hb
  have HR : Hid (fieldI x = (csB 30 List.length x && x.all repI)) := rfl
  have HBX := hide hbox
  clear hbox hv
  cases hcs : csB 30 List.length x
  · have HX : Hid (fieldI x = false) := by rw [HR.out, hcs]; rfl
    have HS := hide hcs
    clear hcs
    go_enter Tryz.func63, Tryz.ntmps63
    go_wp2_with fail
    refine (cutShortR_any x 30 _ _ hv1 (by omega)).mono ?_
    rintro e w1 ⟨rfl, hb1⟩
    rw [HS.out]
    clear hv1
    go_wp2_with fail
    go_ret
    exact ⟨ret_bool HX.out.symm, bjoin hb1 hb⟩
  · have HX : Hid (fieldI x = x.all repI) := by rw [HR.out, hcs]; rfl
    have HS := hide hcs
    clear hcs
    go_enter Tryz.func63, Tryz.ntmps63
    go_wp2_with fail
    refine (cutShortR_any x 30 _ _ hv1 (by omega)).mono ?_
    rintro e w1 ⟨rfl, hb1⟩
    rw [HS.out]
    have hbox1 : w1.cell? ⟨w.heap.size, 0, none⟩ = some v := by rw [hb1.cell (p := ⟨w.heap.size, 0, none⟩) (by simp)]; exact HBX.out
    have hv2 := At.kept kept_rep hv1 hb1
    have hb2 := bjoin hb1 hb
    clear hv1 hb1 HBX hb
    obtain ⟨a, cap, rfl, hc⟩ := hv2.form
    have HC := hide hc
    clear hc hv2
    go_wp2_with fail
    clear hbox1
    go_loopw [12] (fun i wr => ∃ k : Nat, k ≤ x.length ∧ i = .int .i64 k ∧ (x.take k).all repI = true ∧ Below w1.heap.size w1 wr) (fun i _ => x.length - (intOf i).toNat)
    case atStart => exact ⟨0, Nat.zero_le _, rfl, rfl, Below.refl _ _⟩
    case round =>
      obtain ⟨k, hk, rfl, hall, hbr⟩ := hrel
      have HA := hide hall
      clear hall
      by_cases hlt : k < x.length
      · obtain ⟨b, off, rfl, _, hbl, ve, hcell, hel⟩ := HC.out k hlt
        obtain ⟨a5, cap5, rfl, _⟩ := hel.form
        have hcell' : wr.cell? ⟨b, off + k, none⟩ = some (.slice a5 x[k].length cap5) := by rw [hbr.cell (p := ⟨b, off + k, none⟩) hbl]; simpa using hcell
        have hbr2 := hbr.alloc hbr.size (Obj.cells #[.slice a5 x[k].length cap5] 51)
        have hel' := At.kept kept_str hel hbr2
        clear hcell hel
        go_wp2_with fail
        refine (repIn_any x[k] _ _ hel').mono ?_
        rintro e w2 ⟨rfl, hb3⟩
        have hb4 : Below w1.heap.size w1 w2 := bjoin hb3 hbr2
        clear hbr hbr2 hb3 hcell' hel'
        cases hp : repI x[k]
        · have HF := hide (all_fail hlt hp)
          clear hp
          go_wp2_with fail
          go_ret
          exact ⟨ret_bool (by rw [HX.out, HF.out]), bjoin hb4 hb2⟩
        · have HF := hide (all_step hlt HA.out hp)
          clear hp
          go_wp2_with fail
          go_roundw
          case rel => exact ⟨k + 1, by omega, by go_num, HF.out, hb4⟩
          case measure => simp [intOf]; omega
      · have HF := hide (all_done (by omega) HA.out)
        go_wp2_with fail
        go_ret
        exact ⟨ret_bool (by rw [HX.out, HF.out]), bjoin hbr hb2⟩
end Go.Proofs.YtcphfhfockjljaaGreatDoor.Msg

namespace Go.Proofs.YtcphfhfockjljaaGreatDoor.Msg
open Go.ChangeShapes Go.WideShapes Go.ChangeAt Go.RowKit
set_option linter.unusedVariables false
set_option linter.unusedSimpArgs false

set_option maxHeartbeats 1000000 in
theorem segIn_any (x : Seg) (v : Value) (w : World) (hns : x.name.size ≤ 9223372036854775807) {lo : Nat} (hv : FieldsAt lo w v x.fields) :
    Calls Tryz.prog 35 #[.agg #[.string x.name, v]] w fun e w' => e = .returned (.bool (segI x)) ∧ Below w.heap.size w w' := by
  have hl := hv.1
  have hb := (Below.refl w.heap.size w).alloc (Nat.le_refl _) (Obj.cells #[.string x.name, v] 41)
  have hbox : (w.alloc (Obj.cells #[.string x.name, v] 41)).cell? ⟨w.heap.size, 1, none⟩ = some v := by simp
  have hv1 := At.kept kept_field hv hb
  have HR : Hid (segI x = (nameB x.name && (csB 30 List.length x.fields && x.fields.all fieldI))) := rfl
  have HBX := hide hbox
  clear hbox hv
  cases hn : nameB x.name
  · have HX : Hid (segI x = false) := by rw [HR.out, hn]; rfl
    have HN := hide hn
    clear hn
    go_enter Tryz.func35, Tryz.ntmps35
    go_wp2_with fail
    refine (isSegmentName_any x.name _ hns).mono ?_
    rintro e w' ⟨rfl, rfl⟩
    rw [HN.out]
    go_wp2_with fail
    go_ret
    exact ⟨ret_bool HX.out.symm, hb⟩
  have HN := hide hn
  clear hn
  cases hcs : csB 30 List.length x.fields
  · have HX : Hid (segI x = false) := by rw [HR.out, hcs, Bool.false_and, Bool.and_false]; trivial
    have HS := hide hcs
    clear hcs
    go_enter Tryz.func35, Tryz.ntmps35
    go_wp2_with fail
    refine (isSegmentName_any x.name _ hns).mono ?_
    rintro e w' ⟨rfl, rfl⟩
    rw [HN.out]
    go_wp2_with fail
    refine (cutShortF_any x.fields 30 _ _ hv1 (by omega)).mono ?_
    rintro e w1 ⟨rfl, hb1⟩
    rw [HS.out]
    clear hv1
    go_wp2_with fail
    go_ret
    exact ⟨ret_bool HX.out.symm, bjoin hb1 hb⟩
  · have HX : Hid (segI x = x.fields.all fieldI) := by rw [HR.out, hcs, HN.out]; rfl
    have HS := hide hcs
    clear hcs
    go_enter Tryz.func35, Tryz.ntmps35
    go_wp2_with fail
    refine (isSegmentName_any x.name _ hns).mono ?_
    rintro e w' ⟨rfl, rfl⟩
    rw [HN.out]
    go_wp2_with fail
    refine (cutShortF_any x.fields 30 _ _ hv1 (by omega)).mono ?_
    rintro e w1 ⟨rfl, hb1⟩
    rw [HS.out]
    have hbox1 : w1.cell? ⟨w.heap.size, 1, none⟩ = some v := by rw [hb1.cell (p := ⟨w.heap.size, 1, none⟩) (by simp)]; exact HBX.out
    have hv2 := At.kept kept_field hv1 hb1
    have hb2 := bjoin hb1 hb
    clear hv1 hb1 HBX hb
    obtain ⟨a, cap, rfl, hc⟩ := hv2.form
    have HC := hide hc
    clear hc hv2
    go_wp2_with fail
    clear hbox1
    go_loopw [18] (fun i wr => ∃ k : Nat, k ≤ x.fields.length ∧ i = .int .i64 k ∧ (x.fields.take k).all fieldI = true ∧ Below w1.heap.size w1 wr) (fun i _ => x.fields.length - (intOf i).toNat)
    case atStart => exact ⟨0, Nat.zero_le _, rfl, rfl, Below.refl _ _⟩
    case round =>
      obtain ⟨k, hk, rfl, hall, hbr⟩ := hrel
      have HA := hide hall
      clear hall
      by_cases hlt : k < x.fields.length
      · obtain ⟨b, off, rfl, _, hbl, ve, hcell, hel⟩ := HC.out k hlt
        obtain ⟨a5, cap5, rfl, _⟩ := hel.form
        have hcell' : wr.cell? ⟨b, off + k, none⟩ = some (.slice a5 x.fields[k].length cap5) := by rw [hbr.cell (p := ⟨b, off + k, none⟩) hbl]; simpa using hcell
        have hbr2 := hbr.alloc hbr.size (Obj.cells #[.slice a5 x.fields[k].length cap5] 49)
        have hel' := At.kept kept_rep hel hbr2
        clear hcell hel
        go_wp2_with fail
        refine (fieldIn_any x.fields[k] _ _ hel').mono ?_
        rintro e w2 ⟨rfl, hb3⟩
        have hb4 : Below w1.heap.size w1 w2 := bjoin hb3 hbr2
        clear hbr hbr2 hb3 hcell' hel'
        cases hp : fieldI x.fields[k]
        · have HF := hide (all_fail hlt hp)
          clear hp
          go_wp2_with fail
          go_ret
          exact ⟨ret_bool (by rw [HX.out, HF.out]), bjoin hb4 hb2⟩
        · have HF := hide (all_step hlt HA.out hp)
          clear hp
          go_wp2_with fail
          go_roundw
          case rel => exact ⟨k + 1, by omega, by go_num, HF.out, hb4⟩
          case measure => simp [intOf]; omega
      · have HF := hide (all_done (by omega) HA.out)
        go_wp2_with fail
        go_ret
        exact ⟨ret_bool (by rw [HX.out, HF.out]), bjoin hbr hb2⟩
end Go.Proofs.YtcphfhfockjljaaGreatDoor.Msg
