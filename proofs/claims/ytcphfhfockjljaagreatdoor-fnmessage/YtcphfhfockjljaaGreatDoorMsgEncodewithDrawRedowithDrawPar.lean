import Derived.Test.YtcphfhfockjljaaGreatDoorMsgOk3withMsgOk4withBufEsc
import Derived.Test.YtcphfhfockjljaaGreatDoorMsgWritten
import Derived.Test.YtcphfhfockjljaaGreatDoorMsgEqwithMsgEq2withMsgTo
import Derived.Test.YtcphfhfockjljaaGreatDoorDrawTextwithDrawBulkwithMsgOk2
import Derived.Deep.LoopGhost
import Derived.Test.YtcphfhfockjljaaGreatDoorDrawSizewithDrawEncwithDrawGt
namespace Go.Proofs.YtcphfhfockjljaaGreatDoor.Msg
open Go.ChangeShapes Go.WideShapes Go.ChangeAt Go.RowKit
set_option linter.unusedVariables false
set_option linter.unusedSimpArgs false

theorem cast_beq (k : Nat) : ((k : Int) == 0) = (k == 0) := by
  by_cases h : k = 0
  · subst h; rfl
  · rw [beq_eq_false_iff_ne.2 (by omega), beq_eq_false_iff_ne.2 h]

def segAt (p : Seg × Nat) : Bool := segB (p.2 == 0) p.1
theorem zall_step {xs : List Seg} {k : Nat} (h : k < xs.length) (h1 : (xs.take k).zipIdx.all segAt = true) (h2 : segB (k == 0) xs[k] = true) : (xs.take (k + 1)).zipIdx.all segAt = true := by
  rw [zip_snoc xs k h, List.all_append, h1]
  simp [segAt, h2]
theorem zall_fail {xs : List Seg} {k : Nat} (h : k < xs.length) (h2 : segB (k == 0) xs[k] = false) : xs.zipIdx.all segAt = false := by
  rw [List.all_eq_false]
  refine ⟨(xs[k], k), ?_, by simp [segAt, h2]⟩
  rw [List.mk_mem_zipIdx_iff_getElem?]
  simp [h]
theorem zall_done {xs : List Seg} {k : Nat} (h : xs.length ≤ k) (h1 : (xs.take k).zipIdx.all segAt = true) : xs.zipIdx.all segAt = true := by
  rwa [List.take_of_length_le h] at h1

set_option maxHeartbeats 1000000 in
theorem shape_any (xs : List Seg) (v : Value) (w : World) {lo : Nat} (hv : SegsAt lo w v xs) :
    Calls Tryz.prog 37 #[.agg #[v]] w fun e w' => e = .returned (.bool (shapeB xs)) ∧ Below w.heap.size w w' := by
  have hl := hv.1
  have hb := (Below.refl w.heap.size w).alloc (Nat.le_refl _) (Obj.cells #[v] 25)
  have hbox : (w.alloc (Obj.cells #[v] 25)).cell? ⟨w.heap.size, 0, none⟩ = some v := by simp
  obtain ⟨a, cap, rfl, hc⟩ := (At.kept kept_seg hv hb).form
  have HC := hide hc
  clear hc hv
  have HBX := hide hbox
  clear hbox
  have HR : Hid (shapeB xs = (decide (1 ≤ xs.length) && (decide (xs.length ≤ 250) && xs.zipIdx.all segAt))) := rfl
  by_cases h1 : (xs.length : Int) < 1
  · go_enter Tryz.func37, Tryz.ntmps37
    go_wp2_with fail
    go_ret
    exact ⟨ret_bool (by rw [HR.out, decide_eq_false (by omega)]; rfl), hb⟩
  · by_cases h2 : (250 : Int) < (xs.length : Int)
    · go_enter Tryz.func37, Tryz.ntmps37
      go_wp2_with fail
      go_ret
      exact ⟨ret_bool (by rw [HR.out, decide_eq_false (p := xs.length ≤ 250) (by omega), Bool.false_and, Bool.and_false]), hb⟩
    · have HX : Hid (shapeB xs = xs.zipIdx.all segAt) := by rw [HR.out, decide_eq_true (by omega), decide_eq_true (by omega)]; rfl
      go_enter Tryz.func37, Tryz.ntmps37
      go_wp2_with fail
      go_loopw [3] (fun i wr => ∃ k : Nat, k ≤ xs.length ∧ i = .int .i64 k ∧ (xs.take k).zipIdx.all segAt = true ∧ Below (w.heap.size + 1) (w.alloc (Obj.cells #[.slice a xs.length cap] 25)) wr) (fun i _ => xs.length - (intOf i).toNat)
      case atStart => exact ⟨0, Nat.zero_le _, rfl, rfl, Below.refl _ _⟩
      case round =>
        obtain ⟨k, hk, rfl, hall, hbr⟩ := hrel
        have HA := hide hall
        clear hall
        have hbw : Below w.heap.size w wr := hb.trans (hbr.mono (by omega))
        have hbox : wr.cell? ⟨w.heap.size, 0, none⟩ = some (.slice a xs.length cap) := by rw [hbr.cell (p := ⟨w.heap.size, 0, none⟩) (by simp)]; exact HBX.out
        have hbr' : Below (w.alloc (Obj.cells #[.slice a xs.length cap] 25)).heap.size (w.alloc (Obj.cells #[.slice a xs.length cap] 25)) wr := by simpa using hbr
        by_cases hlt : k < xs.length
        · obtain ⟨b, off, rfl, _, hbl', hc0, hns, ve, hcell, hel⟩ := HC.out k hlt
          have hcell0 : wr.cell? ⟨b, off + k * 2, none⟩ = some (.string xs[k].name) := by rw [hbr'.cell (p := ⟨b, off + k * 2, none⟩) hbl']; exact hc0
          have hcell1 : wr.cell? ⟨b, off + k * 2 + 1, none⟩ = some ve := by rw [hbr'.cell (p := ⟨b, off + k * 2 + 1, none⟩) hbl']; exact hcell
          have hel' := At.kept kept_field hel hbr'
          clear hcell hel hc0
          have HK := hide (cast_beq k)
          go_wp2_with fail
          rw [HK.out]
          refine (segOk_any xs[k] (k == 0) ve _ hns hel').mono ?_
          rintro e w2 ⟨rfl, hb2⟩
          have hb3 : Below (w.heap.size + 1) (w.alloc (Obj.cells #[.slice (some ⟨b, off, none⟩) xs.length cap] 25)) w2 := hbr.trans (hb2.mono (by have := hbr.size; simp at this; omega))
          clear hbr hbr' hb2 hcell0 hcell1 hel' hbox
          cases hp : segB (k == 0) xs[k]
          · have HF := hide (zall_fail hlt hp)
            clear hp
            go_wp2_with fail
            go_ret
            exact ⟨ret_bool (by rw [HX.out, HF.out]), hb.trans (hb3.mono (by omega))⟩
          · have HF := hide (zall_step hlt HA.out hp)
            clear hp
            go_wp2_with fail
            go_roundw
            case rel => exact ⟨k + 1, by omega, by go_num, HF.out, hb3⟩
            case measure => simp [intOf]; omega
        · have HF := hide (zall_done (by omega) HA.out)
          go_wp2_with fail
          go_ret
          exact ⟨ret_bool (by rw [HX.out, HF.out]), hbw⟩

/-- a slice of bytes, turned into a text -/
theorem buf_string {base : Nat} {w : World} {v : Value} {bs : List UInt8} (h : Buf base w v bs) : Sem.run Tryz.prog (convert 22 9 v) w = .ok (.string ⟨bs.toArray⟩) w := by
  obtain ⟨hlen, ⟨rfl, h0⟩ | ⟨g, cap, cur, rfl, hg, hs, hcap, hm, hsz, htk⟩⟩ := h
  · rw [run_convert_bytes_nil w 22 5 Tryz.underlying22 Tryz.underlying5 0 0 9 Tryz.underlying9]
    have : bs = [] := List.length_eq_zero_iff.1 h0
    subst this
    rfl
  · rw [run_convert_bytes_arg w 22 5 Tryz.underlying22 Tryz.underlying5 g 0 bs.length cap (bs.map fun c => (c.toNat : Int)) (by simp) ?_ 9 Tryz.underlying9]
    · congr 2
      unfold strOfNums
      congr 2
      rw [List.map_map]
      conv => rhs; rw [← List.map_id bs]
      apply List.map_congr_left
      intro c _
      simp
    · intro i hi
      have h2 : cur.toList[i]? = some (.int .u8 (bs[i].toNat : Int)) := by
        have h3 : (cur.toList.take (bs.length * 1))[i]? = some (.int .u8 (bs[i].toNat : Int)) := by rw [htk]; simp [u8s, hi]
        rw [List.getElem?_take] at h3
        rw [if_pos (by omega)] at h3
        exact h3
      simp only [World.cell?, hs, Nat.zero_add]
      rw [← Array.getElem?_toList, h2]
      simp [List.getD_eq_getElem?_getD, hi]

/-- a valid message, but for the sizes that go beyond int -/
def msgB (m : List Seg) : Bool := shapeB m && decide ((msgW m).length ≤ 40000)
def encoded (m : List Seg) : ByteArray := if msgB m = true then ⟨(msgW m).toArray⟩ else ⟨#[]⟩
theorem encoded_yes {m : List Seg} (h : msgB m = true) : encoded m = ⟨(msgW m).toArray⟩ := if_pos h
theorem encoded_no {m : List Seg} (h : msgB m = false) : encoded m = ⟨#[]⟩ := if_neg (by rw [h]; decide)

theorem Buf.len {base : Nat} {w : World} {v : Value} {bs : List UInt8} (h : Buf base w v bs) : ∃ a cap, v = .slice a bs.length cap := by
  obtain ⟨hlen, ⟨rfl, h0⟩ | ⟨g, cap, cur, rfl, _⟩⟩ := h
  · exact ⟨none, 0, by rw [h0]⟩
  · exact ⟨_, _, rfl⟩

set_option maxHeartbeats 1000000 in
theorem messageOk_any (xs : List Seg) (v : Value) (w : World) (hsz : msgSz xs ≤ 1048576) {lo : Nat} (hv : SegsAt lo w v xs) :
    Calls Tryz.prog 17 #[.agg #[v]] w fun e w' => e = .returned (.bool (msgB xs)) ∧ Below w.heap.size w w' := by
  have hb := (Below.refl w.heap.size w).alloc (Nat.le_refl _) (Obj.cells #[v] 25)
  have hv1 := At.kept kept_seg hv hb
  have hbox : (w.alloc (Obj.cells #[v] 25)).cell? ⟨w.heap.size, 0, none⟩ = some v := by simp
  have HR : Hid (msgB xs = (shapeB xs && decide ((msgW xs).length ≤ 40000))) := rfl
  have hmw := msgW_le xs
  cases hs : shapeB xs
  · have HX : Hid (msgB xs = false) := by rw [HR.out, hs]; rfl
    have HS := hide hs
    clear hs hbox
    go_enter Tryz.func17, Tryz.ntmps17
    go_wp2_with fail
    refine (shape_any xs v _ hv1).mono ?_
    rintro e w1 ⟨rfl, hb1⟩
    rw [HS.out]
    go_wp2_with fail
    go_ret
    exact ⟨ret_bool HX.out.symm, bjoin hb1 hb⟩
  · have HX : Hid (msgB xs = decide ((msgW xs).length ≤ 40000)) := by rw [HR.out, hs]; rfl
    have HS := hide hs
    have HBX := hide hbox
    clear hs hbox
    go_enter Tryz.func17, Tryz.ntmps17
    go_wp2_with fail
    refine (shape_any xs v _ hv1).mono ?_
    rintro e w1 ⟨rfl, hb1⟩
    rw [HS.out]
    have hbox1 : w1.cell? ⟨w.heap.size, 0, none⟩ = some v := by rw [hb1.cell (p := ⟨w.heap.size, 0, none⟩) (by simp)]; exact HBX.out
    have hv2 := At.kept kept_seg hv1 hb1
    have hb2 := bjoin hb1 hb
    clear hv1 hb1
    go_wp2_with fail
    refine (written_any xs v _ hsz hv2).mono ?_
    rintro e w3 ⟨u, rfl, hu, hb3⟩
    obtain ⟨a, cap, rfl⟩ := hu.len
    by_cases hle : ((msgW xs).length : Int) ≤ 40000
    · go_wp2_with fail
      go_ret
      exact ⟨ret_bool (by rw [HX.out, decide_eq_true (by omega)]), bjoin hb3 hb2⟩
    · go_wp2_with fail
      go_ret
      exact ⟨ret_bool (by rw [HX.out, decide_eq_false (p := (msgW xs).length ≤ 40000) (by omega)]; first | rfl | simpa using hle), bjoin hb3 hb2⟩

set_option maxHeartbeats 1000000 in
theorem encodeSpec_any (xs : List Seg) (v : Value) (w : World) (hsz : msgSz xs ≤ 1048576) {lo : Nat} (hv : SegsAt lo w v xs) :
    Calls Tryz.prog 6 #[.agg #[v]] w fun e w' => e = .returned (.string (encoded xs)) ∧ Below w.heap.size w w' := by
  have hb := (Below.refl w.heap.size w).alloc (Nat.le_refl _) (Obj.cells #[v] 25)
  have hv1 := At.kept kept_seg hv hb
  have hbox : (w.alloc (Obj.cells #[v] 25)).cell? ⟨w.heap.size, 0, none⟩ = some v := by simp
  cases hm : msgB xs
  · have HX := hide (encoded_no hm)
    have HM := hide hm
    clear hm hbox
    go_enter Tryz.func6, Tryz.ntmps6
    go_wp2_with fail
    refine (messageOk_any xs v _ hsz hv1).mono ?_
    rintro e w1 ⟨rfl, hb1⟩
    rw [HM.out]
    go_wp2_with fail
    go_ret
    exact ⟨ret_string HX.out.symm, bjoin hb1 hb⟩
  · have HX := hide (encoded_yes hm)
    have HM := hide hm
    have HBX := hide hbox
    clear hm hbox
    go_enter Tryz.func6, Tryz.ntmps6
    go_wp2_with fail
    refine (messageOk_any xs v _ hsz hv1).mono ?_
    rintro e w1 ⟨rfl, hb1⟩
    rw [HM.out]
    have hbox1 : w1.cell? ⟨w.heap.size, 0, none⟩ = some v := by rw [hb1.cell (p := ⟨w.heap.size, 0, none⟩) (by simp)]; exact HBX.out
    have hv2 := At.kept kept_seg hv1 hb1
    have hb2 := bjoin hb1 hb
    clear hv1 hb1
    go_wp2_with fail
    refine (written_any xs v _ hsz hv2).mono ?_
    rintro e w3 ⟨u, rfl, hu, hb3⟩
    have hconv := buf_string hu
    clear hbox1 hv2
    go_wp2_with fail
    go_ret
    exact ⟨ret_string HX.out.symm, bjoin hb3 hb2⟩
end Go.Proofs.YtcphfhfockjljaaGreatDoor.Msg

namespace Go.Proofs.YtcphfhfockjljaaGreatDoor.Msg
open Go.ChangeShapes Go.WideShapes Go.ChangeAt Go.RowKit
set_option linter.unusedVariables false
set_option linter.unusedSimpArgs false

/-! l2Redone -/
def stdD : ByteArray := ⟨#[124, 94, 126, 92, 38]⟩
set_option maxRecDepth 100000 in
set_option maxHeartbeats 4000000 in
theorem redone_any (s d : ByteArray) (w : World) (hs : s.size ≤ 1000000) (hd : d.size = 5) : Calls Tryz.prog 51 #[.string s, .string d] w (TextPost w s.size) := by
  obtain ⟨i0, hi, hz0, hz1, hz2⟩ := u8_facts
  have hst : stdD.size = 5 := rfl
  obtain ⟨st, hste⟩ : ∃ t, stdD = t := ⟨_, rfl⟩
  rw [hste] at hst
  have hlit : (⟨#[124, 94, 126, 92, 38]⟩ : ByteArray) = st := hste
  go_enter Tryz.func51, Tryz.ntmps51
  rw [hlit]
  go_wp2_with fail
  go_loopg [5, 7] s.size (fun q v5 i wr => ∃ (k : Nat) (bs : List UInt8), k ≤ s.size ∧ bs.length = k ∧ q = s.size - k ∧ i = .int .i64 (k : Int) ∧ Buf w.heap.size wr v5 bs ∧ Grew (w.alloc (Obj.cells #[] 5)) (.slice (some ⟨w.heap.size, 0, none⟩) 0 0) wr v5)
  case atStart => exact ⟨0, [], Nat.zero_le _, rfl, rfl, rfl, Buf.empty w.heap.size w (Nat.le_refl _), Grew.refl _ _⟩
  case round =>
    obtain ⟨k, bs, hk, hlen, rfl, rfl, hbuf, hb⟩ := hrel
    obtain ⟨Y, rfl⟩ : ∃ x, x = wr := ⟨_, rfl⟩
    have HBUF := hide hbuf
    have HB := hide hb
    clear hbuf hb
    by_cases hlt : k < s.size
    · have hki : (k : Int) < (s.size : Int) := by omega
      go_wp2_with fail
      go_loopg [8, 9] 5 (fun q v8 j wr => ∃ (t : Nat) (c : UInt8), t ≤ 5 ∧ q = 5 - t ∧ v8 = .int .u8 (c.toNat : Int) ∧ j = .int .i64 (t : Int) ∧ wr = Y)
      case atStart => exact ⟨0, s[k], Nat.zero_le _, rfl, rfl, rfl, rfl⟩
      case round =>
        obtain ⟨t, c, ht, rfl, rfl, rfl, rfl⟩ := hrel
        by_cases ht5 : t < 5
        · have hti : (t : Int) < 5 := by omega
          have ht1 : t < st.size := by omega
          have ht2 : t < d.size := by omega
          have hti1 : (t : Int) < (st.size : Int) := by omega
          have hti2 : (t : Int) < (d.size : Int) := by omega
          by_cases hcc : (c.toNat : Int) = (st[t].toNat : Int)
          · have hcb : ((c.toNat : Int) == (st[t].toNat : Int)) = true := by simpa using hcc
            go_wp2_with fail
            go_roundg (5 - (t + 1))
            case measure => omega
            case rel => exact ⟨t + 1, d[t], by omega, rfl, rfl, by go_num, rfl⟩
          · have hcb : ((c.toNat : Int) == (st[t].toNat : Int)) = false := by simpa using hcc
            go_wp2_with fail
            go_roundg (5 - (t + 1))
            case measure => omega
            case rel => exact ⟨t + 1, c, by omega, rfl, rfl, by go_num, rfl⟩
        · have hti : ¬ (t : Int) < 5 := by omega
          have hz : w.heap.size ≤ wr.heap.size := by have := HB.out.1.size; rw [Deep.nblk_alloc] at this; omega
          have hbuf := HBUF.out
          go_wp2_with (first
            | (at_builtin; refine wpList_append_own_at _ rfl _ _ 22 rfl w.heap.size 5 i0 (.int .u8 0) 1 1 Tryz.underlying22 hi hz0 hz1 hz2 rfl (by decide) _ _ _ rfl (World.ownsRow.alloc hbuf _) ⟨wr.heap.size, 0, none⟩ 1 1 [.int .u8 (c.toNat : Int)] rfl rfl ?c1 ?c2 ?c3 ?c4 ?c5 ?_)
            | go_in)
          (try (case c1 => exact new_cell _ _ _))
          case c2 => (first | exact one_u8 _ | rfl)
          case c3 => unfold maxLen; omega
          case c4 => omega
          case c5 => ((try simp); omega)
          · intro v' w' hown' hgrow hnil hat
            have R := Buf.snoc (bs := bs) c _ HB.out (by first | rfl | simp | omega) hown' hgrow hat
            clear hown' hgrow hnil hat hbuf
            go_wp2_with fail
            go_roundg (s.size - (k + 1))
            case measure => omega
            case rel => exact ⟨k + 1, bs ++ [c], by omega, by simp [hlen], rfl, by go_num, R.1, R.2⟩
    · have hki : ¬ (k : Int) < (s.size : Int) := by omega
      have hconv := buf_string HBUF.out
      have hown := HBUF.out.own
      have HBL : Hid (Below w.heap.size w Y) := ((Below.refl w.heap.size w).alloc (Nat.le_refl _) (Obj.cells #[] 5)).trans (HB.out.below (by simp [Value.ownBlock]) (by simp))
      go_wp2_with fail
      go_ret
      exact ⟨_, rfl, by show bs.toArray.size ≤ _; simp; omega, HBL.out⟩
end Go.Proofs.YtcphfhfockjljaaGreatDoor.Msg

namespace Go.Proofs.YtcphfhfockjljaaGreatDoor.Msg
open Go.ChangeShapes Go.WideShapes Go.ChangeAt Go.RowKit
set_option linter.unusedVariables false
set_option linter.unusedSimpArgs false

/-! l2DrawText, DrawParse -/
theorem encoded_sz (m : List Seg) : (encoded m).size ≤ 40000 := by
  cases h : msgB m
  · rw [encoded_no h]; exact Nat.zero_le _
  · rw [encoded_yes h]
    unfold msgB at h
    simp only [Bool.and_eq_true, decide_eq_true_eq] at h
    show (msgW m).toArray.size ≤ _
    simpa using h.2
def TextPost2 (w : World) (n : Nat) (e : Ending) (w' : World) : Prop := ∃ (t : ByteArray) (q : Int), e = .returned (.tuple #[.string t, .int .i64 q]) ∧ t.size ≤ n ∧ Below w.heap.size w w'
set_option maxRecDepth 100000 in
set_option maxHeartbeats 4000000 in
theorem drawText_any (cs : List UInt8) (v : Value) (p : Nat) (w : World) {lo : Nat} (hv : CodeAt lo w v cs) (hl : cs.length ≤ 1048576) (hp : p ≤ 1000000) :
    Calls Tryz.prog 25 #[v, .int .i64 (p : Int)] w (TextPost2 w 40001) := by
  have HV := hide hv
  obtain ⟨va, vc, rfl, _⟩ := code_form hv
  have HT1 := hide (take_any cs (.slice va cs.length vc) p 12 w HV.out hl (by omega) (by decide))
  have HDM := hide (drawMsg_any cs (.slice va cs.length vc) (p + 1) w HV.out hl (by omega))
  have hA := tk_lt cs p 12 (by decide)
  obtain ⟨A, hAe⟩ : ∃ A, tk cs p 12 = A := ⟨_, rfl⟩
  rw [hAe] at HT1 hA
  have hq := drMsg_p cs (p + 1)
  have hml := drMsg_len cs (p + 1)
  have HSZ := hide (drMsg_sz cs (p + 1))
  obtain ⟨q, hqe⟩ : ∃ q, (drMsg cs (p + 1)).2 = q := ⟨_, rfl⟩
  obtain ⟨m, hme⟩ : ∃ m, (drMsg cs (p + 1)).1 = m := ⟨_, rfl⟩
  rw [hqe] at HDM hq
  rw [hme] at HDM hml HSZ
  obtain ⟨p1, hp1⟩ : ∃ q, p + 1 = q := ⟨_, rfl⟩
  rw [hp1] at HT1 HDM
  have hq2 : q ≤ 1000600 := by omega
  clear hv hAe hqe hme hp1 hq
  go_enter Tryz.func25, Tryz.ntmps25
  go_wp2_with fail
  refine HT1.out.mono ?_
  rintro e y ⟨rfl, hy⟩
  (try rw [hy])
  clear hy y
  go_wp2_with fail
  refine HDM.out.mono ?_
  rintro e y ⟨am, cm, ps, rfl, hrow, hps, hby⟩
  obtain ⟨x2, hx2⟩ : ∃ x, y.alloc (Obj.cells #[.slice am m.length cm] 25) = x := ⟨_, rfl⟩
  have bx2 : Below y.heap.size y x2 := by rw [← hx2]; exact (Below.refl _ _).alloc (Nat.le_refl _) _
  have hpl : ps.length = m.length := by rw [← hps, List.length_map]
  have hsg := hrow.segs (by omega)
  rw [hps] at hsg
  have HEN := hide (encodeSpec_any m (.slice am m.length cm) x2 (Nat.le_trans HSZ.out (by decide)) (At.kept kept_seg hsg bx2))
  have hez := encoded_sz m
  obtain ⟨s, hse⟩ : ∃ s, encoded m = s := ⟨_, rfl⟩
  rw [hse] at HEN hez
  have HB2 := hide (bjoin bx2 hby)
  have HX2 := hide hx2
  clear hrow hps hby hx2 bx2 hpl hsg hse
  go_wp2_with fail
  (try rw [HX2.out])
  refine HEN.out.mono ?_
  rintro e z ⟨rfl, hbz⟩
  have HBZ := hide (bjoin hbz HB2.out)
  have HRD := hide (redone_any s ⟨#[35, 36, 37, 64, 33]⟩ z (by omega) rfl)
  have HSP := hide (spoilText_any cs (.slice va cs.length vc) q s z (At.kept kept_code HV.out HBZ.out) hl (by omega) (by omega))
  have hq3 : IntKind.i64.wrap ((q : Int) + 3) = (q : Int) + 3 := by rw [IntKind.wrap_i64]; omega
  clear hbz
  have hcase : A = 6 ∨ A = 7 ∨ 9 ≤ A ∨ A = 8 ∨ A ≤ 5 := by omega
  rcases hcase with rfl | rfl | h9 | rfl | h5
  · go_wp2_with fail
    refine HRD.out.mono ?_
    rintro e z2 ⟨t, rfl, ht, hb2⟩
    have HB3 := hide (bjoin hb2 HBZ.out)
    go_wp2_with fail
    go_ret2
    exact ⟨_, _, rfl, by omega, HB3.out⟩
  · go_wp2_with fail
    refine HRD.out.mono ?_
    rintro e z2 ⟨t, rfl, ht, hb2⟩
    have HB3 := hide (bjoin hb2 HBZ.out)
    go_wp2_with fail
    go_ret2
    exact ⟨_, _, rfl, by omega, HB3.out⟩
  · have n6 : ((A : Int) == 6) = false := by simp; omega
    have n7 : ((A : Int) == 7) = false := by simp; omega
    have h9i : (9 : Int) ≤ (A : Int) := by omega
    have h9g : (A : Int) ≥ 9 := by omega
    go_wp2_with fail
    refine HSP.out.mono ?_
    rintro e z2 ⟨t, rfl, ht, hb2⟩
    have HB3 := hide (bjoin hb2 HBZ.out)
    go_wp2_with fail
    go_ret2
    exact ⟨_, _, rfl, by omega, HB3.out⟩
  · by_cases hs0 : (s.size : Int) > 0
    · obtain ⟨K, hK⟩ : ∃ K, s.size - 1 = K := ⟨_, rfl⟩
      have e1 : IntKind.i64.wrap ((s.size : Int) - 1) = (K : Int) := by rw [IntKind.wrap_i64]; omega
      have k0 : (0 : Int) ≤ (K : Int) := by omega
      have k1 : (K : Int) ≤ (s.size : Int) := by omega
      obtain ⟨s1, hs1⟩ : ∃ t, s.extract 0 K = t := ⟨_, rfl⟩
      have z1 : s1.size ≤ 40001 := by rw [← hs1, ByteArray.size_extract]; omega
      clear hK
      go_wp2_with fail
      go_ret2
      exact ⟨_, _, rfl, z1, HBZ.out⟩
    · go_wp2_with fail
      go_ret2
      exact ⟨_, _, rfl, by omega, HBZ.out⟩
  · have n6 : ((A : Int) == 6) = false := by simp; omega
    have n7 : ((A : Int) == 7) = false := by simp; omega
    have n8 : ((A : Int) == 8) = false := by simp; omega
    have n9 : ¬ (A : Int) ≥ 9 := by omega
    have n9' : ¬ (9 : Int) ≤ (A : Int) := by omega
    go_wp2_with fail
    go_ret2
    exact ⟨_, _, rfl, by omega, HBZ.out⟩
end Go.Proofs.YtcphfhfockjljaaGreatDoor.Msg
