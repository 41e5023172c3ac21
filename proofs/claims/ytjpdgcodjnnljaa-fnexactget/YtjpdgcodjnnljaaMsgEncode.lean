import Derived.Test.YtjpdgcodjnnljaaMsgOk4
import Derived.Test.YtjpdgcodjnnljaaMsgWritten
import Derived.Test.YtjpdgcodjnnljaaMsgEq2
namespace Go.Proofs.Ytjpdgcodjnnljaa.Msg
open Go.ChangeShapes Go.WideShapes Go.ChangeAt Go.RowKit
set_option linter.unusedVariables false
set_option linter.unusedSimpArgs false

theorem cast_beq (k : Nat) : ((k : Int) == 0) = (k == 0) := by
  by_cases h : k = 0
  · subst h; rfl
  · rw [beq_eq_false_iff_ne.2 (by omega), beq_eq_false_iff_ne.2 h]

def segAt (p : Seg × Nat) : Bool := segB (p.2 == 0) p.1
theorem zall_step {xs : List Seg} {k : Nat} (h : k < xs.length) (h1 : (xs.take k).zipIdx.all segAt = true) (h2 : segB (k == 0) xs[k] = true) : (xs.take (k + 1)).zipIdx.all segAt = true := by
  rw [zip_snoc xs k h, List.all_append, h1]
  simp [segAt, h2]
theorem zall_fail {xs : List Seg} {k : Nat} (h : k < xs.length) (h2 : segB (k == 0) xs[k] = false) : xs.zipIdx.all segAt = false := by
  rw [List.all_eq_false]
  refine ⟨(xs[k], k), ?_, by simp [segAt, h2]⟩
  rw [List.mk_mem_zipIdx_iff_getElem?]
  simp [h]
theorem zall_done {xs : List Seg} {k : Nat} (h : xs.length ≤ k) (h1 : (xs.take k).zipIdx.all segAt = true) : xs.zipIdx.all segAt = true := by
  rwa [List.take_of_length_le h] at h1

set_option maxHeartbeats 1000000 in
theorem shape_any (xs : List Seg) (v : Value) (w : World) {lo : Nat} (hv : SegsAt lo w v xs) :
    Calls Try.prog 98 #[.agg #[v]] w fun e w' => e = .returned (.bool (shapeB xs)) ∧ Below w.heap.size w w' := by
  have hl := hv.1
  have hb := (Below.refl w.heap.size w).alloc (Nat.le_refl _) (Obj.cells #[v] 55)
  have hbox : (w.alloc (Obj.cells #[v] 55)).cell? ⟨w.heap.size, 0, none⟩ = some v := by simp
  obtain ⟨a, cap, rfl, hc⟩ := (At.kept kept_seg hv hb).form
  have HC := hide hc
  clear hc hv
  have HBX := hide hbox
  clear hbox
  have HR : Hid (shapeB xs = (decide (1 ≤ xs.length) && (decide (xs.length ≤ 250) && xs.zipIdx.all segAt))) := rfl
  by_cases h1 : (xs.length : Int) < 1
  · go_enter Try.func98, Try.ntmps98
    go_wp2_with fail
    go_ret
    exact ⟨ret_bool (by rw [HR.out, decide_eq_false (by omega)]; rfl), hb⟩
  · by_cases h2 : (250 : Int) < (xs.length : Int)
    · go_enter Try.func98, Try.ntmps98
      go_wp2_with fail
      go_ret
      exact ⟨ret_bool (by rw [HR.out, decide_eq_false (p := xs.length ≤ 250) (by omega), Bool.false_and, Bool.and_false]), hb⟩
    · have HX : Hid (shapeB xs = xs.zipIdx.all segAt) := by rw [HR.out, decide_eq_true (by omega), decide_eq_true (by omega)]; rfl
      go_enter Try.func98, Try.ntmps98
      go_wp2_with fail
      go_loopw [3] (fun i wr => ∃ k : Nat, k ≤ xs.length ∧ i = .int .i64 k ∧ (xs.take k).zipIdx.all segAt = true ∧ Below (w.heap.size + 1) (w.alloc (Obj.cells #[.slice a xs.length cap] 55)) wr) (fun i _ => xs.length - (intOf i).toNat)
      case atStart => exact ⟨0, Nat.zero_le _, rfl, rfl, Below.refl _ _⟩
      case round =>
        obtain ⟨k, hk, rfl, hall, hbr⟩ := hrel
        have HA := hide hall
        clear hall
        have hbw : Below w.heap.size w wr := hb.trans (hbr.mono (by omega))
        have hbox : wr.cell? ⟨w.heap.size, 0, none⟩ = some (.slice a xs.length cap) := by rw [hbr.cell (p := ⟨w.heap.size, 0, none⟩) (by simp)]; exact HBX.out
        have hbr' : Below (w.alloc (Obj.cells #[.slice a xs.length cap] 55)).heap.size (w.alloc (Obj.cells #[.slice a xs.length cap] 55)) wr := by simpa using hbr
        by_cases hlt : k < xs.length
        · obtain ⟨b, off, rfl, _, hbl', hc0, hns, ve, hcell, hel⟩ := HC.out k hlt
          have hcell0 : wr.cell? ⟨b, off + k * 2, none⟩ = some (.string xs[k].name) := by rw [hbr'.cell (p := ⟨b, off + k * 2, none⟩) hbl']; exact hc0
          have hcell1 : wr.cell? ⟨b, off + k * 2 + 1, none⟩ = some ve := by rw [hbr'.cell (p := ⟨b, off + k * 2 + 1, none⟩) hbl']; exact hcell
          have hel' := At.kept kept_field hel hbr'
          clear hcell hel hc0
          have HK := hide (cast_beq k)
          go_wp2_with fail
          rw [HK.out]
          refine (segOk_any xs[k] (k == 0) ve _ hns hel').mono ?_
          rintro e w2 ⟨rfl, hb2⟩
          have hb3 : Below (w.heap.size + 1) (w.alloc (Obj.cells #[.slice (some ⟨b, off, none⟩) xs.length cap] 55)) w2 := hbr.trans (hb2.mono (by have := hbr.size; simp at this; omega))
          clear hbr hbr' hb2 hcell0 hcell1 hel' hbox
          cases hp : segB (k == 0) xs[k]
          · have HF := hide (zall_fail hlt hp)
            clear hp
            go_wp2_with fail
            go_ret
            exact ⟨ret_bool (by rw [HX.out, HF.out]), hb.trans (hb3.mono (by omega))⟩
          · have HF := hide (zall_step hlt HA.out hp)
            clear hp
            go_wp2_with fail
            go_roundw
            case rel => exact ⟨k + 1, by omega, by go_num, HF.out, hb3⟩
            case measure => simp [intOf]; omega
        · have HF := hide (zall_done (by omega) HA.out)
          go_wp2_with fail
          go_ret
          exact ⟨ret_bool (by rw [HX.out, HF.out]), hbw⟩

/-- a slice of bytes, turned into a text -/
theorem buf_string {base : Nat} {w : World} {v : Value} {bs : List UInt8} (h : Buf base w v bs) : Sem.run Try.prog (convert 22 9 v) w = .ok (.string ⟨bs.toArray⟩) w := by
  obtain ⟨hlen, ⟨rfl, h0⟩ | ⟨g, cap, cur, rfl, hg, hs, hcap, hm, hsz, htk⟩⟩ := h
  · rw [run_convert_bytes_nil w 22 5 Try.underlying22 Try.underlying5 0 0 9 Try.underlying9]
    have : bs = [] := List.length_eq_zero_iff.1 h0
    subst this
    rfl
  · rw [run_convert_bytes_arg w 22 5 Try.underlying22 Try.underlying5 g 0 bs.length cap (bs.map fun c => (c.toNat : Int)) (by simp) ?_ 9 Try.underlying9]
    · congr 2
      unfold strOfNums
      congr 2
      rw [List.map_map]
      conv => rhs; rw [← List.map_id bs]
      apply List.map_congr_left
      intro c _
      simp
    · intro i hi
      have h2 : cur.toList[i]? = some (.int .u8 (bs[i].toNat : Int)) := by
        have h3 : (cur.toList.take (bs.length * 1))[i]? = some (.int .u8 (bs[i].toNat : Int)) := by rw [htk]; simp [u8s, hi]
        rw [List.getElem?_take] at h3
        rw [if_pos (by omega)] at h3
        exact h3
      simp only [World.cell?, hs, Nat.zero_add]
      rw [← Array.getElem?_toList, h2]
      simp [List.getD_eq_getElem?_getD, hi]

/-- a valid message, but for the sizes that go beyond int -/
def msgB (m : List Seg) : Bool := shapeB m && decide ((msgW m).length ≤ 40000)
def encoded (m : List Seg) : ByteArray := if msgB m = true then ⟨(msgW m).toArray⟩ else ⟨#[]⟩
theorem encoded_yes {m : List Seg} (h : msgB m = true) : encoded m = ⟨(msgW m).toArray⟩ := if_pos h
theorem encoded_no {m : List Seg} (h : msgB m = false) : encoded m = ⟨#[]⟩ := if_neg (by rw [h]; decide)

theorem Buf.len {base : Nat} {w : World} {v : Value} {bs : List UInt8} (h : Buf base w v bs) : ∃ a cap, v = .slice a bs.length cap := by
  obtain ⟨hlen, ⟨rfl, h0⟩ | ⟨g, cap, cur, rfl, _⟩⟩ := h
  · exact ⟨none, 0, by rw [h0]⟩
  · exact ⟨_, _, rfl⟩

set_option maxHeartbeats 1000000 in
theorem messageOk_any (xs : List Seg) (v : Value) (w : World) (hsz : msgSz xs ≤ 1048576) {lo : Nat} (hv : SegsAt lo w v xs) :
    Calls Try.prog 72 #[.agg #[v]] w fun e w' => e = .returned (.bool (msgB xs)) ∧ Below w.heap.size w w' := by
  have hb := (Below.refl w.heap.size w).alloc (Nat.le_refl _) (Obj.cells #[v] 55)
  have hv1 := At.kept kept_seg hv hb
  have hbox : (w.alloc (Obj.cells #[v] 55)).cell? ⟨w.heap.size, 0, none⟩ = some v := by simp
  have HR : Hid (msgB xs = (shapeB xs && decide ((msgW xs).length ≤ 40000))) := rfl
  have hmw := msgW_le xs
  cases hs : shapeB xs
  · have HX : Hid (msgB xs = false) := by rw [HR.out, hs]; rfl
    have HS := hide hs
    clear hs hbox
    go_enter Try.func72, Try.ntmps72
    go_wp2_with fail
    refine (shape_any xs v _ hv1).mono ?_
    rintro e w1 ⟨rfl, hb1⟩
    rw [HS.out]
    go_wp2_with fail
    go_ret
    exact ⟨ret_bool HX.out.symm, bjoin hb1 hb⟩
  · have HX : Hid (msgB xs = decide ((msgW xs).length ≤ 40000)) := by rw [HR.out, hs]; rfl
    have HS := hide hs
    have HBX := hide hbox
    clear hs hbox
    go_enter Try.func72, Try.ntmps72
    go_wp2_with fail
    refine (shape_any xs v _ hv1).mono ?_
    rintro e w1 ⟨rfl, hb1⟩
    rw [HS.out]
    have hbox1 : w1.cell? ⟨w.heap.size, 0, none⟩ = some v := by rw [hb1.cell (p := ⟨w.heap.size, 0, none⟩) (by simp)]; exact HBX.out
    have hv2 := At.kept kept_seg hv1 hb1
    have hb2 := bjoin hb1 hb
    clear hv1 hb1
    go_wp2_with fail
    refine (written_any xs v _ hsz hv2).mono ?_
    rintro e w3 ⟨u, rfl, hu, hb3⟩
    obtain ⟨a, cap, rfl⟩ := hu.len
    by_cases hle : ((msgW xs).length : Int) ≤ 40000
    · go_wp2_with fail
      go_ret
      exact ⟨ret_bool (by rw [HX.out, decide_eq_true (by omega)]), bjoin hb3 hb2⟩
    · go_wp2_with fail
      go_ret
      exact ⟨ret_bool (by rw [HX.out, decide_eq_false (p := (msgW xs).length ≤ 40000) (by omega)]; first | rfl | simpa using hle), bjoin hb3 hb2⟩

set_option maxHeartbeats 1000000 in
theorem encodeSpec_any (xs : List Seg) (v : Value) (w : World) (hsz : msgSz xs ≤ 1048576) {lo : Nat} (hv : SegsAt lo w v xs) :
    Calls Try.prog 29 #[.agg #[v]] w fun e w' => e = .returned (.string (encoded xs)) ∧ Below w.heap.size w w' := by
  have hb := (Below.refl w.heap.size w).alloc (Nat.le_refl _) (Obj.cells #[v] 55)
  have hv1 := At.kept kept_seg hv hb
  have hbox : (w.alloc (Obj.cells #[v] 55)).cell? ⟨w.heap.size, 0, none⟩ = some v := by simp
  cases hm : msgB xs
  · have HX := hide (encoded_no hm)
    have HM := hide hm
    clear hm hbox
    go_enter Try.func29, Try.ntmps29
    go_wp2_with fail
    refine (messageOk_any xs v _ hsz hv1).mono ?_
    rintro e w1 ⟨rfl, hb1⟩
    rw [HM.out]
    go_wp2_with fail
    go_ret
    exact ⟨ret_string HX.out.symm, bjoin hb1 hb⟩
  · have HX := hide (encoded_yes hm)
    have HM := hide hm
    have HBX := hide hbox
    clear hm hbox
    go_enter Try.func29, Try.ntmps29
    go_wp2_with fail
    refine (messageOk_any xs v _ hsz hv1).mono ?_
    rintro e w1 ⟨rfl, hb1⟩
    rw [HM.out]
    have hbox1 : w1.cell? ⟨w.heap.size, 0, none⟩ = some v := by rw [hb1.cell (p := ⟨w.heap.size, 0, none⟩) (by simp)]; exact HBX.out
    have hv2 := At.kept kept_seg hv1 hb1
    have hb2 := bjoin hb1 hb
    clear hv1 hb1
    go_wp2_with fail
    refine (written_any xs v _ hsz hv2).mono ?_
    rintro e w3 ⟨u, rfl, hu, hb3⟩
    have hconv := buf_string hu
    clear hbox1 hv2
    go_wp2_with fail
    go_ret
    exact ⟨ret_string HX.out.symm, bjoin hb3 hb2⟩
end Go.Proofs.Ytjpdgcodjnnljaa.Msg
