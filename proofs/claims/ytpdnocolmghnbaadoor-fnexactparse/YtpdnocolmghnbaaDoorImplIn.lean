import Derived.Test.YtpdnocolmghnbaaDoorImplCs
namespace Go.Proofs.YtpdnocolmghnbaaDoor.Msg
open Go.ChangeShapes Go.WideShapes Go.ChangeAt Go.RowKit
set_option linter.unusedVariables false
set_option linter.unusedSimpArgs false

/-! what the program's inOrder says at each level: as the document, and no component is too long for any message -/
def compI (c : ByteArray) : Bool := decide (c.size ≤ 40000) && plainB c
def repI (r : Rep) : Bool := csB 20 ByteArray.size r && r.all compI
def fieldI (f : Field) : Bool := csB 30 List.length f && f.all repI
def segI (s : Seg) : Bool := nameB s.name && (csB 30 List.length s.fields && s.fields.all fieldI)

set_option maxHeartbeats 1000000 in
theorem repIn_any (x : Rep) (v : Value) (w : World) {lo : Nat} (hv : StrsAt lo w v x) :
    Calls Tryd.prog 65 #[.agg #[v]] w fun e w' => e = .returned (.bool (repI x)) ∧ Below w.heap.size w w' := by
  have hl := hv.1
  have hb := (Below.refl w.heap.size w).alloc (Nat.le_refl _) (Obj.cells #[v] 50)
  have hv1 := At.kept kept_str hv hb
  obtain ⟨a, cap, rfl, hc⟩ := hv1.form
  have HC := hide hc
  clear hc
  have HR : Hid (repI x = (csB 20 ByteArray.size x && x.all compI)) := rfl
  cases hcs : csB 20 ByteArray.size x
  · have HX : Hid (repI x = false) := by rw [HR.out, hcs]; rfl
    have HS := hide hcs
    clear hcs
    go_enter Tryd.func65, Tryd.ntmps65
    go_wp2_with fail
    refine (cutShortS_any x 20 _ _ hv1 (by omega)).mono ?_
    rintro e w' ⟨rfl, rfl⟩
    rw [HS.out]
    go_wp2_with fail
    go_ret
    exact ⟨ret_bool HX.out.symm, hb⟩
  · have HX : Hid (repI x = x.all compI) := by rw [HR.out, hcs]; rfl
    have HS := hide hcs
    clear hcs
    go_enter Tryd.func65, Tryd.ntmps65
    go_wp2_with fail
    refine (cutShortS_any x 20 _ _ hv1 (by omega)).mono ?_
    rintro e w' ⟨rfl, rfl⟩
    rw [HS.out]
    clear hv1 hv
    go_wp2_with fail
    go_loop [12] (fun i => ∃ k : Nat, k ≤ x.length ∧ i = .int .i64 k ∧ (x.take k).all compI = true) (fun i => x.length - (intOf i).toNat)
    case atStart => exact ⟨0, Nat.zero_le _, rfl, rfl⟩
    case round =>
      obtain ⟨k, hk, rfl, hall⟩ := hrel
      have HA := hide hall
      clear hall
      by_cases hlt : k < x.length
      · obtain ⟨b, off, rfl, _, _, hr⟩ := HC.out k hlt
        have hcell : (w.alloc (Obj.cells #[.slice (some ⟨b, off, none⟩) x.length cap] 50)).cell? ⟨b, off + k, none⟩ = some (.string x[k]) := by simpa using hr.1
        have hsz := hr.2
        clear hr
        have HK : Hid (compI x[k] = (decide (x[k].size ≤ 40000) && plainB x[k])) := rfl
        by_cases hlong : (40000 : Int) < (x[k].size : Int)
        · have HF := hide (all_fail (p := compI) hlt (by rw [HK.out, decide_eq_false (by omega)]; rfl))
          go_wp2_with fail
          go_ret
          exact ⟨ret_bool (by rw [HX.out, HF.out]), hb⟩
        · have HK2 : Hid (compI x[k] = plainB x[k]) := by rw [HK.out, decide_eq_true (by omega)]; rfl
          go_wp2_with fail
          refine (isPlain_any x[k] _ hsz).mono ?_
          rintro e w' ⟨rfl, rfl⟩
          cases hp : plainB x[k]
          · have HF := hide (all_fail (p := compI) hlt (by rw [HK2.out]; exact hp))
            clear hp
            go_wp2_with fail
            go_ret
            exact ⟨ret_bool (by rw [HX.out, HF.out]), hb⟩
          · have HF := hide (all_step (p := compI) hlt HA.out (by rw [HK2.out]; exact hp))
            clear hp
            go_wp2_with fail
            go_round
            case rel => exact ⟨k + 1, by omega, by go_num, HF.out⟩
            case measure => simp [intOf]; omega
      · have HF := hide (all_done (by omega) HA.out)
        go_wp2_with fail
        go_ret
        exact ⟨ret_bool (by rw [HX.out, HF.out]), hb⟩

set_option maxHeartbeats 1000000 in
theorem fieldIn_any (x : Field) (v : Value) (w : World) {lo : Nat} (hv : RepsAt lo w v x) :
    Calls Tryd.prog 47 #[.agg #[v]] w fun e w' => e = .returned (.bool (fieldI x)) ∧ Below w.heap.size w w' := by
  have hl := hv.1
  have hb := (Below.refl w.heap.size w).alloc (Nat.le_refl _) (Obj.cells #[v] 47)
  have hbox : (w.alloc (Obj.cells #[v] 47)).cell? ⟨w.heap.size, 0, none⟩ = some v := by simp
  have hv1 := At.kept kept_rep hv hb
  have HR : Hid (fieldI x = (csB 30 List.length x && x.all repI)) := rfl
  have HBX := hide hbox
  clear hbox hv
  cases hcs : csB 30 List.length x
  · have HX : Hid (fieldI x = false) := by rw [HR.out, hcs]; rfl
    have HS := hide hcs
    clear hcs
    go_enter Tryd.func47, Tryd.ntmps47
    go_wp2_with fail
    refine (cutShortR_any x 30 _ _ hv1 (by omega)).mono ?_
    rintro e w1 ⟨rfl, hb1⟩
    rw [HS.out]
    clear hv1
    go_wp2_with fail
    go_ret
    exact ⟨ret_bool HX.out.symm, bjoin hb1 hb⟩
  · have HX : Hid (fieldI x = x.all repI) := by rw [HR.out, hcs]; rfl
    have HS := hide hcs
    clear hcs
    go_enter Tryd.func47, Tryd.ntmps47
    go_wp2_with fail
    refine (cutShortR_any x 30 _ _ hv1 (by omega)).mono ?_
    rintro e w1 ⟨rfl, hb1⟩
    rw [HS.out]
    have hbox1 : w1.cell? ⟨w.heap.size, 0, none⟩ = some v := by rw [hb1.cell (p := ⟨w.heap.size, 0, none⟩) (by simp)]; exact HBX.out
    have hv2 := At.kept kept_rep hv1 hb1
    have hb2 := bjoin hb1 hb
    clear hv1 hb1 HBX hb
    obtain ⟨a, cap, rfl, hc⟩ := hv2.form
    have HC := hide hc
    clear hc hv2
    go_wp2_with fail
    clear hbox1
    go_loopw [12] (fun i wr => ∃ k : Nat, k ≤ x.length ∧ i = .int .i64 k ∧ (x.take k).all repI = true ∧ Below w1.heap.size w1 wr) (fun i _ => x.length - (intOf i).toNat)
    case atStart => exact ⟨0, Nat.zero_le _, rfl, rfl, Below.refl _ _⟩
    case round =>
      obtain ⟨k, hk, rfl, hall, hbr⟩ := hrel
      have HA := hide hall
      clear hall
      by_cases hlt : k < x.length
      · obtain ⟨b, off, rfl, _, hbl, ve, hcell, hel⟩ := HC.out k hlt
        obtain ⟨a5, cap5, rfl, _⟩ := hel.form
        have hcell' : wr.cell? ⟨b, off + k, none⟩ = some (.slice a5 x[k].length cap5) := by rw [hbr.cell (p := ⟨b, off + k, none⟩) hbl]; simpa using hcell
        have hbr2 := hbr.alloc hbr.size (Obj.cells #[.slice a5 x[k].length cap5] 50)
        have hel' := At.kept kept_str hel hbr2
        clear hcell hel
        go_wp2_with fail
        refine (repIn_any x[k] _ _ hel').mono ?_
        rintro e w2 ⟨rfl, hb3⟩
        have hb4 : Below w1.heap.size w1 w2 := bjoin hb3 hbr2
        clear hbr hbr2 hb3 hcell' hel'
        cases hp : repI x[k]
        · have HF := hide (all_fail hlt hp)
          clear hp
          go_wp2_with fail
          go_ret
          exact ⟨ret_bool (by rw [HX.out, HF.out]), bjoin hb4 hb2⟩
        · have HF := hide (all_step hlt HA.out hp)
          clear hp
          go_wp2_with fail
          go_roundw
          case rel => exact ⟨k + 1, by omega, by go_num, HF.out, hb4⟩
          case measure => simp [intOf]; omega
      · have HF := hide (all_done (by omega) HA.out)
        go_wp2_with fail
        go_ret
        exact ⟨ret_bool (by rw [HX.out, HF.out]), bjoin hbr hb2⟩
end Go.Proofs.YtpdnocolmghnbaaDoor.Msg
