import Derived.Test.YtpdnocolmghnbaaDoorImplIn
namespace Go.Proofs.YtpdnocolmghnbaaDoor.Msg
open Go.ChangeShapes Go.WideShapes Go.ChangeAt Go.RowKit
set_option linter.unusedVariables false
set_option linter.unusedSimpArgs false

set_option maxHeartbeats 1000000 in
theorem segIn_any (x : Seg) (v : Value) (w : World) (hns : x.name.size ≤ 9223372036854775807) {lo : Nat} (hv : FieldsAt lo w v x.fields) :
    Calls Tryd.prog 30 #[.agg #[.string x.name, v]] w fun e w' => e = .returned (.bool (segI x)) ∧ Below w.heap.size w w' := by
  have hl := hv.1
  have hb := (Below.refl w.heap.size w).alloc (Nat.le_refl _) (Obj.cells #[.string x.name, v] 38)
  have hbox : (w.alloc (Obj.cells #[.string x.name, v] 38)).cell? ⟨w.heap.size, 1, none⟩ = some v := by simp
  have hv1 := At.kept kept_field hv hb
  have HR : Hid (segI x = (nameB x.name && (csB 30 List.length x.fields && x.fields.all fieldI))) := rfl
  have HBX := hide hbox
  clear hbox hv
  cases hn : nameB x.name
  · have HX : Hid (segI x = false) := by rw [HR.out, hn]; rfl
    have HN := hide hn
    clear hn
    go_enter Tryd.func30, Tryd.ntmps30
    go_wp2_with fail
    refine (isSegmentName_any x.name _ hns).mono ?_
    rintro e w' ⟨rfl, rfl⟩
    rw [HN.out]
    go_wp2_with fail
    go_ret
    exact ⟨ret_bool HX.out.symm, hb⟩
  have HN := hide hn
  clear hn
  cases hcs : csB 30 List.length x.fields
  · have HX : Hid (segI x = false) := by rw [HR.out, hcs, Bool.false_and, Bool.and_false]; trivial
    have HS := hide hcs
    clear hcs
    go_enter Tryd.func30, Tryd.ntmps30
    go_wp2_with fail
    refine (isSegmentName_any x.name _ hns).mono ?_
    rintro e w' ⟨rfl, rfl⟩
    rw [HN.out]
    go_wp2_with fail
    refine (cutShortF_any x.fields 30 _ _ hv1 (by omega)).mono ?_
    rintro e w1 ⟨rfl, hb1⟩
    rw [HS.out]
    clear hv1
    go_wp2_with fail
    go_ret
    exact ⟨ret_bool HX.out.symm, bjoin hb1 hb⟩
  · have HX : Hid (segI x = x.fields.all fieldI) := by rw [HR.out, hcs, HN.out]; rfl
    have HS := hide hcs
    clear hcs
    go_enter Tryd.func30, Tryd.ntmps30
    go_wp2_with fail
    refine (isSegmentName_any x.name _ hns).mono ?_
    rintro e w' ⟨rfl, rfl⟩
    rw [HN.out]
    go_wp2_with fail
    refine (cutShortF_any x.fields 30 _ _ hv1 (by omega)).mono ?_
    rintro e w1 ⟨rfl, hb1⟩
    rw [HS.out]
    have hbox1 : w1.cell? ⟨w.heap.size, 1, none⟩ = some v := by rw [hb1.cell (p := ⟨w.heap.size, 1, none⟩) (by simp)]; exact HBX.out
    have hv2 := At.kept kept_field hv1 hb1
    have hb2 := bjoin hb1 hb
    clear hv1 hb1 HBX hb
    obtain ⟨a, cap, rfl, hc⟩ := hv2.form
    have HC := hide hc
    clear hc hv2
    go_wp2_with fail
    clear hbox1
    go_loopw [18] (fun i wr => ∃ k : Nat, k ≤ x.fields.length ∧ i = .int .i64 k ∧ (x.fields.take k).all fieldI = true ∧ Below w1.heap.size w1 wr) (fun i _ => x.fields.length - (intOf i).toNat)
    case atStart => exact ⟨0, Nat.zero_le _, rfl, rfl, Below.refl _ _⟩
    case round =>
      obtain ⟨k, hk, rfl, hall, hbr⟩ := hrel
      have HA := hide hall
      clear hall
      by_cases hlt : k < x.fields.length
      · obtain ⟨b, off, rfl, _, hbl, ve, hcell, hel⟩ := HC.out k hlt
        obtain ⟨a5, cap5, rfl, _⟩ := hel.form
        have hcell' : wr.cell? ⟨b, off + k, none⟩ = some (.slice a5 x.fields[k].length cap5) := by rw [hbr.cell (p := ⟨b, off + k, none⟩) hbl]; simpa using hcell
        have hbr2 := hbr.alloc hbr.size (Obj.cells #[.slice a5 x.fields[k].length cap5] 47)
        have hel' := At.kept kept_rep hel hbr2
        clear hcell hel
        go_wp2_with fail
        refine (fieldIn_any x.fields[k] _ _ hel').mono ?_
        rintro e w2 ⟨rfl, hb3⟩
        have hb4 : Below w1.heap.size w1 w2 := bjoin hb3 hbr2
        clear hbr hbr2 hb3 hcell' hel'
        cases hp : fieldI x.fields[k]
        · have HF := hide (all_fail hlt hp)
          clear hp
          go_wp2_with fail
          go_ret
          exact ⟨ret_bool (by rw [HX.out, HF.out]), bjoin hb4 hb2⟩
        · have HF := hide (all_step hlt HA.out hp)
          clear hp
          go_wp2_with fail
          go_roundw
          case rel => exact ⟨k + 1, by omega, by go_num, HF.out, hb4⟩
          case measure => simp [intOf]; omega
      · have HF := hide (all_done (by omega) HA.out)
        go_wp2_with fail
        go_ret
        exact ⟨ret_bool (by rw [HX.out, HF.out]), bjoin hbr hb2⟩
end Go.Proofs.YtpdnocolmghnbaaDoor.Msg
