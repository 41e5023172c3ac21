import Derived.Test.YtfcmhnfdbobnlaaGreatDoorMsgOk
namespace Go.Proofs.YtfcmhnfdbobnlaaGreatDoor.Msg
open Go.ChangeShapes Go.WideShapes Go.ChangeAt Go.RowKit
set_option linter.unusedVariables false
set_option linter.unusedSimpArgs false

set_option maxHeartbeats 1000000 in
theorem repOk_any (x : Rep) (v : Value) (w : World) {lo : Nat} (hv : StrsAt lo w v x) :
    Calls Tryz.prog 100 #[.agg #[v]] w fun e w' => e = .returned (.bool (repB x)) ∧ Below w.heap.size w w' := by
  have hl := hv.1
  have hb := (Below.refl w.heap.size w).alloc (Nat.le_refl _) (Obj.cells #[v] 62)
  obtain ⟨a, cap, rfl, hc⟩ := (At.kept kept_str hv hb).form
  have HC := hide hc
  clear hc hv
  have HR : Hid (repB x = (decide (x.length ≤ 20) && (endB ByteArray.size x && x.all plainB))) := rfl
  by_cases h20 : (20 : Int) < (x.length : Int)
  · go_enter Tryz.func100, Tryz.ntmps100
    go_wp2_with fail
    go_ret
    exact ⟨ret_bool (by rw [HR.out, decide_eq_false (by omega)]; rfl), hb⟩
  · have HLoop : Hid (endB ByteArray.size x = true → repB x = x.all plainB) := fun he => by rw [HR.out, he, decide_eq_true (by omega)]; rfl
    by_cases h0 : x.length = 0
    · have hz : ¬ (0 : Int) < (x.length : Int) := by omega
      have HE := hide (endB_nil ByteArray.size x h0)
      have hx : x = [] := List.length_eq_zero_iff.1 h0
      have HX : Hid (repB x = true) := by rw [HLoop.out HE.out, hx]; rfl
      clear hx h0
      go_enter Tryz.func100, Tryz.ntmps100
      go_wp2_with fail
      go_loop [4] (fun i => i = .int .i64 0) (fun _ => 0)
      case atStart => rfl
      case round =>
        subst hrel
        go_wp2_with fail
        go_ret
        exact ⟨ret_bool HX.out.symm, hb⟩
    · have hz : (0 : Int) < (x.length : Int) := by omega
      have hi : x.length - 1 < x.length := by omega
      obtain ⟨b, off, rfl, _, hbl, hr⟩ := HC.out (x.length - 1) hi
      have hlast : (w.alloc (Obj.cells #[.slice (some ⟨b, off, none⟩) x.length cap] 62)).cell? ⟨b, off + (x.length - 1), none⟩ = some (.string (x[x.length - 1]'hi)) := by simpa using hr.1
      have hsz : (x[x.length - 1]'hi).size ≤ 9223372036854775807 := hr.2
      have HE : Hid (endB ByteArray.size x = decide (0 < (x[x.length - 1]'hi).size)) := endB_at ByteArray.size x (by omega)
      clear hr
      generalize x[x.length - 1]'hi = z at *
      have hn1 : ((x.length : Int) - 1).toNat = x.length - 1 := by omega
      by_cases hl0 : z.size = 0
      · have hl' : ((z.size : Int) == 0) = true := by rw [beq_iff_eq]; omega
        have HX : Hid (repB x = false) := by rw [HR.out, HE.out, decide_eq_false (p := 0 < z.size) (by omega), Bool.false_and, Bool.and_false]; trivial
        clear hl0
        go_enter Tryz.func100, Tryz.ntmps100
        go_wp2_with fail
        go_ret
        exact ⟨ret_bool HX.out.symm, hb⟩
      · have hl' : ((z.size : Int) == 0) = false := by rw [beq_eq_false_iff_ne]; omega
        have HX : Hid (repB x = x.all plainB) := HLoop.out (by rw [HE.out]; exact decide_eq_true (by omega))
        clear hl0
        go_enter Tryz.func100, Tryz.ntmps100
        go_wp2_with fail
        clear hl' hlast hsz hn1
        go_loop [4] (fun i => ∃ k : Nat, k ≤ x.length ∧ i = .int .i64 k ∧ (x.take k).all plainB = true) (fun i => x.length - (intOf i).toNat)
        case atStart => exact ⟨0, Nat.zero_le _, rfl, rfl⟩
        case round =>
          obtain ⟨k, hk, rfl, hall⟩ := hrel
          have HA := hide hall
          clear hall
          by_cases hlt : k < x.length
          · obtain ⟨b', off', e, _, _, hr⟩ := HC.out k hlt
            simp only [Option.some.injEq, Addr.mk.injEq, and_true] at e
            obtain ⟨rfl, rfl⟩ := e
            have hcell : (w.alloc (Obj.cells #[.slice (some ⟨b, off, none⟩) x.length cap] 62)).cell? ⟨b, off + k, none⟩ = some (.string x[k]) := by simpa using hr.1
            have hsz := hr.2
            clear hr
            go_wp2_with fail
            refine (plain_any x[k] _ hsz).mono ?_
            rintro e w' ⟨rfl, rfl⟩
            cases hp : plainB x[k]
            · have HF := hide (all_fail hlt hp)
              clear hp
              go_wp2_with fail
              go_ret
              exact ⟨ret_bool (by rw [HX.out, HF.out]), hb⟩
            · have HF := hide (all_step hlt HA.out hp)
              clear hp
              go_wp2_with fail
              go_round
              case rel => exact ⟨k + 1, by omega, by go_num, HF.out⟩
              case measure => simp [intOf]; omega
          · have HF := hide (all_done (by omega) HA.out)
            go_wp2_with fail
            go_ret
            exact ⟨ret_bool (by rw [HX.out, HF.out]), hb⟩
end Go.Proofs.YtfcmhnfdbobnlaaGreatDoor.Msg

namespace Go.Proofs.YtfcmhnfdbobnlaaGreatDoor.Msg
open Go.ChangeShapes Go.WideShapes Go.ChangeAt Go.RowKit
set_option linter.unusedVariables false
set_option linter.unusedSimpArgs false

set_option maxHeartbeats 1000000 in
theorem fieldOk_any (x : Field) (v : Value) (w : World) {lo : Nat} (hv : RepsAt lo w v x) :
    Calls Tryz.prog 83 #[.agg #[v]] w fun e w' => e = .returned (.bool (fieldB x)) ∧ Below w.heap.size w w' := by
  have hl := hv.1
  have hb := (Below.refl w.heap.size w).alloc (Nat.le_refl _) (Obj.cells #[v] 60)
  have hbox : (w.alloc (Obj.cells #[v] 60)).cell? ⟨w.heap.size, 0, none⟩ = some v := by simp
  obtain ⟨a, cap, rfl, hc⟩ := (At.kept kept_rep hv hb).form
  have HC := hide hc
  clear hc hv
  have HR : Hid (fieldB x = (decide (x.length ≤ 30) && (endB List.length x && x.all repB))) := rfl
  by_cases h30 : (30 : Int) < (x.length : Int)
  · clear hbox
    go_enter Tryz.func83, Tryz.ntmps83
    go_wp2_with fail
    go_ret
    exact ⟨ret_bool (by rw [HR.out, decide_eq_false (by omega)]; rfl), hb⟩
  · have HLoop : Hid (endB List.length x = true → fieldB x = x.all repB) := fun he => by rw [HR.out, he, decide_eq_true (by omega)]; rfl
    by_cases h0 : x.length = 0
    · have hz : ¬ (0 : Int) < (x.length : Int) := by omega
      have HE := hide (endB_nil List.length x h0)
      have hx : x = [] := List.length_eq_zero_iff.1 h0
      have HX : Hid (fieldB x = true) := by rw [HLoop.out HE.out, hx]; rfl
      clear hx h0 hbox
      go_enter Tryz.func83, Tryz.ntmps83
      go_wp2_with fail
      go_loop [4] (fun i => i = .int .i64 0) (fun _ => 0)
      case atStart => rfl
      case round =>
        subst hrel
        go_wp2_with fail
        go_ret
        exact ⟨ret_bool HX.out.symm, hb⟩
    · have hz : (0 : Int) < (x.length : Int) := by omega
      have hi : x.length - 1 < x.length := by omega
      obtain ⟨b, off, rfl, _, hbl, ve, hcell, hel⟩ := HC.out (x.length - 1) hi
      have hlast : (w.alloc (Obj.cells #[.slice (some ⟨b, off, none⟩) x.length cap] 60)).cell? ⟨b, off + (x.length - 1), none⟩ = some ve := by simpa using hcell
      have HE : Hid (endB List.length x = decide (0 < (x[x.length - 1]'hi).length)) := endB_at List.length x (by omega)
      have hsz : (x[x.length - 1]'hi).length ≤ 9223372036854775807 := hel.1
      obtain ⟨a5, cap5, rfl, _⟩ := hel.form
      clear hcell hel
      generalize x[x.length - 1]'hi = z at *
      have hn1 : ((x.length : Int) - 1).toNat = x.length - 1 := by omega
      by_cases hl0 : z.length = 0
      · have hl' : ((z.length : Int) == 0) = true := by rw [beq_iff_eq]; omega
        have HX : Hid (fieldB x = false) := by rw [HR.out, HE.out, decide_eq_false (p := 0 < z.length) (by omega), Bool.false_and, Bool.and_false]; trivial
        clear hl0 hbox
        go_enter Tryz.func83, Tryz.ntmps83
        go_wp2_with fail
        go_ret
        exact ⟨ret_bool HX.out.symm, hb⟩
      · have hl' : ((z.length : Int) == 0) = false := by rw [beq_eq_false_iff_ne]; omega
        have HX : Hid (fieldB x = x.all repB) := HLoop.out (by rw [HE.out]; exact decide_eq_true (by omega))
        have HBX := hide hbox
        clear hl0 hbox
        go_enter Tryz.func83, Tryz.ntmps83
        go_wp2_with fail
        clear hl' hlast hsz hn1
        go_loopw [4] (fun i wr => ∃ k : Nat, k ≤ x.length ∧ i = .int .i64 k ∧ (x.take k).all repB = true ∧ Below (w.heap.size + 1) (w.alloc (Obj.cells #[.slice (some ⟨b, off, none⟩) x.length cap] 60)) wr) (fun i _ => x.length - (intOf i).toNat)
        case atStart => exact ⟨0, Nat.zero_le _, rfl, rfl, Below.refl _ _⟩
        case round =>
          obtain ⟨k, hk, rfl, hall, hbr⟩ := hrel
          have HA := hide hall
          clear hall
          have hbw : Below w.heap.size w wr := hb.trans (hbr.mono (by omega))
          have hbox : wr.cell? ⟨w.heap.size, 0, none⟩ = some (.slice (some ⟨b, off, none⟩) x.length cap) := by rw [hbr.cell (p := ⟨w.heap.size, 0, none⟩) (by simp)]; exact HBX.out
          have hbr' : Below (w.alloc (Obj.cells #[.slice (some ⟨b, off, none⟩) x.length cap] 60)).heap.size (w.alloc (Obj.cells #[.slice (some ⟨b, off, none⟩) x.length cap] 60)) wr := by simpa using hbr
          by_cases hlt : k < x.length
          · obtain ⟨b', off', e, _, hbl', ve, hcell, hel⟩ := HC.out k hlt
            simp only [Option.some.injEq, Addr.mk.injEq, and_true] at e
            obtain ⟨rfl, rfl⟩ := e
            have hcell' : wr.cell? ⟨b, off + k, none⟩ = some ve := by rw [hbr'.cell (p := ⟨b, off + k, none⟩) hbl']; simpa using hcell
            have hel' := At.kept kept_str hel hbr'
            clear hcell hel
            go_wp2_with fail
            refine (repOk_any x[k] ve _ hel').mono ?_
            rintro e w2 ⟨rfl, hb2⟩
            have hb3 : Below (w.heap.size + 1) (w.alloc (Obj.cells #[.slice (some ⟨b, off, none⟩) x.length cap] 60)) w2 := hbr.trans (hb2.mono (by have := hbr.size; simp at this; omega))
            clear hbr hbr' hb2 hcell' hel' hbox
            cases hp : repB x[k]
            · have HF := hide (all_fail hlt hp)
              clear hp
              go_wp2_with fail
              go_ret
              exact ⟨ret_bool (by rw [HX.out, HF.out]), hb.trans (hb3.mono (by omega))⟩
            · have HF := hide (all_step hlt HA.out hp)
              clear hp
              go_wp2_with fail
              go_roundw
              case rel => exact ⟨k + 1, by omega, by go_num, HF.out, hb3⟩
              case measure => simp [intOf]; omega
          · have HF := hide (all_done (by omega) HA.out)
            go_wp2_with fail
            go_ret
            exact ⟨ret_bool (by rw [HX.out, HF.out]), hbw⟩
end Go.Proofs.YtfcmhnfdbobnlaaGreatDoor.Msg

namespace Go.Proofs.YtfcmhnfdbobnlaaGreatDoor.Msg
open Go.ChangeShapes Go.WideShapes Go.ChangeAt Go.RowKit
set_option linter.unusedVariables false
set_option linter.unusedSimpArgs false

set_option maxHeartbeats 2000000 in
theorem segOk_any (x : Seg) (first : Bool) (v : Value) (w : World) (hns : x.name.size ≤ 9223372036854775807) {lo : Nat} (hv : FieldsAt lo w v x.fields) :
    Calls Tryz.prog 68 #[.agg #[.string x.name, v], .bool first] w fun e w' => e = .returned (.bool (segB first x)) ∧ Below w.heap.size w w' := by
  have hl := hv.1
  have hb := (Below.refl w.heap.size w).alloc (Nat.le_refl _) (Obj.cells #[.string x.name, v] 45)
  have hbox : (w.alloc (Obj.cells #[.string x.name, v] 45)).cell? ⟨w.heap.size, 1, none⟩ = some v := by simp
  obtain ⟨a, cap, rfl, hc⟩ := (At.kept kept_field hv hb).form
  have HC := hide hc
  clear hc hv
  have HBX := hide hbox
  clear hbox
  have HR : Hid (segB first x = (nameB x.name && ((mshB x.name == first) && (decide (x.fields.length ≤ 30) && (endB List.length x.fields && x.fields.all fieldB))))) := rfl
  have HM : Hid (mshB x.name = (x.name.toList == [77, 83, 72])) := rfl
  cases hn : nameB x.name
  · have HX : Hid (segB first x = false) := by rw [HR.out, hn]; rfl
    have HN := hide hn
    clear hn
    go_enter Tryz.func68, Tryz.ntmps68
    go_wp2_with fail
    refine (segName_any x.name _ hns).mono ?_
    rintro e w' ⟨rfl, rfl⟩
    rw [HN.out]
    go_wp2_with fail
    go_ret
    exact ⟨ret_bool HX.out.symm, hb⟩
  · have HN := hide hn
    clear hn
    by_cases hm : mshB x.name = first
    · have hm' : (x.name.toList == [77, 83, 72]) = first := by rw [← HM.out]; exact hm
      have HR2 : Hid (segB first x = (decide (x.fields.length ≤ 30) && (endB List.length x.fields && x.fields.all fieldB))) := by rw [HR.out, HN.out, hm, beq_self_eq_true, Bool.true_and, Bool.true_and]; trivial
      clear hm
      by_cases h30 : (30 : Int) < (x.fields.length : Int)
      · go_enter Tryz.func68, Tryz.ntmps68
        go_wp2_with fail
        refine (segName_any x.name _ hns).mono ?_
        rintro e w' ⟨rfl, rfl⟩
        rw [HN.out]
        go_wp2_with fail
        go_ret
        exact ⟨ret_bool (by rw [HR2.out, decide_eq_false (by omega)]; rfl), hb⟩
      · have HLoop : Hid (endB List.length x.fields = true → segB first x = x.fields.all fieldB) := fun he => by rw [HR2.out, he, decide_eq_true (by omega)]; rfl
        by_cases h0 : x.fields.length = 0
        · have hz : ¬ (0 : Int) < (x.fields.length : Int) := by omega
          have HE := hide (endB_nil List.length x.fields h0)
          have hx : x.fields = [] := List.length_eq_zero_iff.1 h0
          have HX : Hid (segB first x = true) := by rw [HLoop.out HE.out, hx]; rfl
          clear hx h0
          go_enter Tryz.func68, Tryz.ntmps68
          go_wp2_with fail
          refine (segName_any x.name _ hns).mono ?_
          rintro e w' ⟨rfl, rfl⟩
          rw [HN.out]
          go_wp2_with fail
          go_loop [6] (fun i => i = .int .i64 0) (fun _ => 0)
          case atStart => rfl
          case round =>
            subst hrel
            go_wp2_with fail
            go_ret
            exact ⟨ret_bool HX.out.symm, hb⟩
        · have hz : (0 : Int) < (x.fields.length : Int) := by omega
          have hi : x.fields.length - 1 < x.fields.length := by omega
          obtain ⟨b, off, rfl, _, hbl, ve, hcell, hel⟩ := HC.out (x.fields.length - 1) hi
          have hlast : (w.alloc (Obj.cells #[.string x.name, .slice (some ⟨b, off, none⟩) x.fields.length cap] 45)).cell? ⟨b, off + (x.fields.length - 1), none⟩ = some ve := by simpa using hcell
          have HE : Hid (endB List.length x.fields = decide (0 < (x.fields[x.fields.length - 1]'hi).length)) := endB_at List.length x.fields (by omega)
          have hsz : (x.fields[x.fields.length - 1]'hi).length ≤ 9223372036854775807 := hel.1
          obtain ⟨a5, cap5, rfl, _⟩ := hel.form
          clear hcell hel
          generalize x.fields[x.fields.length - 1]'hi = z at *
          have hn1 : ((x.fields.length : Int) - 1).toNat = x.fields.length - 1 := by omega
          by_cases hl0 : z.length = 0
          · have hl' : ((z.length : Int) == 0) = true := by rw [beq_iff_eq]; omega
            have HX : Hid (segB first x = false) := by rw [HR2.out, HE.out, decide_eq_false (p := 0 < z.length) (by omega), Bool.false_and, Bool.and_false]; trivial
            clear hl0
            go_enter Tryz.func68, Tryz.ntmps68
            go_wp2_with fail
            refine (segName_any x.name _ hns).mono ?_
            rintro e w' ⟨rfl, rfl⟩
            rw [HN.out]
            go_wp2_with fail
            go_ret
            exact ⟨ret_bool HX.out.symm, hb⟩
          · have hl' : ((z.length : Int) == 0) = false := by rw [beq_eq_false_iff_ne]; omega
            have HX : Hid (segB first x = x.fields.all fieldB) := HLoop.out (by rw [HE.out]; exact decide_eq_true (by omega))
            clear hl0
            go_enter Tryz.func68, Tryz.ntmps68
            go_wp2_with fail
            refine (segName_any x.name _ hns).mono ?_
            rintro e w' ⟨rfl, rfl⟩
            rw [HN.out]
            go_wp2_with fail
            clear hl' hlast hsz hn1 hm'
            go_loopw [6] (fun i wr => ∃ k : Nat, k ≤ x.fields.length ∧ i = .int .i64 k ∧ (x.fields.take k).all fieldB = true ∧ Below (w.heap.size + 1) (w.alloc (Obj.cells #[.string x.name, .slice (some ⟨b, off, none⟩) x.fields.length cap] 45)) wr) (fun i _ => x.fields.length - (intOf i).toNat)
            case atStart => exact ⟨0, Nat.zero_le _, rfl, rfl, Below.refl _ _⟩
            case round =>
              obtain ⟨k, hk, rfl, hall, hbr⟩ := hrel
              have HA := hide hall
              clear hall
              have hbw : Below w.heap.size w wr := hb.trans (hbr.mono (by omega))
              have hbox : wr.cell? ⟨w.heap.size, 1, none⟩ = some (.slice (some ⟨b, off, none⟩) x.fields.length cap) := by rw [hbr.cell (p := ⟨w.heap.size, 1, none⟩) (by simp)]; exact HBX.out
              have hbr' : Below (w.alloc (Obj.cells #[.string x.name, .slice (some ⟨b, off, none⟩) x.fields.length cap] 45)).heap.size (w.alloc (Obj.cells #[.string x.name, .slice (some ⟨b, off, none⟩) x.fields.length cap] 45)) wr := by simpa using hbr
              by_cases hlt : k < x.fields.length
              · obtain ⟨b', off', e, _, hbl', ve, hcell, hel⟩ := HC.out k hlt
                simp only [Option.some.injEq, Addr.mk.injEq, and_true] at e
                obtain ⟨rfl, rfl⟩ := e
                have hcell' : wr.cell? ⟨b, off + k, none⟩ = some ve := by rw [hbr'.cell (p := ⟨b, off + k, none⟩) hbl']; simpa using hcell
                have hel' := At.kept kept_rep hel hbr'
                clear hcell hel
                go_wp2_with fail
                refine (fieldOk_any x.fields[k] ve _ hel').mono ?_
                rintro e w2 ⟨rfl, hb2⟩
                have hb3 : Below (w.heap.size + 1) (w.alloc (Obj.cells #[.string x.name, .slice (some ⟨b, off, none⟩) x.fields.length cap] 45)) w2 := hbr.trans (hb2.mono (by have := hbr.size; simp at this; omega))
                clear hbr hbr' hb2 hcell' hel' hbox
                cases hp : fieldB x.fields[k]
                · have HF := hide (all_fail hlt hp)
                  clear hp
                  go_wp2_with fail
                  go_ret
                  exact ⟨ret_bool (by rw [HX.out, HF.out]), hb.trans (hb3.mono (by omega))⟩
                · have HF := hide (all_step hlt HA.out hp)
                  clear hp
                  go_wp2_with fail
                  go_roundw
                  case rel => exact ⟨k + 1, by omega, by go_num, HF.out, hb3⟩
                  case measure => simp [intOf]; omega
              · have HF := hide (all_done (by omega) HA.out)
                go_wp2_with fail
                go_ret
                exact ⟨ret_bool (by rw [HX.out, HF.out]), hbw⟩
    · have hm' : (x.name.toList == [77, 83, 72]) = !first := by rw [← HM.out]; revert hm; cases mshB x.name <;> cases first <;> simp
      have HX : Hid (segB first x = false) := by rw [HR.out, beq_eq_false_iff_ne.2 hm, Bool.false_and, Bool.and_false]; trivial
      clear hm
      go_enter Tryz.func68, Tryz.ntmps68
      go_wp2_with fail
      refine (segName_any x.name _ hns).mono ?_
      rintro e w' ⟨rfl, rfl⟩
      rw [HN.out]
      go_wp2_with fail
      go_ret
      exact ⟨ret_bool HX.out.symm, hb⟩
end Go.Proofs.YtfcmhnfdbobnlaaGreatDoor.Msg
