import Derived.Test.YtjpdgcodjnnljaaImplSegWwithImplIn
import Derived.Test.YtjpdgcodjnnljaaParseFieldswithMsgOk
namespace Go.Proofs.Ytjpdgcodjnnljaa.Msg
open Go.ChangeShapes Go.WideShapes Go.ChangeAt Go.RowKit
set_option linter.unusedVariables false
set_option linter.unusedSimpArgs false

set_option maxHeartbeats 1000000 in
theorem segIn_any (x : Seg) (v : Value) (w : World) (hns : x.name.size ≤ 9223372036854775807) {lo : Nat} (hv : FieldsAt lo w v x.fields) :
    Calls Try.prog 101 #[.agg #[.string x.name, v]] w fun e w' => e = .returned (.bool (segI x)) ∧ Below w.heap.size w w' := by
  have hl := hv.1
  have hb := (Below.refl w.heap.size w).alloc (Nat.le_refl _) (Obj.cells #[.string x.name, v] 111)
  have hbox : (w.alloc (Obj.cells #[.string x.name, v] 111)).cell? ⟨w.heap.size, 1, none⟩ = some v := by simp
  have hv1 := At.kept kept_field hv hb
  have HR : Hid (segI x = (nameB x.name && (csB 30 List.length x.fields && x.fields.all fieldI))) := rfl
  have HBX := hide hbox
  clear hbox hv
  cases hn : nameB x.name
  · have HX : Hid (segI x = false) := by rw [HR.out, hn]; rfl
    have HN := hide hn
    clear hn
    go_enter Try.func101, Try.ntmps101
    go_wp2_with fail
    refine (isSegmentName_any x.name _ hns).mono ?_
    rintro e w' ⟨rfl, rfl⟩
    rw [HN.out]
    go_wp2_with fail
    go_ret
    exact ⟨ret_bool HX.out.symm, hb⟩
  have HN := hide hn
  clear hn
  cases hcs : csB 30 List.length x.fields
  · have HX : Hid (segI x = false) := by rw [HR.out, hcs, Bool.false_and, Bool.and_false]; trivial
    have HS := hide hcs
    clear hcs
    go_enter Try.func101, Try.ntmps101
    go_wp2_with fail
    refine (isSegmentName_any x.name _ hns).mono ?_
    rintro e w' ⟨rfl, rfl⟩
    rw [HN.out]
    go_wp2_with fail
    refine (cutShortF_any x.fields 30 _ _ hv1 (by omega)).mono ?_
    rintro e w1 ⟨rfl, hb1⟩
    rw [HS.out]
    clear hv1
    go_wp2_with fail
    go_ret
    exact ⟨ret_bool HX.out.symm, bjoin hb1 hb⟩
  · have HX : Hid (segI x = x.fields.all fieldI) := by rw [HR.out, hcs, HN.out]; rfl
    have HS := hide hcs
    clear hcs
    go_enter Try.func101, Try.ntmps101
    go_wp2_with fail
    refine (isSegmentName_any x.name _ hns).mono ?_
    rintro e w' ⟨rfl, rfl⟩
    rw [HN.out]
    go_wp2_with fail
    refine (cutShortF_any x.fields 30 _ _ hv1 (by omega)).mono ?_
    rintro e w1 ⟨rfl, hb1⟩
    rw [HS.out]
    have hbox1 : w1.cell? ⟨w.heap.size, 1, none⟩ = some v := by rw [hb1.cell (p := ⟨w.heap.size, 1, none⟩) (by simp)]; exact HBX.out
    have hv2 := At.kept kept_field hv1 hb1
    have hb2 := bjoin hb1 hb
    clear hv1 hb1 HBX hb
    obtain ⟨a, cap, rfl, hc⟩ := hv2.form
    have HC := hide hc
    clear hc hv2
    go_wp2_with fail
    clear hbox1
    go_loopw [18] (fun i wr => ∃ k : Nat, k ≤ x.fields.length ∧ i = .int .i64 k ∧ (x.fields.take k).all fieldI = true ∧ Below w1.heap.size w1 wr) (fun i _ => x.fields.length - (intOf i).toNat)
    case atStart => exact ⟨0, Nat.zero_le _, rfl, rfl, Below.refl _ _⟩
    case round =>
      obtain ⟨k, hk, rfl, hall, hbr⟩ := hrel
      have HA := hide hall
      clear hall
      by_cases hlt : k < x.fields.length
      · obtain ⟨b, off, rfl, _, hbl, ve, hcell, hel⟩ := HC.out k hlt
        obtain ⟨a5, cap5, rfl, _⟩ := hel.form
        have hcell' : wr.cell? ⟨b, off + k, none⟩ = some (.slice a5 x.fields[k].length cap5) := by rw [hbr.cell (p := ⟨b, off + k, none⟩) hbl]; simpa using hcell
        have hbr2 := hbr.alloc hbr.size (Obj.cells #[.slice a5 x.fields[k].length cap5] 114)
        have hel' := At.kept kept_rep hel hbr2
        clear hcell hel
        go_wp2_with fail
        refine (fieldIn_any x.fields[k] _ _ hel').mono ?_
        rintro e w2 ⟨rfl, hb3⟩
        have hb4 : Below w1.heap.size w1 w2 := bjoin hb3 hbr2
        clear hbr hbr2 hb3 hcell' hel'
        cases hp : fieldI x.fields[k]
        · have HF := hide (all_fail hlt hp)
          clear hp
          go_wp2_with fail
          go_ret
          exact ⟨ret_bool (by rw [HX.out, HF.out]), bjoin hb4 hb2⟩
        · have HF := hide (all_step hlt HA.out hp)
          clear hp
          go_wp2_with fail
          go_roundw
          case rel => exact ⟨k + 1, by omega, by go_num, HF.out, hb4⟩
          case measure => simp [intOf]; omega
      · have HF := hide (all_done (by omega) HA.out)
        go_wp2_with fail
        go_ret
        exact ⟨ret_bool (by rw [HX.out, HF.out]), bjoin hbr hb2⟩
end Go.Proofs.Ytjpdgcodjnnljaa.Msg

namespace Go.Proofs.Ytjpdgcodjnnljaa.Msg
open Go.ChangeShapes Go.WideShapes Go.ChangeAt Go.RowKit
set_option linter.unusedVariables false
set_option linter.unusedSimpArgs false

set_option maxHeartbeats 1000000 in
theorem repOk_any (x : Rep) (v : Value) (w : World) {lo : Nat} (hv : StrsAt lo w v x) :
    Calls Try.prog 149 #[.agg #[v]] w fun e w' => e = .returned (.bool (repB x)) ∧ Below w.heap.size w w' := by
  have hl := hv.1
  have hb := (Below.refl w.heap.size w).alloc (Nat.le_refl _) (Obj.cells #[v] 116)
  obtain ⟨a, cap, rfl, hc⟩ := (At.kept kept_str hv hb).form
  have HC := hide hc
  clear hc hv
  have HR : Hid (repB x = (decide (x.length ≤ 20) && (endB ByteArray.size x && x.all plainB))) := rfl
  by_cases h20 : (20 : Int) < (x.length : Int)
  · go_enter Try.func149, Try.ntmps149
    go_wp2_with fail
    go_ret
    exact ⟨ret_bool (by rw [HR.out, decide_eq_false (by omega)]; rfl), hb⟩
  · have HLoop : Hid (endB ByteArray.size x = true → repB x = x.all plainB) := fun he => by rw [HR.out, he, decide_eq_true (by omega)]; rfl
    by_cases h0 : x.length = 0
    · have hz : ¬ (0 : Int) < (x.length : Int) := by omega
      have HE := hide (endB_nil ByteArray.size x h0)
      have hx : x = [] := List.length_eq_zero_iff.1 h0
      have HX : Hid (repB x = true) := by rw [HLoop.out HE.out, hx]; rfl
      clear hx h0
      go_enter Try.func149, Try.ntmps149
      go_wp2_with fail
      go_loop [4] (fun i => i = .int .i64 0) (fun _ => 0)
      case atStart => rfl
      case round =>
        subst hrel
        go_wp2_with fail
        go_ret
        exact ⟨ret_bool HX.out.symm, hb⟩
    · have hz : (0 : Int) < (x.length : Int) := by omega
      have hi : x.length - 1 < x.length := by omega
      obtain ⟨b, off, rfl, _, hbl, hr⟩ := HC.out (x.length - 1) hi
      have hlast : (w.alloc (Obj.cells #[.slice (some ⟨b, off, none⟩) x.length cap] 116)).cell? ⟨b, off + (x.length - 1), none⟩ = some (.string (x[x.length - 1]'hi)) := by simpa using hr.1
      have hsz : (x[x.length - 1]'hi).size ≤ 9223372036854775807 := hr.2
      have HE : Hid (endB ByteArray.size x = decide (0 < (x[x.length - 1]'hi).size)) := endB_at ByteArray.size x (by omega)
      clear hr
      generalize x[x.length - 1]'hi = z at *
      have hn1 : ((x.length : Int) - 1).toNat = x.length - 1 := by omega
      by_cases hl0 : z.size = 0
      · have hl' : ((z.size : Int) == 0) = true := by rw [beq_iff_eq]; omega
        have HX : Hid (repB x = false) := by rw [HR.out, HE.out, decide_eq_false (p := 0 < z.size) (by omega), Bool.false_and, Bool.and_false]; trivial
        clear hl0
        go_enter Try.func149, Try.ntmps149
        go_wp2_with fail
        go_ret
        exact ⟨ret_bool HX.out.symm, hb⟩
      · have hl' : ((z.size : Int) == 0) = false := by rw [beq_eq_false_iff_ne]; omega
        have HX : Hid (repB x = x.all plainB) := HLoop.out (by rw [HE.out]; exact decide_eq_true (by omega))
        clear hl0
        go_enter Try.func149, Try.ntmps149
        go_wp2_with fail
        clear hl' hlast hsz hn1
        go_loop [4] (fun i => ∃ k : Nat, k ≤ x.length ∧ i = .int .i64 k ∧ (x.take k).all plainB = true) (fun i => x.length - (intOf i).toNat)
        case atStart => exact ⟨0, Nat.zero_le _, rfl, rfl⟩
        case round =>
          obtain ⟨k, hk, rfl, hall⟩ := hrel
          have HA := hide hall
          clear hall
          by_cases hlt : k < x.length
          · obtain ⟨b', off', e, _, _, hr⟩ := HC.out k hlt
            simp only [Option.some.injEq, Addr.mk.injEq, and_true] at e
            obtain ⟨rfl, rfl⟩ := e
            have hcell : (w.alloc (Obj.cells #[.slice (some ⟨b, off, none⟩) x.length cap] 116)).cell? ⟨b, off + k, none⟩ = some (.string x[k]) := by simpa using hr.1
            have hsz := hr.2
            clear hr
            go_wp2_with fail
            refine (plain_any x[k] _ hsz).mono ?_
            rintro e w' ⟨rfl, rfl⟩
            cases hp : plainB x[k]
            · have HF := hide (all_fail hlt hp)
              clear hp
              go_wp2_with fail
              go_ret
              exact ⟨ret_bool (by rw [HX.out, HF.out]), hb⟩
            · have HF := hide (all_step hlt HA.out hp)
              clear hp
              go_wp2_with fail
              go_round
              case rel => exact ⟨k + 1, by omega, by go_num, HF.out⟩
              case measure => simp [intOf]; omega
          · have HF := hide (all_done (by omega) HA.out)
            go_wp2_with fail
            go_ret
            exact ⟨ret_bool (by rw [HX.out, HF.out]), hb⟩
end Go.Proofs.Ytjpdgcodjnnljaa.Msg
