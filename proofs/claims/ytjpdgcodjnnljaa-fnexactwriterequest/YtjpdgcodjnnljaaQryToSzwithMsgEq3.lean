import Derived.Test.YtjpdgcodjnnljaaQryReadwithQrySpecOk
import Derived.Test.YtjpdgcodjnnljaaMsgEq2withMsgTo
namespace Go.Proofs.Ytjpdgcodjnnljaa.Msg
open Go.ChangeShapes Go.WideShapes Go.ChangeAt Go.RowKit
set_option linter.unusedVariables false
set_option linter.unusedSimpArgs false

def reqSz (r : Req) : Nat := r.control.size + r.tag.size + r.query.size + r.pointer.size

set_option maxHeartbeats 1000000 in
theorem toReq_any (r : Req) (w : World) : Calls Try.prog 37 #[reqV r] w fun e w' => e = .returned (reqV r) ∧ Below w.heap.size w w' := by
  obtain ⟨kind, control, tag, query, page, pointer⟩ := r
  show Calls Try.prog 37 #[.agg #[.int .i64 kind, .string control, .string tag, .string query, .int .i64 page, .string pointer]] w _
  go_enter Try.func37, Try.ntmps37
  go_wp2_with fail
  exact bodyPost_ret (v := .agg #[.int .i64 kind, .string control, .string tag, .string query, .int .i64 page, .string pointer]) (by simp [results, Try.results37, go_sem]) rfl ⟨rfl, (((Below.refl w.heap.size w).alloc (Nat.le_refl _) _).alloc (by simp) _).alloc (by simp; omega) _⟩

set_option maxHeartbeats 1000000 in
theorem szReq_any (r : Req) (w : World) (h1 : r.control.size ≤ 9223372036854775807) (h2 : r.tag.size ≤ 9223372036854775807) (h3 : r.query.size ≤ 9223372036854775807) (h4 : r.pointer.size ≤ 9223372036854775807) :
    Calls Try.prog 35 #[reqV r, .int .i64 1048576] w fun e w' => e = .returned (.int .i64 (rest 1048576 (reqSz r))) ∧ Below w.heap.size w w' := by
  obtain ⟨kind, control, tag, query, page, pointer⟩ := r
  simp only at h1 h2 h3 h4
  have HB := hide ((Below.refl w.heap.size w).alloc (Nat.le_refl _) (Obj.cells #[.int .i64 kind, .string control, .string tag, .string query, .int .i64 page, .string pointer] 62))
  show Calls Try.prog 35 #[.agg #[.int .i64 kind, .string control, .string tag, .string query, .int .i64 page, .string pointer], .int .i64 1048576] w _
  have HS : Hid (reqSz ⟨kind, control, tag, query, page, pointer⟩ = control.size + tag.size + query.size + pointer.size) := rfl
  by_cases a1 : (1048576 : Int) - control.size < 0
  · have HX := hide (show rest 1048576 (reqSz ⟨kind, control, tag, query, page, pointer⟩) = -1 from rest_no (by rw [HS.out]; omega))
    go_enter Try.func35, Try.ntmps35
    go_wp2_with fail
    go_ret
    exact ⟨ret_int HX.out.symm, HB.out⟩
  by_cases a2 : (1048576 : Int) - control.size - tag.size < 0
  · have HX := hide (show rest 1048576 (reqSz ⟨kind, control, tag, query, page, pointer⟩) = -1 from rest_no (by rw [HS.out]; omega))
    go_enter Try.func35, Try.ntmps35
    go_wp2_with fail
    go_ret
    exact ⟨ret_int HX.out.symm, HB.out⟩
  by_cases a3 : (1048576 : Int) - control.size - tag.size - query.size < 0
  · have HX := hide (show rest 1048576 (reqSz ⟨kind, control, tag, query, page, pointer⟩) = -1 from rest_no (by rw [HS.out]; omega))
    go_enter Try.func35, Try.ntmps35
    go_wp2_with fail
    go_ret
    exact ⟨ret_int HX.out.symm, HB.out⟩
  by_cases a4 : (1048576 : Int) - control.size - tag.size - query.size - pointer.size < 0
  · have HX := hide (show rest 1048576 (reqSz ⟨kind, control, tag, query, page, pointer⟩) = -1 from rest_no (by rw [HS.out]; omega))
    go_enter Try.func35, Try.ntmps35
    go_wp2_with fail
    go_ret
    exact ⟨ret_int HX.out.symm, HB.out⟩
  · have HX := hide (show rest 1048576 (reqSz ⟨kind, control, tag, query, page, pointer⟩) = 1048576 - control.size - tag.size - query.size - pointer.size by rw [rest_yes (by rw [HS.out]; omega), HS.out]; omega)
    go_enter Try.func35, Try.ntmps35
    go_wp2_with fail
    go_ret
    exact ⟨ret_int HX.out.symm, HB.out⟩
end Go.Proofs.Ytjpdgcodjnnljaa.Msg

namespace Go.Proofs.Ytjpdgcodjnnljaa.Msg
open Go.ChangeShapes Go.WideShapes Go.ChangeAt Go.RowKit

set_option maxHeartbeats 400000 in
theorem eqField_any (x : Field) (v u : Value) (w : World) {lo lo2 : Nat} (hv : RepsAt lo w v x) (hu : RepsAt lo2 w u x) :
    Calls Try.prog 145 #[.agg #[v], .agg #[u]] w fun e w' => e = .returned (.bool true) ∧ Below w.heap.size w w' := by
  have hb := ((Below.refl w.heap.size w).alloc (Nat.le_refl _) (Obj.cells #[v] 114)).alloc (by simp) (Obj.cells #[u] 114)
  have hv' := At.kept kept_rep hv hb
  have hu' := At.kept kept_rep hu hb
  go_enter Try.func145, Try.ntmps145
  go_wp2_with fail
  refine (eqReps_any x v u _ hv' hu').mono ?_
  rintro e w' ⟨rfl, hb'⟩
  go_wp2_with fail
  go_ret
  exact ⟨rfl, hb.trans (hb'.mono (by simp; omega))⟩

set_option maxHeartbeats 800000 in
theorem eqFields_any (xs : List Field) (v u : Value) (w : World) {lo lo2 : Nat} (hv : FieldsAt lo w v xs) (hu : FieldsAt lo2 w u xs) :
    Calls Try.prog 128 #[v, u] w fun e w' => e = .returned (.bool true) ∧ Below w.heap.size w w' := by
  obtain ⟨hl, hv⟩ := hv
  obtain ⟨_, hu⟩ := hu
  by_cases hx : xs = []
  · subst hx
    obtain ⟨a0, c0, rfl⟩ : ∃ a c, v = .slice a 0 c := by
      rcases hv with ⟨_, _, rfl, _⟩ | ⟨b, off, cap, rfl, _⟩
      · exact ⟨_, _, rfl⟩
      · exact ⟨_, _, rfl⟩
    obtain ⟨a1, c1, rfl⟩ : ∃ a c, u = .slice a 0 c := by
      rcases hu with ⟨_, _, rfl, _⟩ | ⟨b, off, cap, rfl, _⟩
      · exact ⟨_, _, rfl⟩
      · exact ⟨_, _, rfl⟩
    clear hv hu
    go_enter Try.func128, Try.ntmps128
    go_wp2
    go_loop [5] (fun i => i = .int .i64 0) (fun _ => 0)
    case atStart => rfl
    case round =>
      subst hrel
      go_wp2
      go_ret
      exact ⟨rfl, Below.refl _ _⟩
  · rcases hv with ⟨_, _, _, e⟩ | ⟨b, off, cap, rfl, ⟨_, hlt⟩, hc⟩
    · exact absurd e hx
    rcases hu with ⟨_, _, _, e⟩ | ⟨b2, off2, cap2, rfl, ⟨_, hlt2⟩, hc2⟩
    · exact absurd e hx
    clear hx
    go_enter Try.func128, Try.ntmps128
    go_wp2
    go_loopw [5] (fun i w1 => ∃ k : Nat, k ≤ xs.length ∧ i = .int .i64 k ∧ Below w.heap.size w w1) (fun i _ => xs.length - (intOf i).toNat)
    case atStart => exact ⟨0, Nat.zero_le _, rfl, Below.refl _ _⟩
    case round =>
      obtain ⟨k, hk, rfl, hb⟩ := hrel
      by_cases hk2 : k < xs.length
      · obtain ⟨ve, hcell, hel⟩ := hc k hk2
        obtain ⟨ue, hcell2, hel2⟩ := hc2 k hk2
        have h1 : wr.cell? ⟨b, off + k, none⟩ = some ve := by rw [hb.cell (p := ⟨b, off + k, none⟩) hlt]; simpa using hcell
        have h2 : wr.cell? ⟨b2, off2 + k, none⟩ = some ue := by rw [hb.cell (p := ⟨b2, off2 + k, none⟩) hlt2]; simpa using hcell2
        have g1 : w.cell? ⟨b, off + k, none⟩ = some ve := by simpa using hcell
        have g2 : w.cell? ⟨b2, off2 + k, none⟩ = some ue := by simpa using hcell2
        have hi : (k : Int) < (xs.length : Int) := by omega
        have hi0 : (0 : Int) ≤ (k : Int) := by omega
        have hd := hb.drew
        clear hc hc2 hcell hcell2
        go_wp2
        go_region_held3 (fun w' => w'.cell? ⟨b, off + k, none⟩ = some ve ∧ w'.cell? ⟨b2, off2 + k, none⟩ = some ue ∧ Below w.heap.size w w')
          (first | exact hold2 hd hlt hlt2 g1 g2 | exact hold2 hb9 hlt hlt2 g1 g2)
          ((go_at_call 145; refine (eqField_any xs[k] ve ue _ (by exact At.kept kept_rep hel (by assumption)) (by exact At.kept kept_rep hel2 (by assumption))).mono ?_; rintro e w2 ⟨rfl, hb2⟩; have hb9 : Below w.heap.size w w2 := bjoin hb2 (by assumption)))
        go_wp2
        go_roundw
        case rel => exact ⟨k + 1, by omega, by go_num, hb9⟩
        case measure => simp [intOf]; omega
      · go_wp2
        go_ret
        exact ⟨rfl, hb⟩
set_option maxHeartbeats 400000 in
theorem eqSeg_any (x : Seg) (v u : Value) (w : World) {lo lo2 : Nat} (hv : FieldsAt lo w v x.fields) (hu : FieldsAt lo2 w u x.fields) :
    Calls Try.prog 103 #[.agg #[.string x.name, v], .agg #[.string x.name, u]] w fun e w' => e = .returned (.bool true) ∧ Below w.heap.size w w' := by
  have hb := ((Below.refl w.heap.size w).alloc (Nat.le_refl _) (Obj.cells #[.string x.name, v] 111)).alloc (by simp) (Obj.cells #[.string x.name, u] 111)
  have hv' := At.kept kept_field hv hb
  have hu' := At.kept kept_field hu hb
  go_enter Try.func103, Try.ntmps103
  go_wp2_with fail
  refine (eqFields_any x.fields v u _ hv' hu').mono ?_
  rintro e w' ⟨rfl, hb'⟩
  go_wp2_with fail
  go_ret
  exact ⟨rfl, hb.trans (hb'.mono (by simp; omega))⟩

theorem hold4 {w w' : World} {b o b2 o2 : Nat} {v u n m : Value} (h : Below w.heap.size w w') (h1 : b < w.heap.size) (h2 : b2 < w.heap.size) (g1 : w.cell? ⟨b, o, none⟩ = some n) (g2 : w.cell? ⟨b, o + 1, none⟩ = some v)
    (g3 : w.cell? ⟨b2, o2, none⟩ = some m) (g4 : w.cell? ⟨b2, o2 + 1, none⟩ = some u) :
    w'.cell? ⟨b, o, none⟩ = some n ∧ w'.cell? ⟨b, o + 1, none⟩ = some v ∧ w'.cell? ⟨b2, o2, none⟩ = some m ∧ w'.cell? ⟨b2, o2 + 1, none⟩ = some u ∧ Below w.heap.size w w' :=
  ⟨by rw [h.cell (p := ⟨b, o, none⟩) h1]; exact g1, by rw [h.cell (p := ⟨b, o + 1, none⟩) h1]; exact g2, by rw [h.cell (p := ⟨b2, o2, none⟩) h2]; exact g3, by rw [h.cell (p := ⟨b2, o2 + 1, none⟩) h2]; exact g4, h⟩

set_option maxHeartbeats 800000 in
theorem eqSegs_any (xs : List Seg) (v u : Value) (w : World) {lo lo2 : Nat} (hv : SegsAt lo w v xs) (hu : SegsAt lo2 w u xs) :
    Calls Try.prog 77 #[v, u] w fun e w' => e = .returned (.bool true) ∧ Below w.heap.size w w' := by
  obtain ⟨hl, hv⟩ := hv
  obtain ⟨_, hu⟩ := hu
  by_cases hx : xs = []
  · subst hx
    obtain ⟨a0, c0, rfl⟩ : ∃ a c, v = .slice a 0 c := by
      rcases hv with ⟨_, _, rfl, _⟩ | ⟨b, off, cap, rfl, _⟩
      · exact ⟨_, _, rfl⟩
      · exact ⟨_, _, rfl⟩
    obtain ⟨a1, c1, rfl⟩ : ∃ a c, u = .slice a 0 c := by
      rcases hu with ⟨_, _, rfl, _⟩ | ⟨b, off, cap, rfl, _⟩
      · exact ⟨_, _, rfl⟩
      · exact ⟨_, _, rfl⟩
    clear hv hu
    go_enter Try.func77, Try.ntmps77
    go_wp2
    go_loop [5] (fun i => i = .int .i64 0) (fun _ => 0)
    case atStart => rfl
    case round =>
      subst hrel
      go_wp2
      go_ret
      exact ⟨rfl, Below.refl _ _⟩
  · rcases hv with ⟨_, _, _, e⟩ | ⟨b, off, cap, rfl, ⟨_, hlt⟩, hc⟩
    · exact absurd e hx
    rcases hu with ⟨_, _, _, e⟩ | ⟨b2, off2, cap2, rfl, ⟨_, hlt2⟩, hc2⟩
    · exact absurd e hx
    clear hx
    go_enter Try.func77, Try.ntmps77
    go_wp2
    go_loopw [5] (fun i w1 => ∃ k : Nat, k ≤ xs.length ∧ i = .int .i64 k ∧ Below w.heap.size w w1) (fun i _ => xs.length - (intOf i).toNat)
    case atStart => exact ⟨0, Nat.zero_le _, rfl, Below.refl _ _⟩
    case round =>
      obtain ⟨k, hk, rfl, hb⟩ := hrel
      by_cases hk2 : k < xs.length
      · obtain ⟨g1, _, ve, g2, hel⟩ := hc k hk2
        obtain ⟨g3, _, ue, g4, hel2⟩ := hc2 k hk2
        have h1 : wr.cell? ⟨b, off + k * 2, none⟩ = some (.string xs[k].name) := by rw [hb.cell (p := ⟨b, off + k * 2, none⟩) hlt]; exact g1
        have h2 : wr.cell? ⟨b, off + k * 2 + 1, none⟩ = some ve := by rw [hb.cell (p := ⟨b, off + k * 2 + 1, none⟩) hlt]; exact g2
        have h3 : wr.cell? ⟨b2, off2 + k * 2, none⟩ = some (.string xs[k].name) := by rw [hb.cell (p := ⟨b2, off2 + k * 2, none⟩) hlt2]; exact g3
        have h4 : wr.cell? ⟨b2, off2 + k * 2 + 1, none⟩ = some ue := by rw [hb.cell (p := ⟨b2, off2 + k * 2 + 1, none⟩) hlt2]; exact g4
        have hi : (k : Int) < (xs.length : Int) := by omega
        have hi0 : (0 : Int) ≤ (k : Int) := by omega
        have hd := hb.drew
        clear hc hc2
        go_wp2
        go_region_held3 (fun w' => w'.cell? ⟨b, off + k * 2, none⟩ = some (.string xs[k].name) ∧ w'.cell? ⟨b, off + k * 2 + 1, none⟩ = some ve ∧ w'.cell? ⟨b2, off2 + k * 2, none⟩ = some (.string xs[k].name) ∧ w'.cell? ⟨b2, off2 + k * 2 + 1, none⟩ = some ue ∧ Below w.heap.size w w')
          (first | exact hold4 hd hlt hlt2 g1 g2 g3 g4 | exact hold4 hb9 hlt hlt2 g1 g2 g3 g4)
          ((go_at_call 103; refine (eqSeg_any xs[k] ve ue _ (by exact At.kept kept_field hel (by assumption)) (by exact At.kept kept_field hel2 (by assumption))).mono ?_; rintro e w2 ⟨rfl, hb2⟩; have hb9 : Below w.heap.size w w2 := bjoin hb2 (by assumption)))
        go_wp2
        go_roundw
        case rel => exact ⟨k + 1, by omega, by go_num, hb9⟩
        case measure => simp [intOf]; omega
      · go_wp2
        go_ret
        exact ⟨rfl, hb⟩
set_option maxHeartbeats 400000 in
theorem eqMsg_any (x : List Seg) (v u : Value) (w : World) {lo lo2 : Nat} (hv : SegsAt lo w v x) (hu : SegsAt lo2 w u x) :
    Calls Try.prog 32 #[.agg #[v], .agg #[u]] w fun e w' => e = .returned (.bool true) ∧ Below w.heap.size w w' := by
  have hb := ((Below.refl w.heap.size w).alloc (Nat.le_refl _) (Obj.cells #[v] 55)).alloc (by simp) (Obj.cells #[u] 55)
  have hv' := At.kept kept_seg hv hb
  have hu' := At.kept kept_seg hu hb
  go_enter Try.func32, Try.ntmps32
  go_wp2_with fail
  refine (eqSegs_any x v u _ hv' hu').mono ?_
  rintro e w' ⟨rfl, hb'⟩
  go_wp2_with fail
  go_ret
  exact ⟨rfl, hb.trans (hb'.mono (by simp; omega))⟩

end Go.Proofs.Ytjpdgcodjnnljaa.Msg
