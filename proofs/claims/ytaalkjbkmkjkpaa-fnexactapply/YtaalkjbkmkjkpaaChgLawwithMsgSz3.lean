import Derived.Test.YtaalkjbkmkjkpaaChgPurewithMsgTo2
import Derived.Test.YtaalkjbkmkjkpaaMsgDatawithMsgSz
import Derived.Test.YtaalkjbkmkjkpaaMsgSz2withMsgEq
import Derived.Test.YtaalkjbkmkjkpaaMsgEq2withMsgTo
namespace Go.Proofs.Ytaalkjbkmkjkpaa.Msg
open Go.ChangeShapes Go.WideShapes Go.ChangeAt Go.RowKit
set_option linter.unusedVariables false
set_option linter.unusedSimpArgs false

/-! the laws' own functions over changes -/
def chgSz (c : Chg) : Nat := c.tag.size + c.query.size + repSz c.rows

set_option maxHeartbeats 2000000 in
theorem toChg_any (c : Chg) (v : Value) (w : World) {lo : Nat} (hn : c.rows.length ≤ 1048576) (hv : StrsAt lo w v c.rows) :
    Calls Try.prog 8 #[chgV c v] w fun e w' => ∃ u, e = .returned (chgV c u) ∧ StrsAt w.heap.size w' u c.rows ∧ Below w.heap.size w w' := by
  obtain ⟨kind, client, tag, query, page, rows, n⟩ := c
  simp only at hn hv
  obtain ⟨a, cap, hf, _⟩ := hv.form
  subst hf
  show Calls Try.prog 8 #[.agg #[.int .i64 kind, .int .i64 client, .string tag, .string query, .int .i64 page, .slice a rows.length cap, .int .i64 n]] w _
  have HB0 := hide ((((Below.refl w.heap.size w).alloc (Nat.le_refl _) (Obj.cells #[.int .i64 kind, .int .i64 client, .string tag, .string query, .int .i64 page, .slice a rows.length cap, .int .i64 n] 27)).alloc (by simp) (Obj.cells #[.int .i64 0, .int .i64 0, .string ⟨#[]⟩, .string ⟨#[]⟩, .int .i64 0, .slice none 0 0, .int .i64 0] 36)).alloc (by simp; omega) (Obj.cells #[.int .i64 kind, .int .i64 client, .string tag, .string query, .int .i64 page, .slice none 0 0, .int .i64 0] 36))
  have HTO := hide (fun W hW => toStrs_any rows (.slice a rows.length cap) W hn (At.kept kept_str hv (w' := W) hW))
  clear hv
  go_enter Try.func8, Try.ntmps8
  go_wp2_with fail
  refine (HTO.out _ HB0.out).mono ?_
  rintro e w4 ⟨u, rfl, hu, hb⟩
  obtain ⟨hc, hf⟩ := bcells hb
  have hz : w.heap.size + 2 < w4.heap.size := by have := hb.size; simp at this; omega
  obtain ⟨a2, cap2, rfl, _⟩ := hu.form
  have HU := hide hu
  have HB := hide hb
  clear hu hb
  go_wp2_with fail
  refine bodyPost_ret (v := .agg #[.int .i64 kind, .int .i64 client, .string tag, .string query, .int .i64 page, .slice a2 rows.length cap2, .int .i64 n]) (by simp [results, Try.results8, go_sem, hc, hz]) rfl ⟨.slice a2 rows.length cap2, rfl, ?_, ?_⟩
  · have hu2 : StrsAt (w.heap.size + 3) w4 (.slice a2 rows.length cap2) rows := by simpa using HU.out
    refine At.mono mono_str (At.same kept_str hu2 ?_) (by omega)
    repeat refine Same.setCell ?_ (by omega) _
    exact Same.refl _ _
  · have h0 := HB0.out.trans (HB.out.mono (by simp; omega))
    repeat refine Below.setCell ?_ (by simp; try omega) _
    exact h0

def chgEqW (v u : Value) (rows : List ByteArray) (w : World) : Prop := (∃ lo, StrsAt lo w v rows) ∧ ∃ lo, StrsAt lo w u rows
set_option maxHeartbeats 2000000 in
theorem eqChg_any (c : Chg) (v u : Value) (w : World) {lo lo2 : Nat} (hv : StrsAt lo w v c.rows) (hu : StrsAt lo2 w u c.rows) :
    Calls Try.prog 11 #[chgV c v, chgV c u] w fun e w' => e = .returned (.bool true) ∧ Below w.heap.size w w' := by
  obtain ⟨kind, client, tag, query, page, rows, n⟩ := c
  simp only at hv hu
  obtain ⟨a, cap, hf, _⟩ := hv.form
  subst hf
  obtain ⟨a2, cap2, hf, _⟩ := hu.form
  subst hf
  show Calls Try.prog 11 #[.agg #[.int .i64 kind, .int .i64 client, .string tag, .string query, .int .i64 page, .slice a rows.length cap, .int .i64 n], .agg #[.int .i64 kind, .int .i64 client, .string tag, .string query, .int .i64 page, .slice a2 rows.length cap2, .int .i64 n]] w _
  have HB0 := hide (((Below.refl w.heap.size w).alloc (Nat.le_refl _) (Obj.cells #[.int .i64 kind, .int .i64 client, .string tag, .string query, .int .i64 page, .slice a rows.length cap, .int .i64 n] 36)).alloc (by simp) (Obj.cells #[.int .i64 kind, .int .i64 client, .string tag, .string query, .int .i64 page, .slice a2 rows.length cap2, .int .i64 n] 36))
  have HE := hide (fun W hW => eqStrs_any rows (.slice a rows.length cap) (.slice a2 rows.length cap2) W (At.kept kept_str hv (w' := W) hW) (At.kept kept_str hu (w' := W) hW))
  clear hv hu
  go_enter Try.func11, Try.ntmps11
  go_wp2_with fail
  refine (HE.out _ HB0.out).mono ?_
  rintro e w4 ⟨rfl, hb⟩
  obtain ⟨hc, hf⟩ := bcells hb
  have HB := hide hb
  clear hb
  go_wp2_with fail
  go_ret
  exact ⟨rfl, HB0.out.trans (HB.out.mono (by simp; omega))⟩

set_option maxHeartbeats 2000000 in
theorem szChg_any (c : Chg) (v : Value) (w : World) {lo : Nat} (h1 : c.tag.size ≤ 9223372036854775807) (h2 : c.query.size ≤ 9223372036854775807) (hv : StrsAt lo w v c.rows) :
    Calls Try.prog 5 #[chgV c v, .int .i64 1048576] w fun e w' => e = .returned (.int .i64 (rest 1048576 (chgSz c))) ∧ Below w.heap.size w w' := by
  obtain ⟨kind, client, tag, query, page, rows, n⟩ := c
  simp only at h1 h2 hv
  obtain ⟨a, cap, hf, _⟩ := hv.form
  subst hf
  show Calls Try.prog 5 #[.agg #[.int .i64 kind, .int .i64 client, .string tag, .string query, .int .i64 page, .slice a rows.length cap, .int .i64 n], .int .i64 1048576] w _
  have HB := hide ((Below.refl w.heap.size w).alloc (Nat.le_refl _) (Obj.cells #[.int .i64 kind, .int .i64 client, .string tag, .string query, .int .i64 page, .slice a rows.length cap, .int .i64 n] 27))
  have HSS := hide (fun W hW left h0 h1 => szStrs_any rows (.slice a rows.length cap) left W h0 h1 (At.kept kept_str hv (w' := W) hW))
  have HS : Hid (chgSz ⟨kind, client, tag, query, page, rows, n⟩ = tag.size + query.size + repSz rows) := rfl
  clear hv
  by_cases a1 : (1048576 : Int) - tag.size < 0
  · have HX := hide (show rest 1048576 (chgSz ⟨kind, client, tag, query, page, rows, n⟩) = -1 from rest_no (by rw [HS.out]; omega))
    go_enter Try.func5, Try.ntmps5
    go_wp2_with fail
    go_ret
    exact ⟨ret_int HX.out.symm, HB.out⟩
  by_cases a2 : (1048576 : Int) - tag.size - query.size < 0
  · have HX := hide (show rest 1048576 (chgSz ⟨kind, client, tag, query, page, rows, n⟩) = -1 from rest_no (by rw [HS.out]; omega))
    go_enter Try.func5, Try.ntmps5
    go_wp2_with fail
    go_ret
    exact ⟨ret_int HX.out.symm, HB.out⟩
  have HS2 := hide (HSS.out _ HB.out ((1048576 : Int) - tag.size - query.size) (by omega) (by omega))
  by_cases a3 : ((repSz rows : Nat) : Int) ≤ (1048576 : Int) - tag.size - query.size
  · have HX := hide (show rest 1048576 (chgSz ⟨kind, client, tag, query, page, rows, n⟩) = 1048576 - tag.size - query.size - repSz rows by rw [rest_yes (by rw [HS.out]; omega), HS.out]; omega)
    rw [rest_yes a3] at HS2
    have hnn : ¬ (1048576 : Int) - tag.size - query.size - (repSz rows : Nat) < 0 := by omega
    go_enter Try.func5, Try.ntmps5
    go_wp2_with fail
    refine HS2.out.mono ?_
    rintro e w4 ⟨rfl, rfl⟩
    go_wp2_with fail
    go_ret
    exact ⟨ret_int HX.out.symm, HB.out⟩
  · have HX := hide (show rest 1048576 (chgSz ⟨kind, client, tag, query, page, rows, n⟩) = -1 from rest_no (by rw [HS.out]; omega))
    rw [rest_no (by omega)] at HS2
    go_enter Try.func5, Try.ntmps5
    go_wp2_with fail
    refine HS2.out.mono ?_
    rintro e w4 ⟨rfl, rfl⟩
    go_wp2_with fail
    go_ret
    exact ⟨ret_int HX.out.symm, HB.out⟩
end Go.Proofs.Ytaalkjbkmkjkpaa.Msg

namespace Go.Proofs.Ytaalkjbkmkjkpaa.Msg
open Go.ChangeShapes Go.WideShapes Go.ChangeAt Go.RowKit

end Go.Proofs.Ytaalkjbkmkjkpaa.Msg
