import Derived.Test.YtebdfmijlnkcbaaDoorChgPure
import Derived.Test.YtebdfmijlnkcbaaDoorMsgSz
import Derived.Test.YtebdfmijlnkcbaaDoorMsgEq
import Derived.Test.YtebdfmijlnkcbaaDoorMsgEq2
import Derived.Test.YtebdfmijlnkcbaaDoorMsgTo2
namespace Go.Proofs.YtebdfmijlnkcbaaDoor.Msg
open Go.ChangeShapes Go.WideShapes Go.ChangeAt Go.RowKit
set_option linter.unusedVariables false
set_option linter.unusedSimpArgs false

/-! the laws' own functions over changes -/
def chgSz (c : Chg) : Nat := c.tag.size + c.query.size + repSz c.rows

def chgEqW (v u : Value) (rows : List ByteArray) (w : World) : Prop := (∃ lo, StrsAt lo w v rows) ∧ ∃ lo, StrsAt lo w u rows
set_option maxHeartbeats 2000000 in
theorem eqChg_any (c : Chg) (v u : Value) (w : World) {lo lo2 : Nat} (hv : StrsAt lo w v c.rows) (hu : StrsAt lo2 w u c.rows) :
    Calls Tryd.prog 6 #[chgV c v, chgV c u] w fun e w' => e = .returned (.bool true) ∧ Below w.heap.size w w' := by
  obtain ⟨kind, client, tag, query, page, rows, n⟩ := c
  simp only at hv hu
  obtain ⟨a, cap, hf, _⟩ := hv.form
  subst hf
  obtain ⟨a2, cap2, hf, _⟩ := hu.form
  subst hf
  show Calls Tryd.prog 6 #[.agg #[.int .i64 kind, .int .i64 client, .string tag, .string query, .int .i64 page, .slice a rows.length cap, .int .i64 n], .agg #[.int .i64 kind, .int .i64 client, .string tag, .string query, .int .i64 page, .slice a2 rows.length cap2, .int .i64 n]] w _
  have HB0 := hide (((Below.refl w.heap.size w).alloc (Nat.le_refl _) (Obj.cells #[.int .i64 kind, .int .i64 client, .string tag, .string query, .int .i64 page, .slice a rows.length cap, .int .i64 n] 24)).alloc (by simp) (Obj.cells #[.int .i64 kind, .int .i64 client, .string tag, .string query, .int .i64 page, .slice a2 rows.length cap2, .int .i64 n] 24))
  have HE := hide (fun W hW => eqStrs_any rows (.slice a rows.length cap) (.slice a2 rows.length cap2) W (At.kept kept_str hv (w' := W) hW) (At.kept kept_str hu (w' := W) hW))
  clear hv hu
  go_enter Tryd.func6, Tryd.ntmps6
  go_wp2_with fail
  refine (HE.out _ HB0.out).mono ?_
  rintro e w4 ⟨rfl, hb⟩
  obtain ⟨hc, hf⟩ := bcells hb
  have HB := hide hb
  clear hb
  go_wp2_with fail
  go_ret
  exact ⟨rfl, HB0.out.trans (HB.out.mono (by simp; omega))⟩

end Go.Proofs.YtebdfmijlnkcbaaDoor.Msg
