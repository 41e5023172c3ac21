import Derived.Test.YtjpdgcodjnnljaaQrySpecwithQryNum
import Derived.Test.YtjpdgcodjnnljaaParseSegswithImplOk
import Derived.Test.YtjpdgcodjnnljaaQryReadwithQrySpecOk
namespace Go.Proofs.Ytjpdgcodjnnljaa.Msg
open Go.ChangeShapes Go.WideShapes Go.ChangeAt Go.RowKit
set_option linter.unusedVariables false
set_option linter.unusedSimpArgs false

set_option maxHeartbeats 400000 in
theorem isTag_any (s : ByteArray) (w : World) (hs : s.size ≤ 9223372036854775807) :
    Calls Try.prog 181 #[.string s] w fun e w' => e = .returned (.bool (tagB s)) ∧ w' = w := by
  by_cases h1 : (1 : Int) ≤ (s.size : Int)
  · by_cases h2 : (s.size : Int) ≤ 16
    · have HX : Hid (tagB s = plainB s) := bound_in (by omega) (by omega)
      go_enter Try.func181, Try.ntmps181
      go_wp2_with (go_at_call 153; refine (isPlain_any s _ hs).mono ?_; rintro e w' ⟨rfl, rfl⟩)
      go_ret
      exact ⟨ret_bool HX.out.symm, rfl⟩
    · have HX : Hid (tagB s = false) := bound_hi (by omega)
      go_enter Try.func181, Try.ntmps181
      go_wp2_with fail
      go_ret
      exact ⟨ret_bool HX.out.symm, rfl⟩
  · have HX : Hid (tagB s = false) := bound_lo (by omega)
    go_enter Try.func181, Try.ntmps181
    go_wp2_with fail
    go_ret
    exact ⟨ret_bool HX.out.symm, rfl⟩
set_option maxHeartbeats 400000 in
theorem isControl_any (s : ByteArray) (w : World) (hs : s.size ≤ 9223372036854775807) :
    Calls Try.prog 180 #[.string s] w fun e w' => e = .returned (.bool (controlB s)) ∧ w' = w := by
  by_cases h1 : (1 : Int) ≤ (s.size : Int)
  · by_cases h2 : (s.size : Int) ≤ 20
    · have HX : Hid (controlB s = plainB s) := bound_in (by omega) (by omega)
      go_enter Try.func180, Try.ntmps180
      go_wp2_with (go_at_call 153; refine (isPlain_any s _ hs).mono ?_; rintro e w' ⟨rfl, rfl⟩)
      go_ret
      exact ⟨ret_bool HX.out.symm, rfl⟩
    · have HX : Hid (controlB s = false) := bound_hi (by omega)
      go_enter Try.func180, Try.ntmps180
      go_wp2_with fail
      go_ret
      exact ⟨ret_bool HX.out.symm, rfl⟩
  · have HX : Hid (controlB s = false) := bound_lo (by omega)
    go_enter Try.func180, Try.ntmps180
    go_wp2_with fail
    go_ret
    exact ⟨ret_bool HX.out.symm, rfl⟩
set_option maxHeartbeats 400000 in
theorem isText_any (s : ByteArray) (w : World) (hs : s.size ≤ 9223372036854775807) :
    Calls Try.prog 182 #[.string s] w fun e w' => e = .returned (.bool (textB s)) ∧ w' = w := by
  by_cases h2 : (s.size : Int) ≤ 200
  · have HX : Hid (textB s = plainB s) := bound_in (by omega) (by omega)
    go_enter Try.func182, Try.ntmps182
    go_wp2_with (go_at_call 153; refine (isPlain_any s _ hs).mono ?_; rintro e w' ⟨rfl, rfl⟩)
    go_ret
    exact ⟨ret_bool HX.out.symm, rfl⟩
  · have HX : Hid (textB s = false) := bound_hi (by omega)
    go_enter Try.func182, Try.ntmps182
    go_wp2_with fail
    go_ret
    exact ⟨ret_bool HX.out.symm, rfl⟩

def pageB (n : Int) : Bool := decide (1 ≤ n) && decide (n ≤ 50)
set_option maxHeartbeats 400000 in
theorem isPage_any (n : Int) (w : World) :
    Calls Try.prog 183 #[.int .i64 n] w fun e w' => e = .returned (.bool (pageB n)) ∧ w' = w := by
  by_cases h1 : (1 : Int) ≤ n
  · by_cases h2 : n ≤ 50
    · have HX : Hid (pageB n = true) := by unfold pageB; rw [decide_eq_true h1, decide_eq_true h2]; exact rfl
      go_enter Try.func183, Try.ntmps183
      go_wp2_with fail
      go_ret
      exact ⟨ret_bool HX.out.symm, rfl⟩
    · have HX : Hid (pageB n = false) := by unfold pageB; rw [decide_eq_true h1, decide_eq_false h2]; exact rfl
      go_enter Try.func183, Try.ntmps183
      go_wp2_with fail
      go_ret
      exact ⟨ret_bool HX.out.symm, rfl⟩
  · have HX : Hid (pageB n = false) := by unfold pageB; rw [decide_eq_false h1]; exact rfl
    go_enter Try.func183, Try.ntmps183
    go_wp2_with fail
    go_ret
    exact ⟨ret_bool HX.out.symm, rfl⟩

end Go.Proofs.Ytjpdgcodjnnljaa.Msg

namespace Go.Proofs.Ytjpdgcodjnnljaa.Msg
open Go.ChangeShapes Go.WideShapes Go.ChangeAt Go.RowKit
set_option linter.unusedVariables false
set_option linter.unusedSimpArgs false

/-! what a letter lacks -/
/-- the error with a code -/
def lackV (c : Int) : Value := .iface 214 (.agg #[.int .i64 c])
def lackOf (c : Option Int) : Value := match c with
  | none => .nilIface
  | some c => lackV c
set_option maxHeartbeats 1000000 in
theorem cancelLacks_any (control tag : ByteArray) (w : World) (h1 : control.size ≤ 9223372036854775807) (h2 : tag.size ≤ 9223372036854775807) :
    Calls Try.prog 209 #[.agg #[.string control, .string tag]] w fun e w' => e = .returned (lackOf (if controlB control && tagB tag then none else some 101)) ∧ Below w.heap.size w w' := by
  have hb := (Below.refl w.heap.size w).alloc (Nat.le_refl _) (Obj.cells #[.string control, .string tag] 157)
  cases hc : controlB control <;> cases ht : tagB tag
  all_goals
    go_enter Try.func209, Try.ntmps209
    go_wp2_with (first | (go_at_call 180; refine (isControl_any control _ h1).mono ?_; rintro e w' ⟨rfl, rfl⟩; rw [hc]) | (go_at_call 181; refine (isTag_any tag _ h2).mono ?_; rintro e w' ⟨rfl, rfl⟩; rw [ht]))
    go_ret
    first
    | exact ⟨rfl, hb⟩
    | exact ⟨rfl, hb.alloc hb.size _⟩

def newL (control tag query : ByteArray) (page : Int) : Option Int := if controlB control && tagB tag then (if textB query && (decide (1 ≤ page) && decide (page ≤ 50)) then none else some 102) else some 101
def nextL (control tag query pointer : ByteArray) : Option Int := if controlB control && tagB tag then (if textB query && (textB pointer && decide (0 < pointer.size)) then none else some 102) else some 101
theorem ret_lack {a b : Option Int} (h : a = b) : Ending.returned (lackOf a) = .returned (lackOf b) := by rw [h]
set_option maxHeartbeats 2000000 in
theorem newLacks_any (control tag query : ByteArray) (page : Int) (w : World) (h1 : control.size ≤ 9223372036854775807) (h2 : tag.size ≤ 9223372036854775807) (h3 : query.size ≤ 9223372036854775807) :
    Calls Try.prog 177 #[.agg #[.string control, .string tag, .string query, .int .i64 page]] w fun e w' => e = .returned (lackOf (newL control tag query page)) ∧ Below w.heap.size w w' := by
  have hb := (Below.refl w.heap.size w).alloc (Nat.le_refl _) (Obj.cells #[.string control, .string tag, .string query, .int .i64 page] 153)
  cases hc : controlB control
  · have ht : tagB tag = tagB tag := rfl
    have hq : textB query = textB query := rfl
    have HX : Hid (newL control tag query page = some 101) := by unfold newL; rw [hc]; rfl
    go_enter Try.func177, Try.ntmps177
    go_wp2_with (first | (go_at_call 180; refine (isControl_any control _ h1).mono ?_; rintro e w' ⟨rfl, rfl⟩; rw [hc]) | (go_at_call 181; refine (isTag_any tag _ h2).mono ?_; rintro e w' ⟨rfl, rfl⟩; rw [ht]) | (go_at_call 182; refine (isText_any query _ h3).mono ?_; rintro e w' ⟨rfl, rfl⟩; rw [hq]))
    go_ret
    exact ⟨ret_lack (a := some 101) HX.out.symm, by first | exact hb | exact hb.alloc hb.size _⟩
  cases ht : tagB tag
  · have hq : textB query = textB query := rfl
    have HX : Hid (newL control tag query page = some 101) := by unfold newL; rw [hc, ht]; rfl
    go_enter Try.func177, Try.ntmps177
    go_wp2_with (first | (go_at_call 180; refine (isControl_any control _ h1).mono ?_; rintro e w' ⟨rfl, rfl⟩; rw [hc]) | (go_at_call 181; refine (isTag_any tag _ h2).mono ?_; rintro e w' ⟨rfl, rfl⟩; rw [ht]) | (go_at_call 182; refine (isText_any query _ h3).mono ?_; rintro e w' ⟨rfl, rfl⟩; rw [hq]))
    go_ret
    exact ⟨ret_lack (a := some 101) HX.out.symm, by first | exact hb | exact hb.alloc hb.size _⟩
  cases hq : textB query
  · have HX : Hid (newL control tag query page = some 102) := by unfold newL; rw [hc, ht, hq]; rfl
    go_enter Try.func177, Try.ntmps177
    go_wp2_with (first | (go_at_call 180; refine (isControl_any control _ h1).mono ?_; rintro e w' ⟨rfl, rfl⟩; rw [hc]) | (go_at_call 181; refine (isTag_any tag _ h2).mono ?_; rintro e w' ⟨rfl, rfl⟩; rw [ht]) | (go_at_call 182; refine (isText_any query _ h3).mono ?_; rintro e w' ⟨rfl, rfl⟩; rw [hq]))
    go_ret
    exact ⟨ret_lack (a := some 102) HX.out.symm, by first | exact hb | exact hb.alloc hb.size _⟩
  cases hp : pageB page
  · have hp' : (decide (1 ≤ page) && decide (page ≤ 50)) = false := hp
    have HX : Hid (newL control tag query page = some 102) := by unfold newL; rw [hc, ht, hq, hp']; rfl
    clear hp'
    go_enter Try.func177, Try.ntmps177
    go_wp2_with (first | (go_at_call 180; refine (isControl_any control _ h1).mono ?_; rintro e w' ⟨rfl, rfl⟩; rw [hc]) | (go_at_call 181; refine (isTag_any tag _ h2).mono ?_; rintro e w' ⟨rfl, rfl⟩; rw [ht]) | (go_at_call 182; refine (isText_any query _ h3).mono ?_; rintro e w' ⟨rfl, rfl⟩; rw [hq]) | (go_at_call 183; refine (isPage_any page _).mono ?_; rintro e w' ⟨rfl, rfl⟩; rw [hp]))
    go_ret
    exact ⟨ret_lack (a := some 102) HX.out.symm, by first | exact hb | exact hb.alloc hb.size _⟩
  have hp' : (decide (1 ≤ page) && decide (page ≤ 50)) = true := hp
  have HX : Hid (newL control tag query page = none) := by unfold newL; rw [hc, ht, hq, hp']; rfl
  clear hp'
  go_enter Try.func177, Try.ntmps177
  go_wp2_with (first | (go_at_call 180; refine (isControl_any control _ h1).mono ?_; rintro e w' ⟨rfl, rfl⟩; rw [hc]) | (go_at_call 181; refine (isTag_any tag _ h2).mono ?_; rintro e w' ⟨rfl, rfl⟩; rw [ht]) | (go_at_call 182; refine (isText_any query _ h3).mono ?_; rintro e w' ⟨rfl, rfl⟩; rw [hq]) | (go_at_call 183; refine (isPage_any page _).mono ?_; rintro e w' ⟨rfl, rfl⟩; rw [hp]))
  go_ret
  exact ⟨ret_lack (a := none) HX.out.symm, by first | exact hb | exact hb.alloc hb.size _⟩
set_option maxRecDepth 100000 in
set_option maxHeartbeats 2000000 in
theorem nextLacks_any (control tag query pointer : ByteArray) (w : World) (h1 : control.size ≤ 9223372036854775807) (h2 : tag.size ≤ 9223372036854775807) (h3 : query.size ≤ 9223372036854775807) (h4 : pointer.size ≤ 9223372036854775807) :
    Calls Try.prog 206 #[.agg #[.string control, .string tag, .string query, .string pointer]] w fun e w' => e = .returned (lackOf (nextL control tag query pointer)) ∧ Below w.heap.size w w' := by
  have hb := (Below.refl w.heap.size w).alloc (Nat.le_refl _) (Obj.cells #[.string control, .string tag, .string query, .string pointer] 155)
  cases hc : controlB control
  · have ht : tagB tag = tagB tag := rfl
    have hq : textB query = textB query := rfl
    have hp : textB pointer = textB pointer := rfl
    have HX : Hid (nextL control tag query pointer = some 101) := by unfold nextL; rw [hc]; rfl
    go_enter Try.func206, Try.ntmps206
    go_wp2_with (first | (go_at_call 180; refine (isControl_any control _ h1).mono ?_; rintro e w' ⟨rfl, rfl⟩; rw [hc]) | (go_at_call 181; refine (isTag_any tag _ h2).mono ?_; rintro e w' ⟨rfl, rfl⟩; rw [ht]) | (go_at_call 182; refine (isText_any _ _ (by first | exact h3 | exact h4)).mono ?_; rintro e w' ⟨rfl, rfl⟩; first | rw [hq] | rw [hp]))
    go_ret
    exact ⟨ret_lack (a := some 101) HX.out.symm, by first | exact hb | exact hb.alloc hb.size _⟩
  cases ht : tagB tag
  · have hq : textB query = textB query := rfl
    have hp : textB pointer = textB pointer := rfl
    have HX : Hid (nextL control tag query pointer = some 101) := by unfold nextL; rw [hc, ht]; rfl
    go_enter Try.func206, Try.ntmps206
    go_wp2_with (first | (go_at_call 180; refine (isControl_any control _ h1).mono ?_; rintro e w' ⟨rfl, rfl⟩; rw [hc]) | (go_at_call 181; refine (isTag_any tag _ h2).mono ?_; rintro e w' ⟨rfl, rfl⟩; rw [ht]) | (go_at_call 182; refine (isText_any _ _ (by first | exact h3 | exact h4)).mono ?_; rintro e w' ⟨rfl, rfl⟩; first | rw [hq] | rw [hp]))
    go_ret
    exact ⟨ret_lack (a := some 101) HX.out.symm, by first | exact hb | exact hb.alloc hb.size _⟩
  cases hq : textB query
  · have hp : textB pointer = textB pointer := rfl
    have HX : Hid (nextL control tag query pointer = some 102) := by unfold nextL; rw [hc, ht, hq]; rfl
    go_enter Try.func206, Try.ntmps206
    go_wp2_with (first | (go_at_call 180; refine (isControl_any control _ h1).mono ?_; rintro e w' ⟨rfl, rfl⟩; rw [hc]) | (go_at_call 181; refine (isTag_any tag _ h2).mono ?_; rintro e w' ⟨rfl, rfl⟩; rw [ht]) | (go_at_call 182; refine (isText_any _ _ (by first | exact h3 | exact h4)).mono ?_; rintro e w' ⟨rfl, rfl⟩; first | rw [hq] | rw [hp]))
    go_ret
    exact ⟨ret_lack (a := some 102) HX.out.symm, by first | exact hb | exact hb.alloc hb.size _⟩
  cases hp : textB pointer
  · have HX : Hid (nextL control tag query pointer = some 102) := by unfold nextL; rw [hc, ht, hq, hp]; rfl
    go_enter Try.func206, Try.ntmps206
    go_wp2_with (first | (go_at_call 180; refine (isControl_any control _ h1).mono ?_; rintro e w' ⟨rfl, rfl⟩; rw [hc]) | (go_at_call 181; refine (isTag_any tag _ h2).mono ?_; rintro e w' ⟨rfl, rfl⟩; rw [ht]) | (go_at_call 182; refine (isText_any _ _ (by first | exact h3 | exact h4)).mono ?_; rintro e w' ⟨rfl, rfl⟩; first | rw [hq] | rw [hp]))
    go_ret
    exact ⟨ret_lack (a := some 102) HX.out.symm, by first | exact hb | exact hb.alloc hb.size _⟩
  by_cases p1 : pointer.size = 0
  · have e1 : pointer = ⟨#[]⟩ := by
      apply ByteArray.ext
      exact Array.eq_empty_of_size_eq_zero p1
    have e2 : (pointer.toList == []) = true := by rw [e1, ByteArray.toList_eq]; rfl
    have HX : Hid (nextL control tag query pointer = some 102) := by unfold nextL; rw [hc, ht, hq, hp, decide_eq_false (p := 0 < pointer.size) (by omega)]; rfl
    clear e1 p1
    go_enter Try.func206, Try.ntmps206
    go_wp2_with (first | (go_at_call 180; refine (isControl_any control _ h1).mono ?_; rintro e w' ⟨rfl, rfl⟩; rw [hc]) | (go_at_call 181; refine (isTag_any tag _ h2).mono ?_; rintro e w' ⟨rfl, rfl⟩; rw [ht]) | (go_at_call 182; refine (isText_any _ _ (by first | exact h3 | exact h4)).mono ?_; rintro e w' ⟨rfl, rfl⟩; first | rw [hq] | rw [hp]))
    go_ret
    exact ⟨ret_lack (a := some 102) HX.out.symm, by first | exact hb | exact hb.alloc hb.size _⟩
  have e2 : (pointer.toList == []) = false := by
    rw [beq_eq_false_iff_ne, ByteArray.toList_eq]
    intro h
    apply p1
    have := congrArg List.length h
    simpa using this
  have HX : Hid (nextL control tag query pointer = none) := by unfold nextL; rw [hc, ht, hq, hp, decide_eq_true (p := 0 < pointer.size) (by omega)]; rfl
  clear p1
  go_enter Try.func206, Try.ntmps206
  go_wp2_with (first | (go_at_call 180; refine (isControl_any control _ h1).mono ?_; rintro e w' ⟨rfl, rfl⟩; rw [hc]) | (go_at_call 181; refine (isTag_any tag _ h2).mono ?_; rintro e w' ⟨rfl, rfl⟩; rw [ht]) | (go_at_call 182; refine (isText_any _ _ (by first | exact h3 | exact h4)).mono ?_; rintro e w' ⟨rfl, rfl⟩; first | rw [hq] | rw [hp]))
  go_ret
  exact ⟨ret_lack (a := none) HX.out.symm, by first | exact hb | exact hb.alloc hb.size _⟩

set_option maxHeartbeats 400000 in
theorem newRequest_any (control tag query : ByteArray) (page : Int) (w : World) :
    Calls Try.prog 178 #[.agg #[.string control, .string tag, .string query, .int .i64 page]] w fun e w' => e = .returned (reqV ⟨1, control, tag, query, page, ⟨#[]⟩⟩) ∧ Below w.heap.size w w' := by
  have hb := (Below.refl w.heap.size w).alloc (Nat.le_refl _) (Obj.cells #[.string control, .string tag, .string query, .int .i64 page] 153)
  go_enter Try.func178, Try.ntmps178
  go_wp2_with fail
  exact bodyPost_ret (v := reqV ⟨1, control, tag, query, page, ⟨#[]⟩⟩) (by simp [results, Try.results178, go_sem, reqV]) rfl ⟨rfl, hb.alloc hb.size _⟩
set_option maxHeartbeats 400000 in
theorem nextRequest_any (control tag query pointer : ByteArray) (w : World) :
    Calls Try.prog 207 #[.agg #[.string control, .string tag, .string query, .string pointer]] w fun e w' => e = .returned (reqV ⟨2, control, tag, query, 0, pointer⟩) ∧ Below w.heap.size w w' := by
  have hb := (Below.refl w.heap.size w).alloc (Nat.le_refl _) (Obj.cells #[.string control, .string tag, .string query, .string pointer] 155)
  go_enter Try.func207, Try.ntmps207
  go_wp2_with fail
  exact bodyPost_ret (v := reqV ⟨2, control, tag, query, 0, pointer⟩) (by simp [results, Try.results207, go_sem, reqV]) rfl ⟨rfl, hb.alloc hb.size _⟩
set_option maxHeartbeats 400000 in
theorem cancelRequest_any (control tag : ByteArray) (w : World) :
    Calls Try.prog 210 #[.agg #[.string control, .string tag]] w fun e w' => e = .returned (reqV ⟨3, control, tag, ⟨#[]⟩, 0, ⟨#[]⟩⟩) ∧ Below w.heap.size w w' := by
  have hb := (Below.refl w.heap.size w).alloc (Nat.le_refl _) (Obj.cells #[.string control, .string tag] 157)
  go_enter Try.func210, Try.ntmps210
  go_wp2_with fail
  exact bodyPost_ret (v := reqV ⟨3, control, tag, ⟨#[]⟩, 0, ⟨#[]⟩⟩) (by simp [results, Try.results210, go_sem, reqV]) rfl ⟨rfl, hb.alloc hb.size _⟩
end Go.Proofs.Ytjpdgcodjnnljaa.Msg
