import Derived.Test.YtebdfmijlnkcbaaGreatDoorQryRead
import Derived.Test.YtebdfmijlnkcbaaGreatDoorTextImpl
namespace Go.Proofs.YtebdfmijlnkcbaaGreatDoor.Msg
open Go.ChangeShapes Go.WideShapes Go.ChangeAt Go.RowKit
set_option linter.unusedVariables false
set_option linter.unusedSimpArgs false

/-! what a letter lacks -/
/-- the error with a code -/
def lackV (c : Int) : Value := .iface 49 (.agg #[.int .i64 c])
def lackOf (c : Option Int) : Value := match c with
  | none => .nilIface
  | some c => lackV c
set_option maxHeartbeats 1000000 in
theorem cancelLacks_any (control tag : ByteArray) (w : World) (h1 : control.size ≤ 9223372036854775807) (h2 : tag.size ≤ 9223372036854775807) :
    Calls Tryz.prog 111 #[.agg #[.string control, .string tag]] w fun e w' => e = .returned (lackOf (if controlB control && tagB tag then none else some 101)) ∧ Below w.heap.size w w' := by
  have hb := (Below.refl w.heap.size w).alloc (Nat.le_refl _) (Obj.cells #[.string control, .string tag] 90)
  cases hc : controlB control <;> cases ht : tagB tag
  all_goals
    go_enter Tryz.func111, Tryz.ntmps111
    go_wp2_with (first | (go_at_call 31; refine (isControl_any control _ h1).mono ?_; rintro e w' ⟨rfl, rfl⟩; rw [hc]) | (go_at_call 114; refine (isTag_any tag _ h2).mono ?_; rintro e w' ⟨rfl, rfl⟩; rw [ht]))
    go_ret
    first
    | exact ⟨rfl, hb⟩
    | exact ⟨rfl, hb.alloc hb.size _⟩

def newL (control tag query : ByteArray) (page : Int) : Option Int := if controlB control && tagB tag then (if textB query && (decide (1 ≤ page) && decide (page ≤ 50)) then none else some 102) else some 101
def nextL (control tag query pointer : ByteArray) : Option Int := if controlB control && tagB tag then (if textB query && (textB pointer && decide (0 < pointer.size)) then none else some 102) else some 101
theorem ret_lack {a b : Option Int} (h : a = b) : Ending.returned (lackOf a) = .returned (lackOf b) := by rw [h]
set_option maxHeartbeats 2000000 in
theorem newLacks_any (control tag query : ByteArray) (page : Int) (w : World) (h1 : control.size ≤ 9223372036854775807) (h2 : tag.size ≤ 9223372036854775807) (h3 : query.size ≤ 9223372036854775807) :
    Calls Tryz.prog 119 #[.agg #[.string control, .string tag, .string query, .int .i64 page]] w fun e w' => e = .returned (lackOf (newL control tag query page)) ∧ Below w.heap.size w w' := by
  have hb := (Below.refl w.heap.size w).alloc (Nat.le_refl _) (Obj.cells #[.string control, .string tag, .string query, .int .i64 page] 95)
  cases hc : controlB control
  · have ht : tagB tag = tagB tag := rfl
    have hq : textB query = textB query := rfl
    have HX : Hid (newL control tag query page = some 101) := by unfold newL; rw [hc]; rfl
    go_enter Tryz.func119, Tryz.ntmps119
    go_wp2_with (first | (go_at_call 31; refine (isControl_any control _ h1).mono ?_; rintro e w' ⟨rfl, rfl⟩; rw [hc]) | (go_at_call 114; refine (isTag_any tag _ h2).mono ?_; rintro e w' ⟨rfl, rfl⟩; rw [ht]) | (go_at_call 118; refine (isText_any query _ h3).mono ?_; rintro e w' ⟨rfl, rfl⟩; rw [hq]))
    go_ret
    exact ⟨ret_lack (a := some 101) HX.out.symm, by first | exact hb | exact hb.alloc hb.size _⟩
  cases ht : tagB tag
  · have hq : textB query = textB query := rfl
    have HX : Hid (newL control tag query page = some 101) := by unfold newL; rw [hc, ht]; rfl
    go_enter Tryz.func119, Tryz.ntmps119
    go_wp2_with (first | (go_at_call 31; refine (isControl_any control _ h1).mono ?_; rintro e w' ⟨rfl, rfl⟩; rw [hc]) | (go_at_call 114; refine (isTag_any tag _ h2).mono ?_; rintro e w' ⟨rfl, rfl⟩; rw [ht]) | (go_at_call 118; refine (isText_any query _ h3).mono ?_; rintro e w' ⟨rfl, rfl⟩; rw [hq]))
    go_ret
    exact ⟨ret_lack (a := some 101) HX.out.symm, by first | exact hb | exact hb.alloc hb.size _⟩
  cases hq : textB query
  · have HX : Hid (newL control tag query page = some 102) := by unfold newL; rw [hc, ht, hq]; rfl
    go_enter Tryz.func119, Tryz.ntmps119
    go_wp2_with (first | (go_at_call 31; refine (isControl_any control _ h1).mono ?_; rintro e w' ⟨rfl, rfl⟩; rw [hc]) | (go_at_call 114; refine (isTag_any tag _ h2).mono ?_; rintro e w' ⟨rfl, rfl⟩; rw [ht]) | (go_at_call 118; refine (isText_any query _ h3).mono ?_; rintro e w' ⟨rfl, rfl⟩; rw [hq]))
    go_ret
    exact ⟨ret_lack (a := some 102) HX.out.symm, by first | exact hb | exact hb.alloc hb.size _⟩
  cases hp : pageB page
  · have hp' : (decide (1 ≤ page) && decide (page ≤ 50)) = false := hp
    have HX : Hid (newL control tag query page = some 102) := by unfold newL; rw [hc, ht, hq, hp']; rfl
    clear hp'
    go_enter Tryz.func119, Tryz.ntmps119
    go_wp2_with (first | (go_at_call 31; refine (isControl_any control _ h1).mono ?_; rintro e w' ⟨rfl, rfl⟩; rw [hc]) | (go_at_call 114; refine (isTag_any tag _ h2).mono ?_; rintro e w' ⟨rfl, rfl⟩; rw [ht]) | (go_at_call 118; refine (isText_any query _ h3).mono ?_; rintro e w' ⟨rfl, rfl⟩; rw [hq]) | (go_at_call 122; refine (isPage_any page _).mono ?_; rintro e w' ⟨rfl, rfl⟩; rw [hp]))
    go_ret
    exact ⟨ret_lack (a := some 102) HX.out.symm, by first | exact hb | exact hb.alloc hb.size _⟩
  have hp' : (decide (1 ≤ page) && decide (page ≤ 50)) = true := hp
  have HX : Hid (newL control tag query page = none) := by unfold newL; rw [hc, ht, hq, hp']; rfl
  clear hp'
  go_enter Tryz.func119, Tryz.ntmps119
  go_wp2_with (first | (go_at_call 31; refine (isControl_any control _ h1).mono ?_; rintro e w' ⟨rfl, rfl⟩; rw [hc]) | (go_at_call 114; refine (isTag_any tag _ h2).mono ?_; rintro e w' ⟨rfl, rfl⟩; rw [ht]) | (go_at_call 118; refine (isText_any query _ h3).mono ?_; rintro e w' ⟨rfl, rfl⟩; rw [hq]) | (go_at_call 122; refine (isPage_any page _).mono ?_; rintro e w' ⟨rfl, rfl⟩; rw [hp]))
  go_ret
  exact ⟨ret_lack (a := none) HX.out.symm, by first | exact hb | exact hb.alloc hb.size _⟩
set_option maxRecDepth 100000 in
set_option maxHeartbeats 2000000 in
theorem nextLacks_any (control tag query pointer : ByteArray) (w : World) (h1 : control.size ≤ 9223372036854775807) (h2 : tag.size ≤ 9223372036854775807) (h3 : query.size ≤ 9223372036854775807) (h4 : pointer.size ≤ 9223372036854775807) :
    Calls Tryz.prog 115 #[.agg #[.string control, .string tag, .string query, .string pointer]] w fun e w' => e = .returned (lackOf (nextL control tag query pointer)) ∧ Below w.heap.size w w' := by
  have hb := (Below.refl w.heap.size w).alloc (Nat.le_refl _) (Obj.cells #[.string control, .string tag, .string query, .string pointer] 92)
  cases hc : controlB control
  · have ht : tagB tag = tagB tag := rfl
    have hq : textB query = textB query := rfl
    have hp : textB pointer = textB pointer := rfl
    have HX : Hid (nextL control tag query pointer = some 101) := by unfold nextL; rw [hc]; rfl
    go_enter Tryz.func115, Tryz.ntmps115
    go_wp2_with (first | (go_at_call 31; refine (isControl_any control _ h1).mono ?_; rintro e w' ⟨rfl, rfl⟩; rw [hc]) | (go_at_call 114; refine (isTag_any tag _ h2).mono ?_; rintro e w' ⟨rfl, rfl⟩; rw [ht]) | (go_at_call 118; refine (isText_any _ _ (by first | exact h3 | exact h4)).mono ?_; rintro e w' ⟨rfl, rfl⟩; first | rw [hq] | rw [hp]))
    go_ret
    exact ⟨ret_lack (a := some 101) HX.out.symm, by first | exact hb | exact hb.alloc hb.size _⟩
  cases ht : tagB tag
  · have hq : textB query = textB query := rfl
    have hp : textB pointer = textB pointer := rfl
    have HX : Hid (nextL control tag query pointer = some 101) := by unfold nextL; rw [hc, ht]; rfl
    go_enter Tryz.func115, Tryz.ntmps115
    go_wp2_with (first | (go_at_call 31; refine (isControl_any control _ h1).mono ?_; rintro e w' ⟨rfl, rfl⟩; rw [hc]) | (go_at_call 114; refine (isTag_any tag _ h2).mono ?_; rintro e w' ⟨rfl, rfl⟩; rw [ht]) | (go_at_call 118; refine (isText_any _ _ (by first | exact h3 | exact h4)).mono ?_; rintro e w' ⟨rfl, rfl⟩; first | rw [hq] | rw [hp]))
    go_ret
    exact ⟨ret_lack (a := some 101) HX.out.symm, by first | exact hb | exact hb.alloc hb.size _⟩
  cases hq : textB query
  · have hp : textB pointer = textB pointer := rfl
    have HX : Hid (nextL control tag query pointer = some 102) := by unfold nextL; rw [hc, ht, hq]; rfl
    go_enter Tryz.func115, Tryz.ntmps115
    go_wp2_with (first | (go_at_call 31; refine (isControl_any control _ h1).mono ?_; rintro e w' ⟨rfl, rfl⟩; rw [hc]) | (go_at_call 114; refine (isTag_any tag _ h2).mono ?_; rintro e w' ⟨rfl, rfl⟩; rw [ht]) | (go_at_call 118; refine (isText_any _ _ (by first | exact h3 | exact h4)).mono ?_; rintro e w' ⟨rfl, rfl⟩; first | rw [hq] | rw [hp]))
    go_ret
    exact ⟨ret_lack (a := some 102) HX.out.symm, by first | exact hb | exact hb.alloc hb.size _⟩
  cases hp : textB pointer
  · have HX : Hid (nextL control tag query pointer = some 102) := by unfold nextL; rw [hc, ht, hq, hp]; rfl
    go_enter Tryz.func115, Tryz.ntmps115
    go_wp2_with (first | (go_at_call 31; refine (isControl_any control _ h1).mono ?_; rintro e w' ⟨rfl, rfl⟩; rw [hc]) | (go_at_call 114; refine (isTag_any tag _ h2).mono ?_; rintro e w' ⟨rfl, rfl⟩; rw [ht]) | (go_at_call 118; refine (isText_any _ _ (by first | exact h3 | exact h4)).mono ?_; rintro e w' ⟨rfl, rfl⟩; first | rw [hq] | rw [hp]))
    go_ret
    exact ⟨ret_lack (a := some 102) HX.out.symm, by first | exact hb | exact hb.alloc hb.size _⟩
  by_cases p1 : pointer.size = 0
  · have e1 : pointer = ⟨#[]⟩ := by
      apply ByteArray.ext
      exact Array.eq_empty_of_size_eq_zero p1
    have e2 : (pointer.toList == []) = true := by rw [e1, ByteArray.toList_eq]; rfl
    have HX : Hid (nextL control tag query pointer = some 102) := by unfold nextL; rw [hc, ht, hq, hp, decide_eq_false (p := 0 < pointer.size) (by omega)]; rfl
    clear e1 p1
    go_enter Tryz.func115, Tryz.ntmps115
    go_wp2_with (first | (go_at_call 31; refine (isControl_any control _ h1).mono ?_; rintro e w' ⟨rfl, rfl⟩; rw [hc]) | (go_at_call 114; refine (isTag_any tag _ h2).mono ?_; rintro e w' ⟨rfl, rfl⟩; rw [ht]) | (go_at_call 118; refine (isText_any _ _ (by first | exact h3 | exact h4)).mono ?_; rintro e w' ⟨rfl, rfl⟩; first | rw [hq] | rw [hp]))
    go_ret
    exact ⟨ret_lack (a := some 102) HX.out.symm, by first | exact hb | exact hb.alloc hb.size _⟩
  have e2 : (pointer.toList == []) = false := by
    rw [beq_eq_false_iff_ne, ByteArray.toList_eq]
    intro h
    apply p1
    have := congrArg List.length h
    simpa using this
  have HX : Hid (nextL control tag query pointer = none) := by unfold nextL; rw [hc, ht, hq, hp, decide_eq_true (p := 0 < pointer.size) (by omega)]; rfl
  clear p1
  go_enter Tryz.func115, Tryz.ntmps115
  go_wp2_with (first | (go_at_call 31; refine (isControl_any control _ h1).mono ?_; rintro e w' ⟨rfl, rfl⟩; rw [hc]) | (go_at_call 114; refine (isTag_any tag _ h2).mono ?_; rintro e w' ⟨rfl, rfl⟩; rw [ht]) | (go_at_call 118; refine (isText_any _ _ (by first | exact h3 | exact h4)).mono ?_; rintro e w' ⟨rfl, rfl⟩; first | rw [hq] | rw [hp]))
  go_ret
  exact ⟨ret_lack (a := none) HX.out.symm, by first | exact hb | exact hb.alloc hb.size _⟩

set_option maxHeartbeats 400000 in
theorem newRequest_any (control tag query : ByteArray) (page : Int) (w : World) :
    Calls Tryz.prog 120 #[.agg #[.string control, .string tag, .string query, .int .i64 page]] w fun e w' => e = .returned (reqV ⟨1, control, tag, query, page, ⟨#[]⟩⟩) ∧ Below w.heap.size w w' := by
  have hb := (Below.refl w.heap.size w).alloc (Nat.le_refl _) (Obj.cells #[.string control, .string tag, .string query, .int .i64 page] 95)
  go_enter Tryz.func120, Tryz.ntmps120
  go_wp2_with fail
  exact bodyPost_ret (v := reqV ⟨1, control, tag, query, page, ⟨#[]⟩⟩) (by simp [results, Tryz.results120, go_sem, reqV]) rfl ⟨rfl, hb.alloc hb.size _⟩
set_option maxHeartbeats 400000 in
theorem nextRequest_any (control tag query pointer : ByteArray) (w : World) :
    Calls Tryz.prog 116 #[.agg #[.string control, .string tag, .string query, .string pointer]] w fun e w' => e = .returned (reqV ⟨2, control, tag, query, 0, pointer⟩) ∧ Below w.heap.size w w' := by
  have hb := (Below.refl w.heap.size w).alloc (Nat.le_refl _) (Obj.cells #[.string control, .string tag, .string query, .string pointer] 92)
  go_enter Tryz.func116, Tryz.ntmps116
  go_wp2_with fail
  exact bodyPost_ret (v := reqV ⟨2, control, tag, query, 0, pointer⟩) (by simp [results, Tryz.results116, go_sem, reqV]) rfl ⟨rfl, hb.alloc hb.size _⟩
set_option maxHeartbeats 400000 in
theorem cancelRequest_any (control tag : ByteArray) (w : World) :
    Calls Tryz.prog 112 #[.agg #[.string control, .string tag]] w fun e w' => e = .returned (reqV ⟨3, control, tag, ⟨#[]⟩, 0, ⟨#[]⟩⟩) ∧ Below w.heap.size w w' := by
  have hb := (Below.refl w.heap.size w).alloc (Nat.le_refl _) (Obj.cells #[.string control, .string tag] 90)
  go_enter Tryz.func112, Tryz.ntmps112
  go_wp2_with fail
  exact bodyPost_ret (v := reqV ⟨3, control, tag, ⟨#[]⟩, 0, ⟨#[]⟩⟩) (by simp [results, Tryz.results112, go_sem, reqV]) rfl ⟨rfl, hb.alloc hb.size _⟩
end Go.Proofs.YtebdfmijlnkcbaaGreatDoor.Msg
