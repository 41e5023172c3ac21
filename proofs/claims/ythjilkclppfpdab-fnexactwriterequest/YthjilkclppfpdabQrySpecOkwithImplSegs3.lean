import Derived.Test.YthjilkclppfpdabQryNumwithQryRead
import Derived.Deep.RegionHeld3
import Derived.BigQuiet
import Derived.Test.YthjilkclppfpdabImplPartswithImplHead3
namespace Go.Proofs.Ythjilkclppfpdab.Msg
open Go.ChangeShapes Go.WideShapes Go.ChangeAt Go.RowKit
set_option linter.unusedVariables false
set_option linter.unusedSimpArgs false

/-- a request that ReadRequest can give -/
def okR (r : Req) : Bool := controlB r.control && (tagB r.tag && (if r.kind = 1 then textB r.query && (decide (1 ≤ r.page) && (decide (r.page ≤ 50) && decide (r.pointer.size = 0)))
  else if r.kind = 2 then textB r.query && (decide (r.page = 0) && (decide (0 < r.pointer.size) && textB r.pointer))
  else decide (r.kind = 3) && (decide (r.query.size = 0) && (decide (r.page = 0) && decide (r.pointer.size = 0)))))

set_option maxRecDepth 100000 in
set_option maxHeartbeats 1000000 in
theorem l3Ok_bad (kind page : Int) (control tag query pointer : ByteArray) (w : World) (h1 : control.size ≤ 9223372036854775807) (h2 : tag.size ≤ 9223372036854775807) (hb : (controlB control && tagB tag) = false) :
    Calls Try.prog 59 #[.agg #[.int .i64 kind, .string control, .string tag, .string query, .int .i64 page, .string pointer]] w fun e w' => e = .returned (.bool false) ∧ Below w.heap.size w w' := by
  have HB := hide ((Below.refl w.heap.size w).alloc (Nat.le_refl _) (Obj.cells #[.int .i64 kind, .string control, .string tag, .string query, .int .i64 page, .string pointer] 53))
  cases hc : controlB control
  · have ht : tagB tag = tagB tag := rfl
    go_enter Try.func59, Try.ntmps59
    go_wp2_with (first | (go_at_call 86; refine (controlSpec_any control _ h1).mono ?_; rintro e w' ⟨rfl, hw'⟩; rw [hw', hc]; clear hw' w') | (go_at_call 87; refine (tagSpec_any tag _ h2).mono ?_; rintro e w' ⟨rfl, hw'⟩; rw [hw', ht]; clear hw' w'))
    go_ret
    exact ⟨rfl, HB.out⟩
  · have ht : tagB tag = false := by rw [hc] at hb; simpa using hb
    go_enter Try.func59, Try.ntmps59
    go_wp2_with (first | (go_at_call 86; refine (controlSpec_any control _ h1).mono ?_; rintro e w' ⟨rfl, hw'⟩; rw [hw', hc]; clear hw' w') | (go_at_call 87; refine (tagSpec_any tag _ h2).mono ?_; rintro e w' ⟨rfl, hw'⟩; rw [hw', ht]; clear hw' w'))
    go_ret
    exact ⟨rfl, HB.out⟩

set_option maxRecDepth 100000 in
set_option maxHeartbeats 4000000 in
theorem l3Ok_good (kind page : Int) (control tag query pointer : ByteArray) (w : World) (h1 : control.size ≤ 9223372036854775807) (h2 : tag.size ≤ 9223372036854775807) (h3 : query.size ≤ 9223372036854775807) (h4 : pointer.size ≤ 9223372036854775807) (hc : controlB control = true) (ht : tagB tag = true) :
    Calls Try.prog 59 #[.agg #[.int .i64 kind, .string control, .string tag, .string query, .int .i64 page, .string pointer]] w fun e w' => e = .returned (.bool (okR ⟨kind, control, tag, query, page, pointer⟩)) ∧ Below w.heap.size w w' := by
  have HB := hide ((Below.refl w.heap.size w).alloc (Nat.le_refl _) (Obj.cells #[.int .i64 kind, .string control, .string tag, .string query, .int .i64 page, .string pointer] 53))
  by_cases k1 : kind = 1
  · have g1 : (kind == 1) = true := by simp [k1]
    have hp : textB pointer = textB pointer := rfl
    cases hq : textB query
    · have HX := hide (show okR ⟨kind, control, tag, query, page, pointer⟩ = false by simp [okR, hc, ht, k1, hq])
      clear k1
      go_enter Try.func59, Try.ntmps59
      go_wp2_with (first | (go_at_call 86; refine (controlSpec_any control _ h1).mono ?_; rintro e w' ⟨rfl, hw'⟩; rw [hw', hc]; clear hw' w') | (go_at_call 87; refine (tagSpec_any tag _ h2).mono ?_; rintro e w' ⟨rfl, hw'⟩; rw [hw', ht]; clear hw' w') | (go_at_call 88; refine (textSpec_any _ _ (by first | exact h3 | exact h4)).mono ?_; rintro e w' ⟨rfl, hw'⟩; rw [hw']; clear hw' w'; first | rw [hq] | rw [hp]))
      go_ret
      exact ⟨ret_bool HX.out.symm, HB.out⟩
    by_cases p1 : 1 ≤ page
    rotate_left
    · have HX := hide (show okR ⟨kind, control, tag, query, page, pointer⟩ = false by simp [okR, hc, ht, k1, hq, p1])
      clear k1
      go_enter Try.func59, Try.ntmps59
      go_wp2_with (first | (go_at_call 86; refine (controlSpec_any control _ h1).mono ?_; rintro e w' ⟨rfl, hw'⟩; rw [hw', hc]; clear hw' w') | (go_at_call 87; refine (tagSpec_any tag _ h2).mono ?_; rintro e w' ⟨rfl, hw'⟩; rw [hw', ht]; clear hw' w') | (go_at_call 88; refine (textSpec_any _ _ (by first | exact h3 | exact h4)).mono ?_; rintro e w' ⟨rfl, hw'⟩; rw [hw']; clear hw' w'; first | rw [hq] | rw [hp]))
      go_ret
      exact ⟨ret_bool HX.out.symm, HB.out⟩
    by_cases p2 : page ≤ 50
    rotate_left
    · have HX := hide (show okR ⟨kind, control, tag, query, page, pointer⟩ = false by simp [okR, hc, ht, k1, hq, p1, p2])
      clear k1
      go_enter Try.func59, Try.ntmps59
      go_wp2_with (first | (go_at_call 86; refine (controlSpec_any control _ h1).mono ?_; rintro e w' ⟨rfl, hw'⟩; rw [hw', hc]; clear hw' w') | (go_at_call 87; refine (tagSpec_any tag _ h2).mono ?_; rintro e w' ⟨rfl, hw'⟩; rw [hw', ht]; clear hw' w') | (go_at_call 88; refine (textSpec_any _ _ (by first | exact h3 | exact h4)).mono ?_; rintro e w' ⟨rfl, hw'⟩; rw [hw']; clear hw' w'; first | rw [hq] | rw [hp]))
      go_ret
      exact ⟨ret_bool HX.out.symm, HB.out⟩
    by_cases p3 : pointer.size = 0
    · have g3 : ((pointer.size : Int) == 0) = true := by rw [p3]; rfl
      have HX := hide (show okR ⟨kind, control, tag, query, page, pointer⟩ = true by simp [okR, hc, ht, k1, hq, p1, p2, p3])
      clear k1 p3
      go_enter Try.func59, Try.ntmps59
      go_wp2_with (first | (go_at_call 86; refine (controlSpec_any control _ h1).mono ?_; rintro e w' ⟨rfl, hw'⟩; rw [hw', hc]; clear hw' w') | (go_at_call 87; refine (tagSpec_any tag _ h2).mono ?_; rintro e w' ⟨rfl, hw'⟩; rw [hw', ht]; clear hw' w') | (go_at_call 88; refine (textSpec_any _ _ (by first | exact h3 | exact h4)).mono ?_; rintro e w' ⟨rfl, hw'⟩; rw [hw']; clear hw' w'; first | rw [hq] | rw [hp]))
      go_ret
      exact ⟨ret_bool HX.out.symm, HB.out⟩
    · have g3 : ((pointer.size : Int) == 0) = false := by rw [beq_eq_false_iff_ne]; omega
      have HX := hide (show okR ⟨kind, control, tag, query, page, pointer⟩ = false by simp [okR, hc, ht, k1, hq, p1, p2, p3])
      clear k1
      go_enter Try.func59, Try.ntmps59
      go_wp2_with (first | (go_at_call 86; refine (controlSpec_any control _ h1).mono ?_; rintro e w' ⟨rfl, hw'⟩; rw [hw', hc]; clear hw' w') | (go_at_call 87; refine (tagSpec_any tag _ h2).mono ?_; rintro e w' ⟨rfl, hw'⟩; rw [hw', ht]; clear hw' w') | (go_at_call 88; refine (textSpec_any _ _ (by first | exact h3 | exact h4)).mono ?_; rintro e w' ⟨rfl, hw'⟩; rw [hw']; clear hw' w'; first | rw [hq] | rw [hp]))
      go_ret
      exact ⟨ret_bool HX.out.symm, HB.out⟩
  have g1 : (kind == 1) = false := by simp [k1]
  by_cases k2 : kind = 2
  · have g2 : (kind == 2) = true := by simp [k2]
    cases hq : textB query
    · have hp : textB pointer = textB pointer := rfl
      have HX := hide (show okR ⟨kind, control, tag, query, page, pointer⟩ = false by simp [okR, hc, ht, k1, k2, hq])
      clear k2
      go_enter Try.func59, Try.ntmps59
      go_wp2_with (first | (go_at_call 86; refine (controlSpec_any control _ h1).mono ?_; rintro e w' ⟨rfl, hw'⟩; rw [hw', hc]; clear hw' w') | (go_at_call 87; refine (tagSpec_any tag _ h2).mono ?_; rintro e w' ⟨rfl, hw'⟩; rw [hw', ht]; clear hw' w') | (go_at_call 88; refine (textSpec_any _ _ (by first | exact h3 | exact h4)).mono ?_; rintro e w' ⟨rfl, hw'⟩; rw [hw']; clear hw' w'; first | rw [hq] | rw [hp]))
      go_ret
      exact ⟨ret_bool HX.out.symm, HB.out⟩
    by_cases p1 : page = 0
    rotate_left
    · have g3 : (page == 0) = false := by rw [beq_eq_false_iff_ne]; exact p1
      have hp : textB pointer = textB pointer := rfl
      have HX := hide (show okR ⟨kind, control, tag, query, page, pointer⟩ = false by simp [okR, hc, ht, k1, k2, hq, p1])
      clear k2
      go_enter Try.func59, Try.ntmps59
      go_wp2_with (first | (go_at_call 86; refine (controlSpec_any control _ h1).mono ?_; rintro e w' ⟨rfl, hw'⟩; rw [hw', hc]; clear hw' w') | (go_at_call 87; refine (tagSpec_any tag _ h2).mono ?_; rintro e w' ⟨rfl, hw'⟩; rw [hw', ht]; clear hw' w') | (go_at_call 88; refine (textSpec_any _ _ (by first | exact h3 | exact h4)).mono ?_; rintro e w' ⟨rfl, hw'⟩; rw [hw']; clear hw' w'; first | rw [hq] | rw [hp]))
      go_ret
      exact ⟨ret_bool HX.out.symm, HB.out⟩
    have g3 : (page == 0) = true := by rw [p1]; rfl
    by_cases p2 : 0 < pointer.size
    rotate_left
    · have p2' : ¬ (0 : Int) < (pointer.size : Int) := by omega
      have hp : textB pointer = textB pointer := rfl
      have HX := hide (show okR ⟨kind, control, tag, query, page, pointer⟩ = false by simp [okR, hc, ht, k1, k2, hq, p1, p2])
      clear k2 p1
      go_enter Try.func59, Try.ntmps59
      go_wp2_with (first | (go_at_call 86; refine (controlSpec_any control _ h1).mono ?_; rintro e w' ⟨rfl, hw'⟩; rw [hw', hc]; clear hw' w') | (go_at_call 87; refine (tagSpec_any tag _ h2).mono ?_; rintro e w' ⟨rfl, hw'⟩; rw [hw', ht]; clear hw' w') | (go_at_call 88; refine (textSpec_any _ _ (by first | exact h3 | exact h4)).mono ?_; rintro e w' ⟨rfl, hw'⟩; rw [hw']; clear hw' w'; first | rw [hq] | rw [hp]))
      go_ret
      exact ⟨ret_bool HX.out.symm, HB.out⟩
    have p2' : (0 : Int) < (pointer.size : Int) := by omega
    cases hp : textB pointer
    · have HX := hide (show okR ⟨kind, control, tag, query, page, pointer⟩ = false by simp [okR, hc, ht, k1, k2, hq, p1, p2, hp])
      clear k2 p1
      go_enter Try.func59, Try.ntmps59
      go_wp2_with (first | (go_at_call 86; refine (controlSpec_any control _ h1).mono ?_; rintro e w' ⟨rfl, hw'⟩; rw [hw', hc]; clear hw' w') | (go_at_call 87; refine (tagSpec_any tag _ h2).mono ?_; rintro e w' ⟨rfl, hw'⟩; rw [hw', ht]; clear hw' w') | (go_at_call 88; refine (textSpec_any _ _ (by first | exact h3 | exact h4)).mono ?_; rintro e w' ⟨rfl, hw'⟩; rw [hw']; clear hw' w'; first | rw [hq] | rw [hp]))
      go_ret
      exact ⟨ret_bool HX.out.symm, HB.out⟩
    · have HX := hide (show okR ⟨kind, control, tag, query, page, pointer⟩ = true by simp [okR, hc, ht, k1, k2, hq, p1, p2, hp])
      clear k2 p1
      go_enter Try.func59, Try.ntmps59
      go_wp2_with (first | (go_at_call 86; refine (controlSpec_any control _ h1).mono ?_; rintro e w' ⟨rfl, hw'⟩; rw [hw', hc]; clear hw' w') | (go_at_call 87; refine (tagSpec_any tag _ h2).mono ?_; rintro e w' ⟨rfl, hw'⟩; rw [hw', ht]; clear hw' w') | (go_at_call 88; refine (textSpec_any _ _ (by first | exact h3 | exact h4)).mono ?_; rintro e w' ⟨rfl, hw'⟩; rw [hw']; clear hw' w'; first | rw [hq] | rw [hp]))
      go_ret
      exact ⟨ret_bool HX.out.symm, HB.out⟩
  have g2 : (kind == 2) = false := by simp [k2]
  have hq : textB query = textB query := rfl
  have hp : textB pointer = textB pointer := rfl
  by_cases k3 : kind = 3
  rotate_left
  · have g3 : (kind == 3) = false := by simp [k3]
    have HX := hide (show okR ⟨kind, control, tag, query, page, pointer⟩ = false by simp [okR, hc, ht, k1, k2, k3])
    go_enter Try.func59, Try.ntmps59
    go_wp2_with (first | (go_at_call 86; refine (controlSpec_any control _ h1).mono ?_; rintro e w' ⟨rfl, hw'⟩; rw [hw', hc]; clear hw' w') | (go_at_call 87; refine (tagSpec_any tag _ h2).mono ?_; rintro e w' ⟨rfl, hw'⟩; rw [hw', ht]; clear hw' w') | (go_at_call 88; refine (textSpec_any _ _ (by first | exact h3 | exact h4)).mono ?_; rintro e w' ⟨rfl, hw'⟩; rw [hw']; clear hw' w'; first | rw [hq] | rw [hp]))
    go_ret
    exact ⟨ret_bool HX.out.symm, HB.out⟩
  have g3 : (kind == 3) = true := by simp [k3]
  by_cases p1 : query.size = 0
  rotate_left
  · have e1 : ((query.size : Int) == 0) = false := by rw [beq_eq_false_iff_ne]; omega
    have HX := hide (show okR ⟨kind, control, tag, query, page, pointer⟩ = false by simp [okR, hc, ht, k1, k2, k3, p1])
    clear k3
    go_enter Try.func59, Try.ntmps59
    go_wp2_with (first | (go_at_call 86; refine (controlSpec_any control _ h1).mono ?_; rintro e w' ⟨rfl, hw'⟩; rw [hw', hc]; clear hw' w') | (go_at_call 87; refine (tagSpec_any tag _ h2).mono ?_; rintro e w' ⟨rfl, hw'⟩; rw [hw', ht]; clear hw' w') | (go_at_call 88; refine (textSpec_any _ _ (by first | exact h3 | exact h4)).mono ?_; rintro e w' ⟨rfl, hw'⟩; rw [hw']; clear hw' w'; first | rw [hq] | rw [hp]))
    go_ret
    exact ⟨ret_bool HX.out.symm, HB.out⟩
  have e1 : ((query.size : Int) == 0) = true := by rw [p1]; rfl
  by_cases p2 : page = 0
  rotate_left
  · have e2 : (page == 0) = false := by rw [beq_eq_false_iff_ne]; exact p2
    have HX := hide (show okR ⟨kind, control, tag, query, page, pointer⟩ = false by simp [okR, hc, ht, k1, k2, k3, p1, p2])
    clear k3 p1
    go_enter Try.func59, Try.ntmps59
    go_wp2_with (first | (go_at_call 86; refine (controlSpec_any control _ h1).mono ?_; rintro e w' ⟨rfl, hw'⟩; rw [hw', hc]; clear hw' w') | (go_at_call 87; refine (tagSpec_any tag _ h2).mono ?_; rintro e w' ⟨rfl, hw'⟩; rw [hw', ht]; clear hw' w') | (go_at_call 88; refine (textSpec_any _ _ (by first | exact h3 | exact h4)).mono ?_; rintro e w' ⟨rfl, hw'⟩; rw [hw']; clear hw' w'; first | rw [hq] | rw [hp]))
    go_ret
    exact ⟨ret_bool HX.out.symm, HB.out⟩
  have e2 : (page == 0) = true := by rw [p2]; rfl
  by_cases p3 : pointer.size = 0
  · have e3 : ((pointer.size : Int) == 0) = true := by rw [p3]; rfl
    have HX := hide (show okR ⟨kind, control, tag, query, page, pointer⟩ = true by simp [okR, hc, ht, k1, k2, k3, p1, p2, p3])
    clear k3 p1 p2 p3
    go_enter Try.func59, Try.ntmps59
    go_wp2_with (first | (go_at_call 86; refine (controlSpec_any control _ h1).mono ?_; rintro e w' ⟨rfl, hw'⟩; rw [hw', hc]; clear hw' w') | (go_at_call 87; refine (tagSpec_any tag _ h2).mono ?_; rintro e w' ⟨rfl, hw'⟩; rw [hw', ht]; clear hw' w') | (go_at_call 88; refine (textSpec_any _ _ (by first | exact h3 | exact h4)).mono ?_; rintro e w' ⟨rfl, hw'⟩; rw [hw']; clear hw' w'; first | rw [hq] | rw [hp]))
    go_ret
    exact ⟨ret_bool HX.out.symm, HB.out⟩
  · have e3 : ((pointer.size : Int) == 0) = false := by rw [beq_eq_false_iff_ne]; omega
    have HX := hide (show okR ⟨kind, control, tag, query, page, pointer⟩ = false by simp [okR, hc, ht, k1, k2, k3, p1, p2, p3])
    clear k3 p1 p2
    go_enter Try.func59, Try.ntmps59
    go_wp2_with (first | (go_at_call 86; refine (controlSpec_any control _ h1).mono ?_; rintro e w' ⟨rfl, hw'⟩; rw [hw', hc]; clear hw' w') | (go_at_call 87; refine (tagSpec_any tag _ h2).mono ?_; rintro e w' ⟨rfl, hw'⟩; rw [hw', ht]; clear hw' w') | (go_at_call 88; refine (textSpec_any _ _ (by first | exact h3 | exact h4)).mono ?_; rintro e w' ⟨rfl, hw'⟩; rw [hw']; clear hw' w'; first | rw [hq] | rw [hp]))
    go_ret
    exact ⟨ret_bool HX.out.symm, HB.out⟩

theorem l3Ok_any (r : Req) (w : World) (h1 : r.control.size ≤ 9223372036854775807) (h2 : r.tag.size ≤ 9223372036854775807) (h3 : r.query.size ≤ 9223372036854775807) (h4 : r.pointer.size ≤ 9223372036854775807) :
    Calls Try.prog 59 #[reqV r] w fun e w' => e = .returned (.bool (okR r)) ∧ Below w.heap.size w w' := by
  obtain ⟨kind, control, tag, query, page, pointer⟩ := r
  cases hb : (controlB control && tagB tag)
  · refine (l3Ok_bad kind page control tag query pointer w h1 h2 hb).mono ?_
    rintro e w' ⟨rfl, h⟩
    refine ⟨ret_bool ?_, h⟩
    unfold okR
    rw [← Bool.and_assoc]
    simp only [hb, Bool.false_and]
  · rw [Bool.and_eq_true] at hb
    exact l3Ok_good kind page control tag query pointer w h1 h2 h3 h4 hb.1 hb.2
end Go.Proofs.Ythjilkclppfpdab.Msg

namespace Go.Proofs.Ythjilkclppfpdab.Msg
open Go.ChangeShapes Go.WideShapes Go.ChangeAt Go.RowKit
set_option linter.unusedVariables false
set_option linter.unusedSimpArgs false

/-- a repetition of two components that are not empty -/
theorem newRep2 (s1 s2 : ByteArray) (w : World) (h1 : s1.size ≤ 1048576) (h2 : s2.size ≤ 1048576) (h20 : s2.size ≠ 0) :
    Calls Try.prog 164 #[.slice (some ⟨w.heap.size, 0, none⟩) 2 2] (w.alloc (.cells #[.string s1, .string s2] 9)) fun e w' => ∃ u, e = .returned (.agg #[u]) ∧ ∃ bs, OStrs w' u [s1, s2] bs ∧ bs.Nodup ∧ (∀ b ∈ bs, w.heap.size ≤ b ∧ b < w'.heap.size) ∧ Below w.heap.size w w' := by
  have hb1 := (Below.refl w.heap.size w).alloc (Nat.le_refl _) (.cells #[.string s1, .string s2] 9)
  have hsb : SBuf w.heap.size (w.alloc (.cells #[.string s1, .string s2] 9)) (.slice (some ⟨w.heap.size, 0, none⟩) 2 2) ([s1.data.toList, s2.data.toList].map txt) := by
    unfold SBuf
    have h := World.ownsRow_lit (base := w.heap.size) (e := 9) (size := 1) w #[.string s1, .string s2] 2 (Nat.le_refl _) (by unfold maxLen; omega) rfl
    simpa [txt_of] using h
  refine (newRep_any [s1.data.toList, s2.data.toList] _ _ _ hsb (by simp) (by simp) (by intro p hp; simp at hp; rcases hp with rfl | rfl <;> simp <;> assumption)).mono ?_
  rintro e w' ⟨u, rfl, hu, hb⟩
  have e2 : keepN List.isEmpty [s1.data.toList, s2.data.toList] = 2 := by
    unfold keepN
    unfold keepN
    rw [show keepN List.isEmpty ([] : List (List UInt8)) = 0 from rfl]
    simp only
    rw [isE (s := s2), decide_eq_false h20]
    rfl
  have hT : trimE List.isEmpty [s1.data.toList, s2.data.toList] = [s1.data.toList, s2.data.toList] := by unfold trimE; rw [e2]; rfl
  rw [hT] at hu
  have hu' : w'.ownsRow (w.alloc (.cells #[.string s1, .string s2] 9)).heap.size 9 1 u [Value.string s1, .string s2].length [.string s1, .string s2] := by
    unfold SBuf at hu
    simpa [txt_of] using hu
  obtain ⟨h, _⟩ | ⟨g, cap, rfl, hg, hlt, hc⟩ := own_cells hu'
  · cases h
  have hg' : w.heap.size + 1 ≤ g := by simpa using hg
  refine ⟨_, rfl, [g], ⟨by simp, .inr ⟨g, 0, cap, [[], []], rfl, hlt, rfl, rfl, fun i hi hi2 => ?_⟩⟩, by simp, ?_, bjoin' hb hb1⟩
  · have hc' := hc i hi
    have hi' : i < 2 := hi
    match i, hi' with
    | 0, _ => exact ⟨hc'.1, hc'.2, by show s1.size ≤ _; omega, rfl⟩
    | 1, _ => exact ⟨hc'.1, hc'.2, by show s2.size ≤ _; omega, rfl⟩
  · intro b hb'
    simp at hb'
    subst hb'
    exact ⟨by omega, hlt⟩

/-- a list of segments out of what newSegment gave -/
theorem segsO (segs : List Seg) (us : List Value) (bss : List (List Nat)) (base : Nat) (w : World) (hP : Parts OFields base w us (segs.map Seg.fields) bss) (hn : ∀ x ∈ segs, x.name.size ≤ 9223372036854775807) (hl : segs.length ≤ 9223372036854775807) (hp : 0 < segs.length) :
    OSegs (w.alloc (.cells (segCells segs us).toArray 87)) (.slice (some ⟨w.heap.size, 0, none⟩) segs.length segs.length) segs (w.heap.size :: bss.flatten) ∧ (w.heap.size :: bss.flatten).Nodup ∧ (∀ b ∈ bss.flatten, base ≤ b ∧ b < w.heap.size) := by
  obtain ⟨h1, h2, h3, h4⟩ := hP
  rw [List.length_map] at h1 h2
  have hb1 := (Below.refl w.heap.size w).alloc (Nat.le_refl _) (.cells (segCells segs us).toArray 87)
  have hin : ∀ b ∈ bss.flatten, base ≤ b ∧ b < w.heap.size := fun b hb' => by
    rw [List.mem_flatten] at hb'
    obtain ⟨l, hl', ha⟩ := hb'
    obtain ⟨i, hi, rfl⟩ := List.getElem_of_mem hl'
    exact (h4 i (by rw [List.length_map]; omega) (by omega) hi).2 b ha
  refine ⟨⟨hl, .inr ⟨w.heap.size, 0, segs.length, bss, rfl, by simp, rfl, h2, fun i hi hi2 => ?_⟩⟩, ?_, hin⟩
  · have hc := segCells_at segs us i h1 hi
    obtain ⟨k1, k2⟩ := h4 i (by rw [List.length_map]; exact hi) (by omega) hi2
    rw [List.getElem_map] at k1
    refine ⟨?_, ?_, hn _ (List.getElem_mem _), us[i]'(by omega), ?_, OAt.kept keptO_field k1 hb1.size fun d hd => hb1.block d (k2 d hd).2⟩
    · rw [World.cell?_alloc_new]; simpa using hc.1
    · exact World.frozen?_alloc_new _ _ _ _
    · rw [World.cell?_alloc_new]; simpa using hc.2
  · rw [List.nodup_cons]
    exact ⟨fun hm => by have := (hin _ hm).2; omega, h3⟩
end Go.Proofs.Ythjilkclppfpdab.Msg
