import Derived.Test.YtjpdgcodjnnljaaQrySpecwithQryNum
import Derived.Deep.RegionHeld3
import Derived.BigQuiet
namespace Go.Proofs.Ytjpdgcodjnnljaa.Msg
open Go.ChangeShapes Go.WideShapes Go.ChangeAt Go.RowKit
set_option linter.unusedVariables false
set_option linter.unusedSimpArgs false

structure Req where
  kind : Int
  control : ByteArray
  tag : ByteArray
  query : ByteArray
  page : Int
  pointer : ByteArray
def reqV (r : Req) : Value := .agg #[.int .i64 r.kind, .string r.control, .string r.tag, .string r.query, .int .i64 r.page, .string r.pointer]
/-- what a request with an error still tells -/
def told (control : ByteArray) : Req := ⟨0, if controlB control then control else ⟨#[]⟩, ⟨#[]⟩, ⟨#[]⟩, 0, ⟨#[]⟩⟩
/-- ReadRequest, out of what stands in the message; num is the number of the page's size -/
def readOf (kind control ver idt tag query pointer size : ByteArray) (num : Int) : Req × Int :=
  if !(kind.toList == [81, 66, 80]) && !(kind.toList == [81, 67, 78]) then (told control, 200)
  else if !controlB control then (told control, 101)
  else if !(ver.toList == [50, 46, 53, 46, 49]) then (told control, 203)
  else if kind.toList == [81, 67, 78] then (if tagB idt then (⟨3, control, idt, ⟨#[]⟩, 0, ⟨#[]⟩⟩, 0) else (told control, 101))
  else if !tagB tag then (told control, 101)
  else if !textB query || !textB pointer then (told control, 102)
  else if 0 < pointer.size then (⟨2, control, tag, query, 0, pointer⟩, 0)
  else if 0 < size.size then (if decide (1 ≤ num) && decide (num ≤ 50) then (⟨1, control, tag, query, num, ⟨#[]⟩⟩, 0) else (told control, 102))
  else (⟨1, control, tag, query, 10, ⟨#[]⟩⟩, 0)
theorem readOf_same (kind control ver idt tag query pointer size : ByteArray) :
    readOf kind control ver idt tag query pointer size (numS size.data.toList) = readOf kind control ver idt tag query pointer size (numI size.data.toList) := by
  have h := num_range size.data.toList 50 (by omega) (by omega)
  unfold readOf
  rw [h]
  by_cases hn : (decide (1 ≤ numI size.data.toList) && decide (numI size.data.toList ≤ 50)) = true
  · have hs := num_same size.data.toList (.inr (by simp at hn; omega))
    rw [hs]
  · rw [if_neg hn, if_neg hn]

/-! how long what Get gives can be -/
theorem mem_le {α : Type} (f : α → Nat) : ∀ (xs : List α) (x : α), x ∈ xs → f x ≤ sumOf f xs
  | y :: ys, x, h => by
    rw [List.mem_cons] at h
    unfold sumOf
    rw [List.map_cons, List.sum_cons]
    rcases h with rfl | h
    · omega
    · have := mem_le f ys x h
      unfold sumOf at this
      omega
theorem pick_sz (fs : List Field) (a c : Int) : (pick fs a c).size ≤ sumOf fieldSz fs := by
  unfold pick
  split
  · exact Nat.zero_le _
  · cases hf : fs[a.toNat]? with
    | none => exact Nat.zero_le _
    | some f =>
      cases f with
      | nil => exact Nat.zero_le _
      | cons r rs =>
        show (if c < 1 then (⟨#[]⟩ : ByteArray) else r.getD (c - 1).toNat ⟨#[]⟩).size ≤ _
        split
        · exact Nat.zero_le _
        · have h1 : (r.getD (c - 1).toNat ⟨#[]⟩).size ≤ repSz r := by
            rw [List.getD_eq_getElem?_getD]
            cases hr : r[(c - 1).toNat]? with
            | none => exact Nat.zero_le _
            | some x =>
              have h2 := mem_le strSz r x (List.mem_of_getElem? hr)
              show x.size ≤ _
              unfold repSz lenSum
              unfold strSz at h2 ⊢
              omega
          have h3 := mem_le fieldSz fs (r :: rs) (List.mem_of_getElem? hf)
          have h4 := mem_le repSz (r :: rs) r (by simp)
          have h5 : fieldSz (r :: rs) = (r :: rs).length + sumOf repSz (r :: rs) := rfl
          omega
theorem getFrom_sz (xs : List Seg) (name : ByteArray) (f c : Int) : (getFrom xs name f c).size ≤ msgSz xs := by
  unfold getFrom
  cases h : xs.find? fun s => s.name.toList == name.toList with
  | none => exact Nat.zero_le _
  | some s =>
    have h1 := mem_le segSz xs s (List.mem_of_find?_eq_some h)
    have h2 := pick_sz s.fields (f - if mshB name then 3 else 1) c
    show (pick s.fields _ c).size ≤ _
    have h5 : segSz s = s.name.size + (s.fields.length + sumOf fieldSz s.fields) := rfl
    have h6 : msgSz xs = xs.length + sumOf segSz xs := rfl
    omega
end Go.Proofs.Ytjpdgcodjnnljaa.Msg

namespace Go.Proofs.Ytjpdgcodjnnljaa.Msg
open Go.ChangeShapes Go.WideShapes Go.ChangeAt Go.RowKit
set_option linter.unusedVariables false
set_option linter.unusedSimpArgs false

/-- a request that ReadRequest can give -/
def okR (r : Req) : Bool := controlB r.control && (tagB r.tag && (if r.kind = 1 then textB r.query && (decide (1 ≤ r.page) && (decide (r.page ≤ 50) && decide (r.pointer.size = 0)))
  else if r.kind = 2 then textB r.query && (decide (r.page = 0) && (decide (0 < r.pointer.size) && textB r.pointer))
  else decide (r.kind = 3) && (decide (r.query.size = 0) && (decide (r.page = 0) && decide (r.pointer.size = 0)))))

set_option maxRecDepth 100000 in
set_option maxHeartbeats 1000000 in
theorem l3Ok_bad (kind page : Int) (control tag query pointer : ByteArray) (w : World) (h1 : control.size ≤ 9223372036854775807) (h2 : tag.size ≤ 9223372036854775807) (hb : (controlB control && tagB tag) = false) :
    Calls Try.prog 79 #[.agg #[.int .i64 kind, .string control, .string tag, .string query, .int .i64 page, .string pointer]] w fun e w' => e = .returned (.bool false) ∧ Below w.heap.size w w' := by
  have HB := hide ((Below.refl w.heap.size w).alloc (Nat.le_refl _) (Obj.cells #[.int .i64 kind, .string control, .string tag, .string query, .int .i64 page, .string pointer] 65))
  cases hc : controlB control
  · have ht : tagB tag = tagB tag := rfl
    go_enter Try.func79, Try.ntmps79
    go_wp2_with (first | (go_at_call 108; refine (controlSpec_any control _ h1).mono ?_; rintro e w' ⟨rfl, hw'⟩; rw [hw', hc]; clear hw' w') | (go_at_call 109; refine (tagSpec_any tag _ h2).mono ?_; rintro e w' ⟨rfl, hw'⟩; rw [hw', ht]; clear hw' w'))
    go_ret
    exact ⟨rfl, HB.out⟩
  · have ht : tagB tag = false := by rw [hc] at hb; simpa using hb
    go_enter Try.func79, Try.ntmps79
    go_wp2_with (first | (go_at_call 108; refine (controlSpec_any control _ h1).mono ?_; rintro e w' ⟨rfl, hw'⟩; rw [hw', hc]; clear hw' w') | (go_at_call 109; refine (tagSpec_any tag _ h2).mono ?_; rintro e w' ⟨rfl, hw'⟩; rw [hw', ht]; clear hw' w'))
    go_ret
    exact ⟨rfl, HB.out⟩

set_option maxRecDepth 100000 in
set_option maxHeartbeats 4000000 in
theorem l3Ok_good (kind page : Int) (control tag query pointer : ByteArray) (w : World) (h1 : control.size ≤ 9223372036854775807) (h2 : tag.size ≤ 9223372036854775807) (h3 : query.size ≤ 9223372036854775807) (h4 : pointer.size ≤ 9223372036854775807) (hc : controlB control = true) (ht : tagB tag = true) :
    Calls Try.prog 79 #[.agg #[.int .i64 kind, .string control, .string tag, .string query, .int .i64 page, .string pointer]] w fun e w' => e = .returned (.bool (okR ⟨kind, control, tag, query, page, pointer⟩)) ∧ Below w.heap.size w w' := by
  have HB := hide ((Below.refl w.heap.size w).alloc (Nat.le_refl _) (Obj.cells #[.int .i64 kind, .string control, .string tag, .string query, .int .i64 page, .string pointer] 65))
  by_cases k1 : kind = 1
  · have g1 : (kind == 1) = true := by simp [k1]
    have hp : textB pointer = textB pointer := rfl
    cases hq : textB query
    · have HX := hide (show okR ⟨kind, control, tag, query, page, pointer⟩ = false by simp [okR, hc, ht, k1, hq])
      clear k1
      go_enter Try.func79, Try.ntmps79
      go_wp2_with (first | (go_at_call 108; refine (controlSpec_any control _ h1).mono ?_; rintro e w' ⟨rfl, hw'⟩; rw [hw', hc]; clear hw' w') | (go_at_call 109; refine (tagSpec_any tag _ h2).mono ?_; rintro e w' ⟨rfl, hw'⟩; rw [hw', ht]; clear hw' w') | (go_at_call 110; refine (textSpec_any _ _ (by first | exact h3 | exact h4)).mono ?_; rintro e w' ⟨rfl, hw'⟩; rw [hw']; clear hw' w'; first | rw [hq] | rw [hp]))
      go_ret
      exact ⟨ret_bool HX.out.symm, HB.out⟩
    by_cases p1 : 1 ≤ page
    rotate_left
    · have HX := hide (show okR ⟨kind, control, tag, query, page, pointer⟩ = false by simp [okR, hc, ht, k1, hq, p1])
      clear k1
      go_enter Try.func79, Try.ntmps79
      go_wp2_with (first | (go_at_call 108; refine (controlSpec_any control _ h1).mono ?_; rintro e w' ⟨rfl, hw'⟩; rw [hw', hc]; clear hw' w') | (go_at_call 109; refine (tagSpec_any tag _ h2).mono ?_; rintro e w' ⟨rfl, hw'⟩; rw [hw', ht]; clear hw' w') | (go_at_call 110; refine (textSpec_any _ _ (by first | exact h3 | exact h4)).mono ?_; rintro e w' ⟨rfl, hw'⟩; rw [hw']; clear hw' w'; first | rw [hq] | rw [hp]))
      go_ret
      exact ⟨ret_bool HX.out.symm, HB.out⟩
    by_cases p2 : page ≤ 50
    rotate_left
    · have HX := hide (show okR ⟨kind, control, tag, query, page, pointer⟩ = false by simp [okR, hc, ht, k1, hq, p1, p2])
      clear k1
      go_enter Try.func79, Try.ntmps79
      go_wp2_with (first | (go_at_call 108; refine (controlSpec_any control _ h1).mono ?_; rintro e w' ⟨rfl, hw'⟩; rw [hw', hc]; clear hw' w') | (go_at_call 109; refine (tagSpec_any tag _ h2).mono ?_; rintro e w' ⟨rfl, hw'⟩; rw [hw', ht]; clear hw' w') | (go_at_call 110; refine (textSpec_any _ _ (by first | exact h3 | exact h4)).mono ?_; rintro e w' ⟨rfl, hw'⟩; rw [hw']; clear hw' w'; first | rw [hq] | rw [hp]))
      go_ret
      exact ⟨ret_bool HX.out.symm, HB.out⟩
    by_cases p3 : pointer.size = 0
    · have g3 : ((pointer.size : Int) == 0) = true := by rw [p3]; rfl
      have HX := hide (show okR ⟨kind, control, tag, query, page, pointer⟩ = true by simp [okR, hc, ht, k1, hq, p1, p2, p3])
      clear k1 p3
      go_enter Try.func79, Try.ntmps79
      go_wp2_with (first | (go_at_call 108; refine (controlSpec_any control _ h1).mono ?_; rintro e w' ⟨rfl, hw'⟩; rw [hw', hc]; clear hw' w') | (go_at_call 109; refine (tagSpec_any tag _ h2).mono ?_; rintro e w' ⟨rfl, hw'⟩; rw [hw', ht]; clear hw' w') | (go_at_call 110; refine (textSpec_any _ _ (by first | exact h3 | exact h4)).mono ?_; rintro e w' ⟨rfl, hw'⟩; rw [hw']; clear hw' w'; first | rw [hq] | rw [hp]))
      go_ret
      exact ⟨ret_bool HX.out.symm, HB.out⟩
    · have g3 : ((pointer.size : Int) == 0) = false := by rw [beq_eq_false_iff_ne]; omega
      have HX := hide (show okR ⟨kind, control, tag, query, page, pointer⟩ = false by simp [okR, hc, ht, k1, hq, p1, p2, p3])
      clear k1
      go_enter Try.func79, Try.ntmps79
      go_wp2_with (first | (go_at_call 108; refine (controlSpec_any control _ h1).mono ?_; rintro e w' ⟨rfl, hw'⟩; rw [hw', hc]; clear hw' w') | (go_at_call 109; refine (tagSpec_any tag _ h2).mono ?_; rintro e w' ⟨rfl, hw'⟩; rw [hw', ht]; clear hw' w') | (go_at_call 110; refine (textSpec_any _ _ (by first | exact h3 | exact h4)).mono ?_; rintro e w' ⟨rfl, hw'⟩; rw [hw']; clear hw' w'; first | rw [hq] | rw [hp]))
      go_ret
      exact ⟨ret_bool HX.out.symm, HB.out⟩
  have g1 : (kind == 1) = false := by simp [k1]
  by_cases k2 : kind = 2
  · have g2 : (kind == 2) = true := by simp [k2]
    cases hq : textB query
    · have hp : textB pointer = textB pointer := rfl
      have HX := hide (show okR ⟨kind, control, tag, query, page, pointer⟩ = false by simp [okR, hc, ht, k1, k2, hq])
      clear k2
      go_enter Try.func79, Try.ntmps79
      go_wp2_with (first | (go_at_call 108; refine (controlSpec_any control _ h1).mono ?_; rintro e w' ⟨rfl, hw'⟩; rw [hw', hc]; clear hw' w') | (go_at_call 109; refine (tagSpec_any tag _ h2).mono ?_; rintro e w' ⟨rfl, hw'⟩; rw [hw', ht]; clear hw' w') | (go_at_call 110; refine (textSpec_any _ _ (by first | exact h3 | exact h4)).mono ?_; rintro e w' ⟨rfl, hw'⟩; rw [hw']; clear hw' w'; first | rw [hq] | rw [hp]))
      go_ret
      exact ⟨ret_bool HX.out.symm, HB.out⟩
    by_cases p1 : page = 0
    rotate_left
    · have g3 : (page == 0) = false := by rw [beq_eq_false_iff_ne]; exact p1
      have hp : textB pointer = textB pointer := rfl
      have HX := hide (show okR ⟨kind, control, tag, query, page, pointer⟩ = false by simp [okR, hc, ht, k1, k2, hq, p1])
      clear k2
      go_enter Try.func79, Try.ntmps79
      go_wp2_with (first | (go_at_call 108; refine (controlSpec_any control _ h1).mono ?_; rintro e w' ⟨rfl, hw'⟩; rw [hw', hc]; clear hw' w') | (go_at_call 109; refine (tagSpec_any tag _ h2).mono ?_; rintro e w' ⟨rfl, hw'⟩; rw [hw', ht]; clear hw' w') | (go_at_call 110; refine (textSpec_any _ _ (by first | exact h3 | exact h4)).mono ?_; rintro e w' ⟨rfl, hw'⟩; rw [hw']; clear hw' w'; first | rw [hq] | rw [hp]))
      go_ret
      exact ⟨ret_bool HX.out.symm, HB.out⟩
    have g3 : (page == 0) = true := by rw [p1]; rfl
    by_cases p2 : 0 < pointer.size
    rotate_left
    · have p2' : ¬ (0 : Int) < (pointer.size : Int) := by omega
      have hp : textB pointer = textB pointer := rfl
      have HX := hide (show okR ⟨kind, control, tag, query, page, pointer⟩ = false by simp [okR, hc, ht, k1, k2, hq, p1, p2])
      clear k2 p1
      go_enter Try.func79, Try.ntmps79
      go_wp2_with (first | (go_at_call 108; refine (controlSpec_any control _ h1).mono ?_; rintro e w' ⟨rfl, hw'⟩; rw [hw', hc]; clear hw' w') | (go_at_call 109; refine (tagSpec_any tag _ h2).mono ?_; rintro e w' ⟨rfl, hw'⟩; rw [hw', ht]; clear hw' w') | (go_at_call 110; refine (textSpec_any _ _ (by first | exact h3 | exact h4)).mono ?_; rintro e w' ⟨rfl, hw'⟩; rw [hw']; clear hw' w'; first | rw [hq] | rw [hp]))
      go_ret
      exact ⟨ret_bool HX.out.symm, HB.out⟩
    have p2' : (0 : Int) < (pointer.size : Int) := by omega
    cases hp : textB pointer
    · have HX := hide (show okR ⟨kind, control, tag, query, page, pointer⟩ = false by simp [okR, hc, ht, k1, k2, hq, p1, p2, hp])
      clear k2 p1
      go_enter Try.func79, Try.ntmps79
      go_wp2_with (first | (go_at_call 108; refine (controlSpec_any control _ h1).mono ?_; rintro e w' ⟨rfl, hw'⟩; rw [hw', hc]; clear hw' w') | (go_at_call 109; refine (tagSpec_any tag _ h2).mono ?_; rintro e w' ⟨rfl, hw'⟩; rw [hw', ht]; clear hw' w') | (go_at_call 110; refine (textSpec_any _ _ (by first | exact h3 | exact h4)).mono ?_; rintro e w' ⟨rfl, hw'⟩; rw [hw']; clear hw' w'; first | rw [hq] | rw [hp]))
      go_ret
      exact ⟨ret_bool HX.out.symm, HB.out⟩
    · have HX := hide (show okR ⟨kind, control, tag, query, page, pointer⟩ = true by simp [okR, hc, ht, k1, k2, hq, p1, p2, hp])
      clear k2 p1
      go_enter Try.func79, Try.ntmps79
      go_wp2_with (first | (go_at_call 108; refine (controlSpec_any control _ h1).mono ?_; rintro e w' ⟨rfl, hw'⟩; rw [hw', hc]; clear hw' w') | (go_at_call 109; refine (tagSpec_any tag _ h2).mono ?_; rintro e w' ⟨rfl, hw'⟩; rw [hw', ht]; clear hw' w') | (go_at_call 110; refine (textSpec_any _ _ (by first | exact h3 | exact h4)).mono ?_; rintro e w' ⟨rfl, hw'⟩; rw [hw']; clear hw' w'; first | rw [hq] | rw [hp]))
      go_ret
      exact ⟨ret_bool HX.out.symm, HB.out⟩
  have g2 : (kind == 2) = false := by simp [k2]
  have hq : textB query = textB query := rfl
  have hp : textB pointer = textB pointer := rfl
  by_cases k3 : kind = 3
  rotate_left
  · have g3 : (kind == 3) = false := by simp [k3]
    have HX := hide (show okR ⟨kind, control, tag, query, page, pointer⟩ = false by simp [okR, hc, ht, k1, k2, k3])
    go_enter Try.func79, Try.ntmps79
    go_wp2_with (first | (go_at_call 108; refine (controlSpec_any control _ h1).mono ?_; rintro e w' ⟨rfl, hw'⟩; rw [hw', hc]; clear hw' w') | (go_at_call 109; refine (tagSpec_any tag _ h2).mono ?_; rintro e w' ⟨rfl, hw'⟩; rw [hw', ht]; clear hw' w') | (go_at_call 110; refine (textSpec_any _ _ (by first | exact h3 | exact h4)).mono ?_; rintro e w' ⟨rfl, hw'⟩; rw [hw']; clear hw' w'; first | rw [hq] | rw [hp]))
    go_ret
    exact ⟨ret_bool HX.out.symm, HB.out⟩
  have g3 : (kind == 3) = true := by simp [k3]
  by_cases p1 : query.size = 0
  rotate_left
  · have e1 : ((query.size : Int) == 0) = false := by rw [beq_eq_false_iff_ne]; omega
    have HX := hide (show okR ⟨kind, control, tag, query, page, pointer⟩ = false by simp [okR, hc, ht, k1, k2, k3, p1])
    clear k3
    go_enter Try.func79, Try.ntmps79
    go_wp2_with (first | (go_at_call 108; refine (controlSpec_any control _ h1).mono ?_; rintro e w' ⟨rfl, hw'⟩; rw [hw', hc]; clear hw' w') | (go_at_call 109; refine (tagSpec_any tag _ h2).mono ?_; rintro e w' ⟨rfl, hw'⟩; rw [hw', ht]; clear hw' w') | (go_at_call 110; refine (textSpec_any _ _ (by first | exact h3 | exact h4)).mono ?_; rintro e w' ⟨rfl, hw'⟩; rw [hw']; clear hw' w'; first | rw [hq] | rw [hp]))
    go_ret
    exact ⟨ret_bool HX.out.symm, HB.out⟩
  have e1 : ((query.size : Int) == 0) = true := by rw [p1]; rfl
  by_cases p2 : page = 0
  rotate_left
  · have e2 : (page == 0) = false := by rw [beq_eq_false_iff_ne]; exact p2
    have HX := hide (show okR ⟨kind, control, tag, query, page, pointer⟩ = false by simp [okR, hc, ht, k1, k2, k3, p1, p2])
    clear k3 p1
    go_enter Try.func79, Try.ntmps79
    go_wp2_with (first | (go_at_call 108; refine (controlSpec_any control _ h1).mono ?_; rintro e w' ⟨rfl, hw'⟩; rw [hw', hc]; clear hw' w') | (go_at_call 109; refine (tagSpec_any tag _ h2).mono ?_; rintro e w' ⟨rfl, hw'⟩; rw [hw', ht]; clear hw' w') | (go_at_call 110; refine (textSpec_any _ _ (by first | exact h3 | exact h4)).mono ?_; rintro e w' ⟨rfl, hw'⟩; rw [hw']; clear hw' w'; first | rw [hq] | rw [hp]))
    go_ret
    exact ⟨ret_bool HX.out.symm, HB.out⟩
  have e2 : (page == 0) = true := by rw [p2]; rfl
  by_cases p3 : pointer.size = 0
  · have e3 : ((pointer.size : Int) == 0) = true := by rw [p3]; rfl
    have HX := hide (show okR ⟨kind, control, tag, query, page, pointer⟩ = true by simp [okR, hc, ht, k1, k2, k3, p1, p2, p3])
    clear k3 p1 p2 p3
    go_enter Try.func79, Try.ntmps79
    go_wp2_with (first | (go_at_call 108; refine (controlSpec_any control _ h1).mono ?_; rintro e w' ⟨rfl, hw'⟩; rw [hw', hc]; clear hw' w') | (go_at_call 109; refine (tagSpec_any tag _ h2).mono ?_; rintro e w' ⟨rfl, hw'⟩; rw [hw', ht]; clear hw' w') | (go_at_call 110; refine (textSpec_any _ _ (by first | exact h3 | exact h4)).mono ?_; rintro e w' ⟨rfl, hw'⟩; rw [hw']; clear hw' w'; first | rw [hq] | rw [hp]))
    go_ret
    exact ⟨ret_bool HX.out.symm, HB.out⟩
  · have e3 : ((pointer.size : Int) == 0) = false := by rw [beq_eq_false_iff_ne]; omega
    have HX := hide (show okR ⟨kind, control, tag, query, page, pointer⟩ = false by simp [okR, hc, ht, k1, k2, k3, p1, p2, p3])
    clear k3 p1 p2
    go_enter Try.func79, Try.ntmps79
    go_wp2_with (first | (go_at_call 108; refine (controlSpec_any control _ h1).mono ?_; rintro e w' ⟨rfl, hw'⟩; rw [hw', hc]; clear hw' w') | (go_at_call 109; refine (tagSpec_any tag _ h2).mono ?_; rintro e w' ⟨rfl, hw'⟩; rw [hw', ht]; clear hw' w') | (go_at_call 110; refine (textSpec_any _ _ (by first | exact h3 | exact h4)).mono ?_; rintro e w' ⟨rfl, hw'⟩; rw [hw']; clear hw' w'; first | rw [hq] | rw [hp]))
    go_ret
    exact ⟨ret_bool HX.out.symm, HB.out⟩

theorem l3Ok_any (r : Req) (w : World) (h1 : r.control.size ≤ 9223372036854775807) (h2 : r.tag.size ≤ 9223372036854775807) (h3 : r.query.size ≤ 9223372036854775807) (h4 : r.pointer.size ≤ 9223372036854775807) :
    Calls Try.prog 79 #[reqV r] w fun e w' => e = .returned (.bool (okR r)) ∧ Below w.heap.size w w' := by
  obtain ⟨kind, control, tag, query, page, pointer⟩ := r
  cases hb : (controlB control && tagB tag)
  · refine (l3Ok_bad kind page control tag query pointer w h1 h2 hb).mono ?_
    rintro e w' ⟨rfl, h⟩
    refine ⟨ret_bool ?_, h⟩
    unfold okR
    rw [← Bool.and_assoc]
    simp only [hb, Bool.false_and]
  · rw [Bool.and_eq_true] at hb
    exact l3Ok_good kind page control tag query pointer w h1 h2 h3 h4 hb.1 hb.2
end Go.Proofs.Ytjpdgcodjnnljaa.Msg
