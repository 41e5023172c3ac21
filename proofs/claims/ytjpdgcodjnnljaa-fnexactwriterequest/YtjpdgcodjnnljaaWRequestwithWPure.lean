import Derived.Test.YtjpdgcodjnnljaaImplMsgInwithWLetter
import Derived.Test.YtjpdgcodjnnljaaImplLetterXwithImplLetterN
import Derived.Test.YtjpdgcodjnnljaaQrySpecwithQryNum
import Derived.Test.YtjpdgcodjnnljaaMsgEncodewithImplMsgL
namespace Go.Proofs.Ytjpdgcodjnnljaa.Msg
open Go.ChangeShapes Go.WideShapes Go.ChangeAt Go.RowKit
set_option linter.unusedVariables false
set_option linter.unusedSimpArgs false

/-- the letter of a request -/
def letterV (r : Req) : Value :=
  if r.kind = 1 then .iface 153 (.agg #[.string r.control, .string r.tag, .string r.query, .int .i64 r.page])
  else if r.kind = 2 then .iface 155 (.agg #[.string r.control, .string r.tag, .string r.query, .string r.pointer])
  else if r.kind = 3 then .iface 157 (.agg #[.string r.control, .string r.tag])
  else .nilIface
theorem ret_v {a b : Value} (h : a = b) : Ending.returned a = .returned b := by rw [h]

set_option maxHeartbeats 1000000 in
theorem requestOf_any (r : Req) (w : World) : Calls Try.prog 83 #[reqV r] w fun e w' => e = .returned (letterV r) ∧ Below w.heap.size w w' := by
  obtain ⟨kind, control, tag, query, page, pointer⟩ := r
  have hb := (Below.refl w.heap.size w).alloc (Nat.le_refl _) (Obj.cells #[.int .i64 kind, .string control, .string tag, .string query, .int .i64 page, .string pointer] 65)
  have HB := hide hb
  clear hb
  show Calls Try.prog 83 #[.agg #[.int .i64 kind, .string control, .string tag, .string query, .int .i64 page, .string pointer]] w _
  by_cases h1 : kind = 1
  · have HX := hide (show letterV ⟨kind, control, tag, query, page, pointer⟩ = .iface 153 (.agg #[.string control, .string tag, .string query, .int .i64 page]) by unfold letterV; rw [if_pos h1])
    have g1 : (kind == 1) = true := by simp [h1]
    clear h1
    go_enter Try.func83, Try.ntmps83
    go_wp2_with fail
    go_ret
    exact ⟨ret_v HX.out.symm, HB.out⟩
  have g1 : (kind == 1) = false := by simp [h1]
  by_cases h2 : kind = 2
  · have HX := hide (show letterV ⟨kind, control, tag, query, page, pointer⟩ = .iface 155 (.agg #[.string control, .string tag, .string query, .string pointer]) by unfold letterV; rw [if_neg h1, if_pos h2])
    have g2 : (kind == 2) = true := by simp [h2]
    clear h1 h2
    go_enter Try.func83, Try.ntmps83
    go_wp2_with fail
    go_ret
    exact ⟨ret_v HX.out.symm, HB.out⟩
  have g2 : (kind == 2) = false := by simp [h2]
  by_cases h3 : kind = 3
  · have HX := hide (show letterV ⟨kind, control, tag, query, page, pointer⟩ = .iface 157 (.agg #[.string control, .string tag]) by unfold letterV; rw [if_neg h1, if_neg h2, if_pos h3])
    have g3 : (kind == 3) = true := by simp [h3]
    clear h1 h2 h3
    go_enter Try.func83, Try.ntmps83
    go_wp2_with fail
    go_ret
    exact ⟨ret_v HX.out.symm, HB.out⟩
  have g3 : (kind == 3) = false := by simp [h3]
  have HX := hide (show letterV ⟨kind, control, tag, query, page, pointer⟩ = .nilIface by unfold letterV; rw [if_neg h1, if_neg h2, if_neg h3])
  clear h1 h2 h3
  go_enter Try.func83, Try.ntmps83
  go_wp2_with fail
  go_ret
  exact ⟨ret_v HX.out.symm, HB.out⟩

theorem mReqC (a b : Value) (w : World) : (Go.method 337 157 (.agg #[a, b]) "loop.example/s01639/impl.request").run Try.prog w = .ok (210, .agg #[a, b]) w := by kernel_rfl
set_option maxRecDepth 100000 in
set_option maxHeartbeats 4000000 in
theorem writeReqC_no (control tag query pointer : ByteArray) (page : Int) (w : World) (hne : ¬ (query.toList = [] ∧ page = 0 ∧ pointer.toList = [])) :
    Calls Try.prog 38 #[reqV ⟨3, control, tag, query, page, pointer⟩] w (MsgPost w []) := by
  have HR : Hid (∀ W, Calls Try.prog 83 #[.agg #[.int .i64 3, .string control, .string tag, .string query, .int .i64 page, .string pointer]] W fun e w' => e = .returned (.iface 157 (.agg #[.string control, .string tag])) ∧ Below W.heap.size W w') := fun W => requestOf_any ⟨3, control, tag, query, page, pointer⟩ W
  have m1 := mReqC
  show Calls Try.prog 38 #[.agg #[.int .i64 3, .string control, .string tag, .string query, .int .i64 page, .string pointer]] w _
  obtain ⟨x1, hx1⟩ : ∃ x1, w.alloc (Obj.cells #[.int .i64 3, .string control, .string tag, .string query, .int .i64 page, .string pointer] 65) = x1 := ⟨_, rfl⟩
  obtain ⟨w1, hw1⟩ : ∃ w1, x1.alloc (Obj.cells #[.slice none 0 0] 55) = w1 := ⟨_, rfl⟩
  have sx1 : x1.heap.size = w.heap.size + 1 := by rw [← hx1]; simp
  have bx1 : Below w.heap.size w x1 := by rw [← hx1]; exact (Below.refl _ _).alloc (Nat.le_refl _) _
  have bw1 : Below x1.heap.size x1 w1 := by rw [← hw1]; exact (Below.refl _ _).alloc (Nat.le_refl _) _
  have sw1 : w1.heap.size = w.heap.size + 1 + 1 := by rw [← hw1]; simp [sx1]
  have c0 : w1.cell? ⟨w.heap.size, 0, none⟩ = some (.int .i64 3) := (bw1.cell (p := ⟨w.heap.size, 0, none⟩) (by rw [sx1]; simp)).trans (by rw [← hx1]; simp)
  have c1 : w1.cell? ⟨w.heap.size, 1, none⟩ = some (.string control) := (bw1.cell (p := ⟨w.heap.size, 1, none⟩) (by rw [sx1]; simp)).trans (by rw [← hx1]; simp)
  have c2 : w1.cell? ⟨w.heap.size, 2, none⟩ = some (.string tag) := (bw1.cell (p := ⟨w.heap.size, 2, none⟩) (by rw [sx1]; simp)).trans (by rw [← hx1]; simp)
  have c3 : w1.cell? ⟨w.heap.size, 3, none⟩ = some (.string query) := (bw1.cell (p := ⟨w.heap.size, 3, none⟩) (by rw [sx1]; simp)).trans (by rw [← hx1]; simp)
  have c4 : w1.cell? ⟨w.heap.size, 4, none⟩ = some (.int .i64 page) := (bw1.cell (p := ⟨w.heap.size, 4, none⟩) (by rw [sx1]; simp)).trans (by rw [← hx1]; simp)
  have c5 : w1.cell? ⟨w.heap.size, 5, none⟩ = some (.string pointer) := (bw1.cell (p := ⟨w.heap.size, 5, none⟩) (by rw [sx1]; simp)).trans (by rw [← hx1]; simp)
  have cr : w1.cell? ⟨w.heap.size + 1, 0, none⟩ = some (.slice none 0 0) := by rw [← hw1, ← sx1]; simp
  have fr : w1.frozen? ⟨w.heap.size + 1, 0, none⟩ = false := by rw [← hw1, ← sx1]; simp
  have HB1 := hide (bjoin' bw1 bx1)
  have KEEP : Hid (∀ X, Below w1.heap.size w1 X → X.cell? ⟨w.heap.size, 0, none⟩ = some (.int .i64 3) ∧ X.cell? ⟨w.heap.size, 1, none⟩ = some (.string control) ∧ X.cell? ⟨w.heap.size, 2, none⟩ = some (.string tag) ∧ X.cell? ⟨w.heap.size, 3, none⟩ = some (.string query) ∧ X.cell? ⟨w.heap.size, 4, none⟩ = some (.int .i64 page) ∧ X.cell? ⟨w.heap.size, 5, none⟩ = some (.string pointer) ∧ Below w1.heap.size w1 X) := fun X h => ⟨(h.cell (p := ⟨w.heap.size, 0, none⟩) (by rw [sw1]; dsimp only; omega)).trans c0, (h.cell (p := ⟨w.heap.size, 1, none⟩) (by rw [sw1]; dsimp only; omega)).trans c1, (h.cell (p := ⟨w.heap.size, 2, none⟩) (by rw [sw1]; dsimp only; omega)).trans c2, (h.cell (p := ⟨w.heap.size, 3, none⟩) (by rw [sw1]; dsimp only; omega)).trans c3, (h.cell (p := ⟨w.heap.size, 4, none⟩) (by rw [sw1]; dsimp only; omega)).trans c4, (h.cell (p := ⟨w.heap.size, 5, none⟩) (by rw [sw1]; dsimp only; omega)).trans c5, h⟩
  have KRES : Hid (∀ X, Below w1.heap.size w1 X → X.cell? ⟨w.heap.size + 1, 0, none⟩ = some (.slice none 0 0) ∧ X.frozen? ⟨w.heap.size + 1, 0, none⟩ = false ∧ w.heap.size + 1 < X.heap.size) := fun X h =>
    ⟨(h.cell (p := ⟨w.heap.size + 1, 0, none⟩) (by rw [sw1]; dsimp only; omega)).trans cr, (h.frozen (p := ⟨w.heap.size + 1, 0, none⟩) (by rw [sw1]; dsimp only; omega)).trans fr, by have := h.size; omega⟩
  have HW1 : Hid ((w.alloc (Obj.cells #[.int .i64 3, .string control, .string tag, .string query, .int .i64 page, .string pointer] 65)).alloc (Obj.cells #[.slice none 0 0] 55) = w1) := by rw [hx1]; exact hw1
  have HSW := hide sw1
  clear hx1 hw1 sx1 bx1 bw1 sw1 c0 c1 c2 c3 c4 c5 cr fr
  by_cases h_query : query.toList = []
  rotate_left
  · have e_query : (([] : List UInt8) == query.toList) = false := by rw [beq_eq_false_iff_ne]; exact fun h => h_query h.symm
    have e2_query : ¬ ([] : List UInt8) = query.toList := fun h => h_query h.symm
    have e3_query : (query.toList == []) = false := by rw [beq_eq_false_iff_ne]; exact h_query
    clear hne h_query
    go_enter Try.func38, Try.ntmps38
    go_wp2_with fail
    rw [HW1.out]
    refine (HR.out _).mono ?_
    rintro e w2 ⟨rfl, hb2⟩
    have hd : Below w1.heap.size w1 w2.drew := hb2.drew
    go_wp2_with fail
    go_region_held3 (fun X => X.cell? ⟨w.heap.size, 0, none⟩ = some (.int .i64 3) ∧ X.cell? ⟨w.heap.size, 1, none⟩ = some (.string control) ∧ X.cell? ⟨w.heap.size, 2, none⟩ = some (.string tag) ∧ X.cell? ⟨w.heap.size, 3, none⟩ = some (.string query) ∧ X.cell? ⟨w.heap.size, 4, none⟩ = some (.int .i64 page) ∧ X.cell? ⟨w.heap.size, 5, none⟩ = some (.string pointer) ∧ Below w1.heap.size w1 X)
      (first | with_reducible exact KEEP.out _ hd | with_reducible exact KEEP.out _ hb3)
      (first | (go_at_call 210; refine (cancelRequest_any control tag _).mono ?_; rintro e w3 ⟨rfl, hb3'⟩; dsimp only [reqV]; have hb3 := bjoin hb3' hd))
    obtain ⟨r0, rf, rl⟩ := KRES.out _ hb3
    have HBF : Hid (∀ x, Below w.heap.size w (w3.setCell ⟨w.heap.size + 1, 0, none⟩ x)) := fun x => (bjoin hb3 HB1.out).setCell (p := ⟨w.heap.size + 1, 0, none⟩) (Nat.le_succ _) x
    go_wp2_with fail
    exact bodyPost_ret (v := .agg #[.slice none 0 0]) (by simp [results, Try.results38, go_sem, r0, rl]) rfl (msgPost_nil _ _ _ _ (HBF.out _))
  by_cases h_page : page = 0
  rotate_left
  · have e_query : (([] : List UInt8) == query.toList) = true := by rw [h_query]; rfl
    have e3_query : (query.toList == []) = true := by rw [h_query]; rfl
    have e_page : ((0 : Int) == page) = false := by rw [beq_eq_false_iff_ne]; exact fun h => h_page h.symm
    have e2_page : ¬ (0 : Int) = page := fun h => h_page h.symm
    have e3_page : (page == 0) = false := by rw [beq_eq_false_iff_ne]; exact h_page
    clear hne h_query h_page
    go_enter Try.func38, Try.ntmps38
    go_wp2_with fail
    rw [HW1.out]
    refine (HR.out _).mono ?_
    rintro e w2 ⟨rfl, hb2⟩
    have hd : Below w1.heap.size w1 w2.drew := hb2.drew
    go_wp2_with fail
    go_region_held3 (fun X => X.cell? ⟨w.heap.size, 0, none⟩ = some (.int .i64 3) ∧ X.cell? ⟨w.heap.size, 1, none⟩ = some (.string control) ∧ X.cell? ⟨w.heap.size, 2, none⟩ = some (.string tag) ∧ X.cell? ⟨w.heap.size, 3, none⟩ = some (.string query) ∧ X.cell? ⟨w.heap.size, 4, none⟩ = some (.int .i64 page) ∧ X.cell? ⟨w.heap.size, 5, none⟩ = some (.string pointer) ∧ Below w1.heap.size w1 X)
      (first | with_reducible exact KEEP.out _ hd | with_reducible exact KEEP.out _ hb3)
      (first | (go_at_call 210; refine (cancelRequest_any control tag _).mono ?_; rintro e w3 ⟨rfl, hb3'⟩; dsimp only [reqV]; have hb3 := bjoin hb3' hd))
    obtain ⟨r0, rf, rl⟩ := KRES.out _ hb3
    have HBF : Hid (∀ x, Below w.heap.size w (w3.setCell ⟨w.heap.size + 1, 0, none⟩ x)) := fun x => (bjoin hb3 HB1.out).setCell (p := ⟨w.heap.size + 1, 0, none⟩) (Nat.le_succ _) x
    go_wp2_with fail
    exact bodyPost_ret (v := .agg #[.slice none 0 0]) (by simp [results, Try.results38, go_sem, r0, rl]) rfl (msgPost_nil _ _ _ _ (HBF.out _))
  have h_pointer : ¬ pointer.toList = [] := fun h => hne ⟨h_query, h_page, h⟩
  have e_query : (([] : List UInt8) == query.toList) = true := by rw [h_query]; rfl
  have e3_query : (query.toList == []) = true := by rw [h_query]; rfl
  have e_page : ((0 : Int) == page) = true := by rw [h_page]; rfl
  have e3_page : (page == 0) = true := by rw [h_page]; rfl
  have e_pointer : (([] : List UInt8) == pointer.toList) = false := by rw [beq_eq_false_iff_ne]; exact fun h => h_pointer h.symm
  have e2_pointer : ¬ ([] : List UInt8) = pointer.toList := fun h => h_pointer h.symm
  have e3_pointer : (pointer.toList == []) = false := by rw [beq_eq_false_iff_ne]; exact h_pointer
  clear hne h_query h_page h_pointer
  go_enter Try.func38, Try.ntmps38
  go_wp2_with fail
  rw [HW1.out]
  refine (HR.out _).mono ?_
  rintro e w2 ⟨rfl, hb2⟩
  have hd : Below w1.heap.size w1 w2.drew := hb2.drew
  go_wp2_with fail
  go_region_held3 (fun X => X.cell? ⟨w.heap.size, 0, none⟩ = some (.int .i64 3) ∧ X.cell? ⟨w.heap.size, 1, none⟩ = some (.string control) ∧ X.cell? ⟨w.heap.size, 2, none⟩ = some (.string tag) ∧ X.cell? ⟨w.heap.size, 3, none⟩ = some (.string query) ∧ X.cell? ⟨w.heap.size, 4, none⟩ = some (.int .i64 page) ∧ X.cell? ⟨w.heap.size, 5, none⟩ = some (.string pointer) ∧ Below w1.heap.size w1 X)
    (first | with_reducible exact KEEP.out _ hd | with_reducible exact KEEP.out _ hb3)
    (first | (go_at_call 210; refine (cancelRequest_any control tag _).mono ?_; rintro e w3 ⟨rfl, hb3'⟩; dsimp only [reqV]; have hb3 := bjoin hb3' hd))
  obtain ⟨r0, rf, rl⟩ := KRES.out _ hb3
  have HBF : Hid (∀ x, Below w.heap.size w (w3.setCell ⟨w.heap.size + 1, 0, none⟩ x)) := fun x => (bjoin hb3 HB1.out).setCell (p := ⟨w.heap.size + 1, 0, none⟩) (Nat.le_succ _) x
  go_wp2_with fail
  exact bodyPost_ret (v := .agg #[.slice none 0 0]) (by simp [results, Try.results38, go_sem, r0, rl]) rfl (msgPost_nil _ _ _ _ (HBF.out _))
set_option maxRecDepth 100000 in
set_option maxHeartbeats 4000000 in
theorem writeReqC_yes (control tag query pointer : ByteArray) (page : Int) (xs : List Seg) (w : World) (h_query : query.toList = []) (h_page : page = 0) (h_pointer : pointer.toList = []) (HWL : Hid (∀ W, Calls Try.prog 84 #[.iface 157 (.agg #[.string control, .string tag])] W (MsgPost W xs))) :
    Calls Try.prog 38 #[reqV ⟨3, control, tag, query, page, pointer⟩] w (MsgPost w xs) := by
  have HR : Hid (∀ W, Calls Try.prog 83 #[.agg #[.int .i64 3, .string control, .string tag, .string query, .int .i64 page, .string pointer]] W fun e w' => e = .returned (.iface 157 (.agg #[.string control, .string tag])) ∧ Below W.heap.size W w') := fun W => requestOf_any ⟨3, control, tag, query, page, pointer⟩ W
  have m1 := mReqC
  show Calls Try.prog 38 #[.agg #[.int .i64 3, .string control, .string tag, .string query, .int .i64 page, .string pointer]] w _
  obtain ⟨x1, hx1⟩ : ∃ x1, w.alloc (Obj.cells #[.int .i64 3, .string control, .string tag, .string query, .int .i64 page, .string pointer] 65) = x1 := ⟨_, rfl⟩
  obtain ⟨w1, hw1⟩ : ∃ w1, x1.alloc (Obj.cells #[.slice none 0 0] 55) = w1 := ⟨_, rfl⟩
  have sx1 : x1.heap.size = w.heap.size + 1 := by rw [← hx1]; simp
  have bx1 : Below w.heap.size w x1 := by rw [← hx1]; exact (Below.refl _ _).alloc (Nat.le_refl _) _
  have bw1 : Below x1.heap.size x1 w1 := by rw [← hw1]; exact (Below.refl _ _).alloc (Nat.le_refl _) _
  have sw1 : w1.heap.size = w.heap.size + 1 + 1 := by rw [← hw1]; simp [sx1]
  have c0 : w1.cell? ⟨w.heap.size, 0, none⟩ = some (.int .i64 3) := (bw1.cell (p := ⟨w.heap.size, 0, none⟩) (by rw [sx1]; simp)).trans (by rw [← hx1]; simp)
  have c1 : w1.cell? ⟨w.heap.size, 1, none⟩ = some (.string control) := (bw1.cell (p := ⟨w.heap.size, 1, none⟩) (by rw [sx1]; simp)).trans (by rw [← hx1]; simp)
  have c2 : w1.cell? ⟨w.heap.size, 2, none⟩ = some (.string tag) := (bw1.cell (p := ⟨w.heap.size, 2, none⟩) (by rw [sx1]; simp)).trans (by rw [← hx1]; simp)
  have c3 : w1.cell? ⟨w.heap.size, 3, none⟩ = some (.string query) := (bw1.cell (p := ⟨w.heap.size, 3, none⟩) (by rw [sx1]; simp)).trans (by rw [← hx1]; simp)
  have c4 : w1.cell? ⟨w.heap.size, 4, none⟩ = some (.int .i64 page) := (bw1.cell (p := ⟨w.heap.size, 4, none⟩) (by rw [sx1]; simp)).trans (by rw [← hx1]; simp)
  have c5 : w1.cell? ⟨w.heap.size, 5, none⟩ = some (.string pointer) := (bw1.cell (p := ⟨w.heap.size, 5, none⟩) (by rw [sx1]; simp)).trans (by rw [← hx1]; simp)
  have cr : w1.cell? ⟨w.heap.size + 1, 0, none⟩ = some (.slice none 0 0) := by rw [← hw1, ← sx1]; simp
  have fr : w1.frozen? ⟨w.heap.size + 1, 0, none⟩ = false := by rw [← hw1, ← sx1]; simp
  have HB1 := hide (bjoin' bw1 bx1)
  have KEEP : Hid (∀ X, Below w1.heap.size w1 X → X.cell? ⟨w.heap.size, 0, none⟩ = some (.int .i64 3) ∧ X.cell? ⟨w.heap.size, 1, none⟩ = some (.string control) ∧ X.cell? ⟨w.heap.size, 2, none⟩ = some (.string tag) ∧ X.cell? ⟨w.heap.size, 3, none⟩ = some (.string query) ∧ X.cell? ⟨w.heap.size, 4, none⟩ = some (.int .i64 page) ∧ X.cell? ⟨w.heap.size, 5, none⟩ = some (.string pointer) ∧ Below w1.heap.size w1 X) := fun X h => ⟨(h.cell (p := ⟨w.heap.size, 0, none⟩) (by rw [sw1]; dsimp only; omega)).trans c0, (h.cell (p := ⟨w.heap.size, 1, none⟩) (by rw [sw1]; dsimp only; omega)).trans c1, (h.cell (p := ⟨w.heap.size, 2, none⟩) (by rw [sw1]; dsimp only; omega)).trans c2, (h.cell (p := ⟨w.heap.size, 3, none⟩) (by rw [sw1]; dsimp only; omega)).trans c3, (h.cell (p := ⟨w.heap.size, 4, none⟩) (by rw [sw1]; dsimp only; omega)).trans c4, (h.cell (p := ⟨w.heap.size, 5, none⟩) (by rw [sw1]; dsimp only; omega)).trans c5, h⟩
  have KRES : Hid (∀ X, Below w1.heap.size w1 X → X.cell? ⟨w.heap.size + 1, 0, none⟩ = some (.slice none 0 0) ∧ X.frozen? ⟨w.heap.size + 1, 0, none⟩ = false ∧ w.heap.size + 1 < X.heap.size) := fun X h =>
    ⟨(h.cell (p := ⟨w.heap.size + 1, 0, none⟩) (by rw [sw1]; dsimp only; omega)).trans cr, (h.frozen (p := ⟨w.heap.size + 1, 0, none⟩) (by rw [sw1]; dsimp only; omega)).trans fr, by have := h.size; omega⟩
  have HW1 : Hid ((w.alloc (Obj.cells #[.int .i64 3, .string control, .string tag, .string query, .int .i64 page, .string pointer] 65)).alloc (Obj.cells #[.slice none 0 0] 55) = w1) := by rw [hx1]; exact hw1
  have HSW := hide sw1
  clear hx1 hw1 sx1 bx1 bw1 sw1 c0 c1 c2 c3 c4 c5 cr fr
  have e_query : (([] : List UInt8) == query.toList) = true := by rw [h_query]; rfl
  have e3_query : (query.toList == []) = true := by rw [h_query]; rfl
  have e_page : ((0 : Int) == page) = true := by rw [h_page]; rfl
  have e3_page : (page == 0) = true := by rw [h_page]; rfl
  have e_pointer : (([] : List UInt8) == pointer.toList) = true := by rw [h_pointer]; rfl
  have e3_pointer : (pointer.toList == []) = true := by rw [h_pointer]; rfl
  clear h_query h_page h_pointer
  go_enter Try.func38, Try.ntmps38
  go_wp2_with fail
  rw [HW1.out]
  refine (HR.out _).mono ?_
  rintro e w2 ⟨rfl, hb2⟩
  have hd : Below w1.heap.size w1 w2.drew := hb2.drew
  go_wp2_with fail
  go_region_held3 (fun X => X.cell? ⟨w.heap.size, 0, none⟩ = some (.int .i64 3) ∧ X.cell? ⟨w.heap.size, 1, none⟩ = some (.string control) ∧ X.cell? ⟨w.heap.size, 2, none⟩ = some (.string tag) ∧ X.cell? ⟨w.heap.size, 3, none⟩ = some (.string query) ∧ X.cell? ⟨w.heap.size, 4, none⟩ = some (.int .i64 page) ∧ X.cell? ⟨w.heap.size, 5, none⟩ = some (.string pointer) ∧ Below w1.heap.size w1 X)
    (first | with_reducible exact KEEP.out _ hd | with_reducible exact KEEP.out _ hb3)
    (first | (go_at_call 210; refine (cancelRequest_any control tag _).mono ?_; rintro e w3 ⟨rfl, hb3'⟩; dsimp only [reqV]; have hb3 := bjoin hb3' hd))
  obtain ⟨r0, rf, rl⟩ := KRES.out _ hb3
  have hl3 := hb3.size
  have HB3 := hide hb3
  have HSL := hide (show w.heap.size + 1 < w3.heap.size from rl)
  go_wp2_with fail
  refine (HWL.out _).mono ?_
  rintro e w4 ⟨u, rfl, bs, hO, hN, hF, hb4⟩
  obtain ⟨a, c, rfl⟩ := form_segs3 hO
  have hB4 := bjoin hb4 hb3
  obtain ⟨s0, sf, sl⟩ := KRES.out _ hB4
  have HOF : Hid (∀ x, OSegs (w4.setCell ⟨w.heap.size + 1, 0, none⟩ x) (.slice a xs.length c) xs bs) := fun x => OAt.kept keptO_seg hO (by rw [Deep.nblk_setCell]; exact Nat.le_refl _) fun d hd => Deep.blk_setCell_other _ ⟨w.heap.size + 1, 0, none⟩ _ d (by have := hF d hd; have := HSL.out; dsimp only; omega)
  have HFR : Hid (∀ b ∈ bs, w.heap.size ≤ b) := fun b hb => by have := hF b hb; have := HSL.out; omega
  have HBF : Hid (∀ x, Below w.heap.size w (w4.setCell ⟨w.heap.size + 1, 0, none⟩ x)) := fun x => (bjoin hB4 HB1.out).setCell (p := ⟨w.heap.size + 1, 0, none⟩) (Nat.le_succ _) x
  have HN := hide hN
  go_wp2_with fail
  exact bodyPost_ret (v := .agg #[.slice a xs.length c]) (by simp [results, Try.results38, go_sem, s0, sl]) rfl ⟨_, rfl, bs, HOF.out _, HN.out, HFR.out, HBF.out _⟩
theorem mReqX (a b c d : Value) (w : World) : (Go.method 337 155 (.agg #[a, b, c, d]) "loop.example/s01639/impl.request").run Try.prog w = .ok (207, .agg #[a, b, c, d]) w := by kernel_rfl
set_option maxRecDepth 100000 in
set_option maxHeartbeats 4000000 in
theorem writeReqX_no (control tag query pointer : ByteArray) (page : Int) (w : World) (hne : ¬ (page = 0)) :
    Calls Try.prog 38 #[reqV ⟨2, control, tag, query, page, pointer⟩] w (MsgPost w []) := by
  have HR : Hid (∀ W, Calls Try.prog 83 #[.agg #[.int .i64 2, .string control, .string tag, .string query, .int .i64 page, .string pointer]] W fun e w' => e = .returned (.iface 155 (.agg #[.string control, .string tag, .string query, .string pointer])) ∧ Below W.heap.size W w') := fun W => requestOf_any ⟨2, control, tag, query, page, pointer⟩ W
  have m1 := mReqX
  show Calls Try.prog 38 #[.agg #[.int .i64 2, .string control, .string tag, .string query, .int .i64 page, .string pointer]] w _
  obtain ⟨x1, hx1⟩ : ∃ x1, w.alloc (Obj.cells #[.int .i64 2, .string control, .string tag, .string query, .int .i64 page, .string pointer] 65) = x1 := ⟨_, rfl⟩
  obtain ⟨w1, hw1⟩ : ∃ w1, x1.alloc (Obj.cells #[.slice none 0 0] 55) = w1 := ⟨_, rfl⟩
  have sx1 : x1.heap.size = w.heap.size + 1 := by rw [← hx1]; simp
  have bx1 : Below w.heap.size w x1 := by rw [← hx1]; exact (Below.refl _ _).alloc (Nat.le_refl _) _
  have bw1 : Below x1.heap.size x1 w1 := by rw [← hw1]; exact (Below.refl _ _).alloc (Nat.le_refl _) _
  have sw1 : w1.heap.size = w.heap.size + 1 + 1 := by rw [← hw1]; simp [sx1]
  have c0 : w1.cell? ⟨w.heap.size, 0, none⟩ = some (.int .i64 2) := (bw1.cell (p := ⟨w.heap.size, 0, none⟩) (by rw [sx1]; simp)).trans (by rw [← hx1]; simp)
  have c1 : w1.cell? ⟨w.heap.size, 1, none⟩ = some (.string control) := (bw1.cell (p := ⟨w.heap.size, 1, none⟩) (by rw [sx1]; simp)).trans (by rw [← hx1]; simp)
  have c2 : w1.cell? ⟨w.heap.size, 2, none⟩ = some (.string tag) := (bw1.cell (p := ⟨w.heap.size, 2, none⟩) (by rw [sx1]; simp)).trans (by rw [← hx1]; simp)
  have c3 : w1.cell? ⟨w.heap.size, 3, none⟩ = some (.string query) := (bw1.cell (p := ⟨w.heap.size, 3, none⟩) (by rw [sx1]; simp)).trans (by rw [← hx1]; simp)
  have c4 : w1.cell? ⟨w.heap.size, 4, none⟩ = some (.int .i64 page) := (bw1.cell (p := ⟨w.heap.size, 4, none⟩) (by rw [sx1]; simp)).trans (by rw [← hx1]; simp)
  have c5 : w1.cell? ⟨w.heap.size, 5, none⟩ = some (.string pointer) := (bw1.cell (p := ⟨w.heap.size, 5, none⟩) (by rw [sx1]; simp)).trans (by rw [← hx1]; simp)
  have cr : w1.cell? ⟨w.heap.size + 1, 0, none⟩ = some (.slice none 0 0) := by rw [← hw1, ← sx1]; simp
  have fr : w1.frozen? ⟨w.heap.size + 1, 0, none⟩ = false := by rw [← hw1, ← sx1]; simp
  have HB1 := hide (bjoin' bw1 bx1)
  have KEEP : Hid (∀ X, Below w1.heap.size w1 X → X.cell? ⟨w.heap.size, 0, none⟩ = some (.int .i64 2) ∧ X.cell? ⟨w.heap.size, 1, none⟩ = some (.string control) ∧ X.cell? ⟨w.heap.size, 2, none⟩ = some (.string tag) ∧ X.cell? ⟨w.heap.size, 3, none⟩ = some (.string query) ∧ X.cell? ⟨w.heap.size, 4, none⟩ = some (.int .i64 page) ∧ X.cell? ⟨w.heap.size, 5, none⟩ = some (.string pointer) ∧ Below w1.heap.size w1 X) := fun X h => ⟨(h.cell (p := ⟨w.heap.size, 0, none⟩) (by rw [sw1]; dsimp only; omega)).trans c0, (h.cell (p := ⟨w.heap.size, 1, none⟩) (by rw [sw1]; dsimp only; omega)).trans c1, (h.cell (p := ⟨w.heap.size, 2, none⟩) (by rw [sw1]; dsimp only; omega)).trans c2, (h.cell (p := ⟨w.heap.size, 3, none⟩) (by rw [sw1]; dsimp only; omega)).trans c3, (h.cell (p := ⟨w.heap.size, 4, none⟩) (by rw [sw1]; dsimp only; omega)).trans c4, (h.cell (p := ⟨w.heap.size, 5, none⟩) (by rw [sw1]; dsimp only; omega)).trans c5, h⟩
  have KRES : Hid (∀ X, Below w1.heap.size w1 X → X.cell? ⟨w.heap.size + 1, 0, none⟩ = some (.slice none 0 0) ∧ X.frozen? ⟨w.heap.size + 1, 0, none⟩ = false ∧ w.heap.size + 1 < X.heap.size) := fun X h =>
    ⟨(h.cell (p := ⟨w.heap.size + 1, 0, none⟩) (by rw [sw1]; dsimp only; omega)).trans cr, (h.frozen (p := ⟨w.heap.size + 1, 0, none⟩) (by rw [sw1]; dsimp only; omega)).trans fr, by have := h.size; omega⟩
  have HW1 : Hid ((w.alloc (Obj.cells #[.int .i64 2, .string control, .string tag, .string query, .int .i64 page, .string pointer] 65)).alloc (Obj.cells #[.slice none 0 0] 55) = w1) := by rw [hx1]; exact hw1
  have HSW := hide sw1
  clear hx1 hw1 sx1 bx1 bw1 sw1 c0 c1 c2 c3 c4 c5 cr fr
  have h_page : ¬ page = 0 := fun h => hne h
  have e_page : ((0 : Int) == page) = false := by rw [beq_eq_false_iff_ne]; exact fun h => h_page h.symm
  have e2_page : ¬ (0 : Int) = page := fun h => h_page h.symm
  have e3_page : (page == 0) = false := by rw [beq_eq_false_iff_ne]; exact h_page
  clear hne h_page
  go_enter Try.func38, Try.ntmps38
  go_wp2_with fail
  rw [HW1.out]
  refine (HR.out _).mono ?_
  rintro e w2 ⟨rfl, hb2⟩
  have hd : Below w1.heap.size w1 w2.drew := hb2.drew
  go_wp2_with fail
  go_region_held3 (fun X => X.cell? ⟨w.heap.size, 0, none⟩ = some (.int .i64 2) ∧ X.cell? ⟨w.heap.size, 1, none⟩ = some (.string control) ∧ X.cell? ⟨w.heap.size, 2, none⟩ = some (.string tag) ∧ X.cell? ⟨w.heap.size, 3, none⟩ = some (.string query) ∧ X.cell? ⟨w.heap.size, 4, none⟩ = some (.int .i64 page) ∧ X.cell? ⟨w.heap.size, 5, none⟩ = some (.string pointer) ∧ Below w1.heap.size w1 X)
    (first | with_reducible exact KEEP.out _ hd | with_reducible exact KEEP.out _ hb3)
    (first | (go_at_call 207; refine (nextRequest_any control tag query pointer _).mono ?_; rintro e w3 ⟨rfl, hb3'⟩; dsimp only [reqV]; have hb3 := bjoin hb3' hd))
  obtain ⟨r0, rf, rl⟩ := KRES.out _ hb3
  have HBF : Hid (∀ x, Below w.heap.size w (w3.setCell ⟨w.heap.size + 1, 0, none⟩ x)) := fun x => (bjoin hb3 HB1.out).setCell (p := ⟨w.heap.size + 1, 0, none⟩) (Nat.le_succ _) x
  go_wp2_with fail
  exact bodyPost_ret (v := .agg #[.slice none 0 0]) (by simp [results, Try.results38, go_sem, r0, rl]) rfl (msgPost_nil _ _ _ _ (HBF.out _))
set_option maxRecDepth 100000 in
set_option maxHeartbeats 4000000 in
theorem writeReqX_yes (control tag query pointer : ByteArray) (page : Int) (xs : List Seg) (w : World) (h_page : page = 0) (HWL : Hid (∀ W, Calls Try.prog 84 #[.iface 155 (.agg #[.string control, .string tag, .string query, .string pointer])] W (MsgPost W xs))) :
    Calls Try.prog 38 #[reqV ⟨2, control, tag, query, page, pointer⟩] w (MsgPost w xs) := by
  have HR : Hid (∀ W, Calls Try.prog 83 #[.agg #[.int .i64 2, .string control, .string tag, .string query, .int .i64 page, .string pointer]] W fun e w' => e = .returned (.iface 155 (.agg #[.string control, .string tag, .string query, .string pointer])) ∧ Below W.heap.size W w') := fun W => requestOf_any ⟨2, control, tag, query, page, pointer⟩ W
  have m1 := mReqX
  show Calls Try.prog 38 #[.agg #[.int .i64 2, .string control, .string tag, .string query, .int .i64 page, .string pointer]] w _
  obtain ⟨x1, hx1⟩ : ∃ x1, w.alloc (Obj.cells #[.int .i64 2, .string control, .string tag, .string query, .int .i64 page, .string pointer] 65) = x1 := ⟨_, rfl⟩
  obtain ⟨w1, hw1⟩ : ∃ w1, x1.alloc (Obj.cells #[.slice none 0 0] 55) = w1 := ⟨_, rfl⟩
  have sx1 : x1.heap.size = w.heap.size + 1 := by rw [← hx1]; simp
  have bx1 : Below w.heap.size w x1 := by rw [← hx1]; exact (Below.refl _ _).alloc (Nat.le_refl _) _
  have bw1 : Below x1.heap.size x1 w1 := by rw [← hw1]; exact (Below.refl _ _).alloc (Nat.le_refl _) _
  have sw1 : w1.heap.size = w.heap.size + 1 + 1 := by rw [← hw1]; simp [sx1]
  have c0 : w1.cell? ⟨w.heap.size, 0, none⟩ = some (.int .i64 2) := (bw1.cell (p := ⟨w.heap.size, 0, none⟩) (by rw [sx1]; simp)).trans (by rw [← hx1]; simp)
  have c1 : w1.cell? ⟨w.heap.size, 1, none⟩ = some (.string control) := (bw1.cell (p := ⟨w.heap.size, 1, none⟩) (by rw [sx1]; simp)).trans (by rw [← hx1]; simp)
  have c2 : w1.cell? ⟨w.heap.size, 2, none⟩ = some (.string tag) := (bw1.cell (p := ⟨w.heap.size, 2, none⟩) (by rw [sx1]; simp)).trans (by rw [← hx1]; simp)
  have c3 : w1.cell? ⟨w.heap.size, 3, none⟩ = some (.string query) := (bw1.cell (p := ⟨w.heap.size, 3, none⟩) (by rw [sx1]; simp)).trans (by rw [← hx1]; simp)
  have c4 : w1.cell? ⟨w.heap.size, 4, none⟩ = some (.int .i64 page) := (bw1.cell (p := ⟨w.heap.size, 4, none⟩) (by rw [sx1]; simp)).trans (by rw [← hx1]; simp)
  have c5 : w1.cell? ⟨w.heap.size, 5, none⟩ = some (.string pointer) := (bw1.cell (p := ⟨w.heap.size, 5, none⟩) (by rw [sx1]; simp)).trans (by rw [← hx1]; simp)
  have cr : w1.cell? ⟨w.heap.size + 1, 0, none⟩ = some (.slice none 0 0) := by rw [← hw1, ← sx1]; simp
  have fr : w1.frozen? ⟨w.heap.size + 1, 0, none⟩ = false := by rw [← hw1, ← sx1]; simp
  have HB1 := hide (bjoin' bw1 bx1)
  have KEEP : Hid (∀ X, Below w1.heap.size w1 X → X.cell? ⟨w.heap.size, 0, none⟩ = some (.int .i64 2) ∧ X.cell? ⟨w.heap.size, 1, none⟩ = some (.string control) ∧ X.cell? ⟨w.heap.size, 2, none⟩ = some (.string tag) ∧ X.cell? ⟨w.heap.size, 3, none⟩ = some (.string query) ∧ X.cell? ⟨w.heap.size, 4, none⟩ = some (.int .i64 page) ∧ X.cell? ⟨w.heap.size, 5, none⟩ = some (.string pointer) ∧ Below w1.heap.size w1 X) := fun X h => ⟨(h.cell (p := ⟨w.heap.size, 0, none⟩) (by rw [sw1]; dsimp only; omega)).trans c0, (h.cell (p := ⟨w.heap.size, 1, none⟩) (by rw [sw1]; dsimp only; omega)).trans c1, (h.cell (p := ⟨w.heap.size, 2, none⟩) (by rw [sw1]; dsimp only; omega)).trans c2, (h.cell (p := ⟨w.heap.size, 3, none⟩) (by rw [sw1]; dsimp only; omega)).trans c3, (h.cell (p := ⟨w.heap.size, 4, none⟩) (by rw [sw1]; dsimp only; omega)).trans c4, (h.cell (p := ⟨w.heap.size, 5, none⟩) (by rw [sw1]; dsimp only; omega)).trans c5, h⟩
  have KRES : Hid (∀ X, Below w1.heap.size w1 X → X.cell? ⟨w.heap.size + 1, 0, none⟩ = some (.slice none 0 0) ∧ X.frozen? ⟨w.heap.size + 1, 0, none⟩ = false ∧ w.heap.size + 1 < X.heap.size) := fun X h =>
    ⟨(h.cell (p := ⟨w.heap.size + 1, 0, none⟩) (by rw [sw1]; dsimp only; omega)).trans cr, (h.frozen (p := ⟨w.heap.size + 1, 0, none⟩) (by rw [sw1]; dsimp only; omega)).trans fr, by have := h.size; omega⟩
  have HW1 : Hid ((w.alloc (Obj.cells #[.int .i64 2, .string control, .string tag, .string query, .int .i64 page, .string pointer] 65)).alloc (Obj.cells #[.slice none 0 0] 55) = w1) := by rw [hx1]; exact hw1
  have HSW := hide sw1
  clear hx1 hw1 sx1 bx1 bw1 sw1 c0 c1 c2 c3 c4 c5 cr fr
  have e_page : ((0 : Int) == page) = true := by rw [h_page]; rfl
  have e3_page : (page == 0) = true := by rw [h_page]; rfl
  clear h_page
  go_enter Try.func38, Try.ntmps38
  go_wp2_with fail
  rw [HW1.out]
  refine (HR.out _).mono ?_
  rintro e w2 ⟨rfl, hb2⟩
  have hd : Below w1.heap.size w1 w2.drew := hb2.drew
  go_wp2_with fail
  go_region_held3 (fun X => X.cell? ⟨w.heap.size, 0, none⟩ = some (.int .i64 2) ∧ X.cell? ⟨w.heap.size, 1, none⟩ = some (.string control) ∧ X.cell? ⟨w.heap.size, 2, none⟩ = some (.string tag) ∧ X.cell? ⟨w.heap.size, 3, none⟩ = some (.string query) ∧ X.cell? ⟨w.heap.size, 4, none⟩ = some (.int .i64 page) ∧ X.cell? ⟨w.heap.size, 5, none⟩ = some (.string pointer) ∧ Below w1.heap.size w1 X)
    (first | with_reducible exact KEEP.out _ hd | with_reducible exact KEEP.out _ hb3)
    (first | (go_at_call 207; refine (nextRequest_any control tag query pointer _).mono ?_; rintro e w3 ⟨rfl, hb3'⟩; dsimp only [reqV]; have hb3 := bjoin hb3' hd))
  obtain ⟨r0, rf, rl⟩ := KRES.out _ hb3
  have hl3 := hb3.size
  have HB3 := hide hb3
  have HSL := hide (show w.heap.size + 1 < w3.heap.size from rl)
  go_wp2_with fail
  refine (HWL.out _).mono ?_
  rintro e w4 ⟨u, rfl, bs, hO, hN, hF, hb4⟩
  obtain ⟨a, c, rfl⟩ := form_segs3 hO
  have hB4 := bjoin hb4 hb3
  obtain ⟨s0, sf, sl⟩ := KRES.out _ hB4
  have HOF : Hid (∀ x, OSegs (w4.setCell ⟨w.heap.size + 1, 0, none⟩ x) (.slice a xs.length c) xs bs) := fun x => OAt.kept keptO_seg hO (by rw [Deep.nblk_setCell]; exact Nat.le_refl _) fun d hd => Deep.blk_setCell_other _ ⟨w.heap.size + 1, 0, none⟩ _ d (by have := hF d hd; have := HSL.out; dsimp only; omega)
  have HFR : Hid (∀ b ∈ bs, w.heap.size ≤ b) := fun b hb => by have := hF b hb; have := HSL.out; omega
  have HBF : Hid (∀ x, Below w.heap.size w (w4.setCell ⟨w.heap.size + 1, 0, none⟩ x)) := fun x => (bjoin hB4 HB1.out).setCell (p := ⟨w.heap.size + 1, 0, none⟩) (Nat.le_succ _) x
  have HN := hide hN
  go_wp2_with fail
  exact bodyPost_ret (v := .agg #[.slice a xs.length c]) (by simp [results, Try.results38, go_sem, s0, sl]) rfl ⟨_, rfl, bs, HOF.out _, HN.out, HFR.out, HBF.out _⟩
theorem mReqN (a b c d : Value) (w : World) : (Go.method 337 153 (.agg #[a, b, c, d]) "loop.example/s01639/impl.request").run Try.prog w = .ok (178, .agg #[a, b, c, d]) w := by kernel_rfl
set_option maxRecDepth 100000 in
set_option maxHeartbeats 4000000 in
theorem writeReqN_no (control tag query pointer : ByteArray) (page : Int) (w : World) (hne : ¬ (pointer.toList = [])) :
    Calls Try.prog 38 #[reqV ⟨1, control, tag, query, page, pointer⟩] w (MsgPost w []) := by
  have HR : Hid (∀ W, Calls Try.prog 83 #[.agg #[.int .i64 1, .string control, .string tag, .string query, .int .i64 page, .string pointer]] W fun e w' => e = .returned (.iface 153 (.agg #[.string control, .string tag, .string query, .int .i64 page])) ∧ Below W.heap.size W w') := fun W => requestOf_any ⟨1, control, tag, query, page, pointer⟩ W
  have m1 := mReqN
  show Calls Try.prog 38 #[.agg #[.int .i64 1, .string control, .string tag, .string query, .int .i64 page, .string pointer]] w _
  obtain ⟨x1, hx1⟩ : ∃ x1, w.alloc (Obj.cells #[.int .i64 1, .string control, .string tag, .string query, .int .i64 page, .string pointer] 65) = x1 := ⟨_, rfl⟩
  obtain ⟨w1, hw1⟩ : ∃ w1, x1.alloc (Obj.cells #[.slice none 0 0] 55) = w1 := ⟨_, rfl⟩
  have sx1 : x1.heap.size = w.heap.size + 1 := by rw [← hx1]; simp
  have bx1 : Below w.heap.size w x1 := by rw [← hx1]; exact (Below.refl _ _).alloc (Nat.le_refl _) _
  have bw1 : Below x1.heap.size x1 w1 := by rw [← hw1]; exact (Below.refl _ _).alloc (Nat.le_refl _) _
  have sw1 : w1.heap.size = w.heap.size + 1 + 1 := by rw [← hw1]; simp [sx1]
  have c0 : w1.cell? ⟨w.heap.size, 0, none⟩ = some (.int .i64 1) := (bw1.cell (p := ⟨w.heap.size, 0, none⟩) (by rw [sx1]; simp)).trans (by rw [← hx1]; simp)
  have c1 : w1.cell? ⟨w.heap.size, 1, none⟩ = some (.string control) := (bw1.cell (p := ⟨w.heap.size, 1, none⟩) (by rw [sx1]; simp)).trans (by rw [← hx1]; simp)
  have c2 : w1.cell? ⟨w.heap.size, 2, none⟩ = some (.string tag) := (bw1.cell (p := ⟨w.heap.size, 2, none⟩) (by rw [sx1]; simp)).trans (by rw [← hx1]; simp)
  have c3 : w1.cell? ⟨w.heap.size, 3, none⟩ = some (.string query) := (bw1.cell (p := ⟨w.heap.size, 3, none⟩) (by rw [sx1]; simp)).trans (by rw [← hx1]; simp)
  have c4 : w1.cell? ⟨w.heap.size, 4, none⟩ = some (.int .i64 page) := (bw1.cell (p := ⟨w.heap.size, 4, none⟩) (by rw [sx1]; simp)).trans (by rw [← hx1]; simp)
  have c5 : w1.cell? ⟨w.heap.size, 5, none⟩ = some (.string pointer) := (bw1.cell (p := ⟨w.heap.size, 5, none⟩) (by rw [sx1]; simp)).trans (by rw [← hx1]; simp)
  have cr : w1.cell? ⟨w.heap.size + 1, 0, none⟩ = some (.slice none 0 0) := by rw [← hw1, ← sx1]; simp
  have fr : w1.frozen? ⟨w.heap.size + 1, 0, none⟩ = false := by rw [← hw1, ← sx1]; simp
  have HB1 := hide (bjoin' bw1 bx1)
  have KEEP : Hid (∀ X, Below w1.heap.size w1 X → X.cell? ⟨w.heap.size, 0, none⟩ = some (.int .i64 1) ∧ X.cell? ⟨w.heap.size, 1, none⟩ = some (.string control) ∧ X.cell? ⟨w.heap.size, 2, none⟩ = some (.string tag) ∧ X.cell? ⟨w.heap.size, 3, none⟩ = some (.string query) ∧ X.cell? ⟨w.heap.size, 4, none⟩ = some (.int .i64 page) ∧ X.cell? ⟨w.heap.size, 5, none⟩ = some (.string pointer) ∧ Below w1.heap.size w1 X) := fun X h => ⟨(h.cell (p := ⟨w.heap.size, 0, none⟩) (by rw [sw1]; dsimp only; omega)).trans c0, (h.cell (p := ⟨w.heap.size, 1, none⟩) (by rw [sw1]; dsimp only; omega)).trans c1, (h.cell (p := ⟨w.heap.size, 2, none⟩) (by rw [sw1]; dsimp only; omega)).trans c2, (h.cell (p := ⟨w.heap.size, 3, none⟩) (by rw [sw1]; dsimp only; omega)).trans c3, (h.cell (p := ⟨w.heap.size, 4, none⟩) (by rw [sw1]; dsimp only; omega)).trans c4, (h.cell (p := ⟨w.heap.size, 5, none⟩) (by rw [sw1]; dsimp only; omega)).trans c5, h⟩
  have KRES : Hid (∀ X, Below w1.heap.size w1 X → X.cell? ⟨w.heap.size + 1, 0, none⟩ = some (.slice none 0 0) ∧ X.frozen? ⟨w.heap.size + 1, 0, none⟩ = false ∧ w.heap.size + 1 < X.heap.size) := fun X h =>
    ⟨(h.cell (p := ⟨w.heap.size + 1, 0, none⟩) (by rw [sw1]; dsimp only; omega)).trans cr, (h.frozen (p := ⟨w.heap.size + 1, 0, none⟩) (by rw [sw1]; dsimp only; omega)).trans fr, by have := h.size; omega⟩
  have HW1 : Hid ((w.alloc (Obj.cells #[.int .i64 1, .string control, .string tag, .string query, .int .i64 page, .string pointer] 65)).alloc (Obj.cells #[.slice none 0 0] 55) = w1) := by rw [hx1]; exact hw1
  have HSW := hide sw1
  clear hx1 hw1 sx1 bx1 bw1 sw1 c0 c1 c2 c3 c4 c5 cr fr
  have h_pointer : ¬ pointer.toList = [] := fun h => hne h
  have e_pointer : (([] : List UInt8) == pointer.toList) = false := by rw [beq_eq_false_iff_ne]; exact fun h => h_pointer h.symm
  have e2_pointer : ¬ ([] : List UInt8) = pointer.toList := fun h => h_pointer h.symm
  have e3_pointer : (pointer.toList == []) = false := by rw [beq_eq_false_iff_ne]; exact h_pointer
  clear hne h_pointer
  go_enter Try.func38, Try.ntmps38
  go_wp2_with fail
  rw [HW1.out]
  refine (HR.out _).mono ?_
  rintro e w2 ⟨rfl, hb2⟩
  have hd : Below w1.heap.size w1 w2.drew := hb2.drew
  go_wp2_with fail
  go_region_held3 (fun X => X.cell? ⟨w.heap.size, 0, none⟩ = some (.int .i64 1) ∧ X.cell? ⟨w.heap.size, 1, none⟩ = some (.string control) ∧ X.cell? ⟨w.heap.size, 2, none⟩ = some (.string tag) ∧ X.cell? ⟨w.heap.size, 3, none⟩ = some (.string query) ∧ X.cell? ⟨w.heap.size, 4, none⟩ = some (.int .i64 page) ∧ X.cell? ⟨w.heap.size, 5, none⟩ = some (.string pointer) ∧ Below w1.heap.size w1 X)
    (first | with_reducible exact KEEP.out _ hd | with_reducible exact KEEP.out _ hb3)
    (first | (go_at_call 178; refine (newRequest_any control tag query page _).mono ?_; rintro e w3 ⟨rfl, hb3'⟩; dsimp only [reqV]; have hb3 := bjoin hb3' hd))
  obtain ⟨r0, rf, rl⟩ := KRES.out _ hb3
  have HBF : Hid (∀ x, Below w.heap.size w (w3.setCell ⟨w.heap.size + 1, 0, none⟩ x)) := fun x => (bjoin hb3 HB1.out).setCell (p := ⟨w.heap.size + 1, 0, none⟩) (Nat.le_succ _) x
  go_wp2_with fail
  exact bodyPost_ret (v := .agg #[.slice none 0 0]) (by simp [results, Try.results38, go_sem, r0, rl]) rfl (msgPost_nil _ _ _ _ (HBF.out _))
set_option maxRecDepth 100000 in
set_option maxHeartbeats 4000000 in
theorem writeReqN_yes (control tag query pointer : ByteArray) (page : Int) (xs : List Seg) (w : World) (h_pointer : pointer.toList = []) (HWL : Hid (∀ W, Calls Try.prog 84 #[.iface 153 (.agg #[.string control, .string tag, .string query, .int .i64 page])] W (MsgPost W xs))) :
    Calls Try.prog 38 #[reqV ⟨1, control, tag, query, page, pointer⟩] w (MsgPost w xs) := by
  have HR : Hid (∀ W, Calls Try.prog 83 #[.agg #[.int .i64 1, .string control, .string tag, .string query, .int .i64 page, .string pointer]] W fun e w' => e = .returned (.iface 153 (.agg #[.string control, .string tag, .string query, .int .i64 page])) ∧ Below W.heap.size W w') := fun W => requestOf_any ⟨1, control, tag, query, page, pointer⟩ W
  have m1 := mReqN
  show Calls Try.prog 38 #[.agg #[.int .i64 1, .string control, .string tag, .string query, .int .i64 page, .string pointer]] w _
  obtain ⟨x1, hx1⟩ : ∃ x1, w.alloc (Obj.cells #[.int .i64 1, .string control, .string tag, .string query, .int .i64 page, .string pointer] 65) = x1 := ⟨_, rfl⟩
  obtain ⟨w1, hw1⟩ : ∃ w1, x1.alloc (Obj.cells #[.slice none 0 0] 55) = w1 := ⟨_, rfl⟩
  have sx1 : x1.heap.size = w.heap.size + 1 := by rw [← hx1]; simp
  have bx1 : Below w.heap.size w x1 := by rw [← hx1]; exact (Below.refl _ _).alloc (Nat.le_refl _) _
  have bw1 : Below x1.heap.size x1 w1 := by rw [← hw1]; exact (Below.refl _ _).alloc (Nat.le_refl _) _
  have sw1 : w1.heap.size = w.heap.size + 1 + 1 := by rw [← hw1]; simp [sx1]
  have c0 : w1.cell? ⟨w.heap.size, 0, none⟩ = some (.int .i64 1) := (bw1.cell (p := ⟨w.heap.size, 0, none⟩) (by rw [sx1]; simp)).trans (by rw [← hx1]; simp)
  have c1 : w1.cell? ⟨w.heap.size, 1, none⟩ = some (.string control) := (bw1.cell (p := ⟨w.heap.size, 1, none⟩) (by rw [sx1]; simp)).trans (by rw [← hx1]; simp)
  have c2 : w1.cell? ⟨w.heap.size, 2, none⟩ = some (.string tag) := (bw1.cell (p := ⟨w.heap.size, 2, none⟩) (by rw [sx1]; simp)).trans (by rw [← hx1]; simp)
  have c3 : w1.cell? ⟨w.heap.size, 3, none⟩ = some (.string query) := (bw1.cell (p := ⟨w.heap.size, 3, none⟩) (by rw [sx1]; simp)).trans (by rw [← hx1]; simp)
  have c4 : w1.cell? ⟨w.heap.size, 4, none⟩ = some (.int .i64 page) := (bw1.cell (p := ⟨w.heap.size, 4, none⟩) (by rw [sx1]; simp)).trans (by rw [← hx1]; simp)
  have c5 : w1.cell? ⟨w.heap.size, 5, none⟩ = some (.string pointer) := (bw1.cell (p := ⟨w.heap.size, 5, none⟩) (by rw [sx1]; simp)).trans (by rw [← hx1]; simp)
  have cr : w1.cell? ⟨w.heap.size + 1, 0, none⟩ = some (.slice none 0 0) := by rw [← hw1, ← sx1]; simp
  have fr : w1.frozen? ⟨w.heap.size + 1, 0, none⟩ = false := by rw [← hw1, ← sx1]; simp
  have HB1 := hide (bjoin' bw1 bx1)
  have KEEP : Hid (∀ X, Below w1.heap.size w1 X → X.cell? ⟨w.heap.size, 0, none⟩ = some (.int .i64 1) ∧ X.cell? ⟨w.heap.size, 1, none⟩ = some (.string control) ∧ X.cell? ⟨w.heap.size, 2, none⟩ = some (.string tag) ∧ X.cell? ⟨w.heap.size, 3, none⟩ = some (.string query) ∧ X.cell? ⟨w.heap.size, 4, none⟩ = some (.int .i64 page) ∧ X.cell? ⟨w.heap.size, 5, none⟩ = some (.string pointer) ∧ Below w1.heap.size w1 X) := fun X h => ⟨(h.cell (p := ⟨w.heap.size, 0, none⟩) (by rw [sw1]; dsimp only; omega)).trans c0, (h.cell (p := ⟨w.heap.size, 1, none⟩) (by rw [sw1]; dsimp only; omega)).trans c1, (h.cell (p := ⟨w.heap.size, 2, none⟩) (by rw [sw1]; dsimp only; omega)).trans c2, (h.cell (p := ⟨w.heap.size, 3, none⟩) (by rw [sw1]; dsimp only; omega)).trans c3, (h.cell (p := ⟨w.heap.size, 4, none⟩) (by rw [sw1]; dsimp only; omega)).trans c4, (h.cell (p := ⟨w.heap.size, 5, none⟩) (by rw [sw1]; dsimp only; omega)).trans c5, h⟩
  have KRES : Hid (∀ X, Below w1.heap.size w1 X → X.cell? ⟨w.heap.size + 1, 0, none⟩ = some (.slice none 0 0) ∧ X.frozen? ⟨w.heap.size + 1, 0, none⟩ = false ∧ w.heap.size + 1 < X.heap.size) := fun X h =>
    ⟨(h.cell (p := ⟨w.heap.size + 1, 0, none⟩) (by rw [sw1]; dsimp only; omega)).trans cr, (h.frozen (p := ⟨w.heap.size + 1, 0, none⟩) (by rw [sw1]; dsimp only; omega)).trans fr, by have := h.size; omega⟩
  have HW1 : Hid ((w.alloc (Obj.cells #[.int .i64 1, .string control, .string tag, .string query, .int .i64 page, .string pointer] 65)).alloc (Obj.cells #[.slice none 0 0] 55) = w1) := by rw [hx1]; exact hw1
  have HSW := hide sw1
  clear hx1 hw1 sx1 bx1 bw1 sw1 c0 c1 c2 c3 c4 c5 cr fr
  have e_pointer : (([] : List UInt8) == pointer.toList) = true := by rw [h_pointer]; rfl
  have e3_pointer : (pointer.toList == []) = true := by rw [h_pointer]; rfl
  clear h_pointer
  go_enter Try.func38, Try.ntmps38
  go_wp2_with fail
  rw [HW1.out]
  refine (HR.out _).mono ?_
  rintro e w2 ⟨rfl, hb2⟩
  have hd : Below w1.heap.size w1 w2.drew := hb2.drew
  go_wp2_with fail
  go_region_held3 (fun X => X.cell? ⟨w.heap.size, 0, none⟩ = some (.int .i64 1) ∧ X.cell? ⟨w.heap.size, 1, none⟩ = some (.string control) ∧ X.cell? ⟨w.heap.size, 2, none⟩ = some (.string tag) ∧ X.cell? ⟨w.heap.size, 3, none⟩ = some (.string query) ∧ X.cell? ⟨w.heap.size, 4, none⟩ = some (.int .i64 page) ∧ X.cell? ⟨w.heap.size, 5, none⟩ = some (.string pointer) ∧ Below w1.heap.size w1 X)
    (first | with_reducible exact KEEP.out _ hd | with_reducible exact KEEP.out _ hb3)
    (first | (go_at_call 178; refine (newRequest_any control tag query page _).mono ?_; rintro e w3 ⟨rfl, hb3'⟩; dsimp only [reqV]; have hb3 := bjoin hb3' hd))
  obtain ⟨r0, rf, rl⟩ := KRES.out _ hb3
  have hl3 := hb3.size
  have HB3 := hide hb3
  have HSL := hide (show w.heap.size + 1 < w3.heap.size from rl)
  go_wp2_with fail
  refine (HWL.out _).mono ?_
  rintro e w4 ⟨u, rfl, bs, hO, hN, hF, hb4⟩
  obtain ⟨a, c, rfl⟩ := form_segs3 hO
  have hB4 := bjoin hb4 hb3
  obtain ⟨s0, sf, sl⟩ := KRES.out _ hB4
  have HOF : Hid (∀ x, OSegs (w4.setCell ⟨w.heap.size + 1, 0, none⟩ x) (.slice a xs.length c) xs bs) := fun x => OAt.kept keptO_seg hO (by rw [Deep.nblk_setCell]; exact Nat.le_refl _) fun d hd => Deep.blk_setCell_other _ ⟨w.heap.size + 1, 0, none⟩ _ d (by have := hF d hd; have := HSL.out; dsimp only; omega)
  have HFR : Hid (∀ b ∈ bs, w.heap.size ≤ b) := fun b hb => by have := hF b hb; have := HSL.out; omega
  have HBF : Hid (∀ x, Below w.heap.size w (w4.setCell ⟨w.heap.size + 1, 0, none⟩ x)) := fun x => (bjoin hB4 HB1.out).setCell (p := ⟨w.heap.size + 1, 0, none⟩) (Nat.le_succ _) x
  have HN := hide hN
  go_wp2_with fail
  exact bodyPost_ret (v := .agg #[.slice a xs.length c]) (by simp [results, Try.results38, go_sem, s0, sl]) rfl ⟨_, rfl, bs, HOF.out _, HN.out, HFR.out, HBF.out _⟩
end Go.Proofs.Ytjpdgcodjnnljaa.Msg

namespace Go.Proofs.Ytjpdgcodjnnljaa.Msg
set_option linter.unusedVariables false
set_option linter.unusedSimpArgs false

theorem keepN_last {α : Type} (p : α → Bool) : ∀ (xs : List α) (m : Nat), keepN p xs = m + 1 → ∃ h : m < xs.length, p xs[m] = false
  | [], m, h => by simp [keepN] at h
  | x :: xs, m, h => by
    simp only [keepN] at h
    cases hk : keepN p xs with
    | zero =>
      rw [hk] at h
      simp only at h
      cases hp : p x
      · rw [hp] at h
        simp at h
        subst h
        exact ⟨by simp, by simpa using hp⟩
      · rw [hp] at h
        simp at h
    | succ n =>
      rw [hk] at h
      simp only at h
      obtain rfl : m = n + 1 := by omega
      obtain ⟨h1, h2⟩ := keepN_last p xs n hk
      exact ⟨by simp; omega, by simpa using h2⟩
theorem trim_end (xs : List Field) : endB List.length (trimE List.isEmpty xs) = true := by
  cases hm : keepN List.isEmpty xs with
  | zero => unfold trimE; rw [hm]; rfl
  | succ m =>
    obtain ⟨h1, h2⟩ := keepN_last List.isEmpty xs m hm
    have hl : (trimE List.isEmpty xs).length = m + 1 := by unfold trimE; rw [hm, List.length_take]; omega
    rw [endB_at List.length _ (by omega), decide_eq_true_eq]
    have e : (trimE List.isEmpty xs)[(trimE List.isEmpty xs).length - 1]'(by omega) = xs[m] := by
      unfold trimE
      rw [List.getElem_take]
      congr 1
      rw [List.length_take, hm]
      omega
    rw [e]
    cases hx : xs[m] with
    | nil => rw [hx] at h2; cases h2
    | cons a r => simp
theorem wordI (s : ByteArray) (hp : plainB s = true) (hz : s.size ≤ 40000) : fieldI (wordF s) = true := by
  unfold wordF
  split
  · rfl
  · rename_i h
    unfold fieldI repI csB compI endB
    simp [hp, hz, repI, csB, compI, endB]
    omega
theorem trimI (xs : List Field) (hl : xs.length ≤ 30) (h : ∀ f ∈ xs, fieldI f = true) : (csB 30 List.length (trimE List.isEmpty xs) && (trimE List.isEmpty xs).all fieldI) = true := by
  have h1 : (trimE List.isEmpty xs).length ≤ 30 := by unfold trimE; rw [List.length_take]; omega
  unfold csB
  rw [trim_end, decide_eq_true h1, Bool.true_and, Bool.true_and, List.all_eq_true]
  intro f hf
  unfold trimE at hf
  exact h f (List.mem_of_mem_take hf)
theorem wordSz (s : ByteArray) : fieldSz (wordF s) ≤ 2 + s.size := by
  unfold wordF
  split
  · simp [fieldSz, lenSum, sumOf]
  · simp [fieldSz, lenSum, sumOf, repSz, strSz]; omega
theorem trimSz (xs : List Field) : lenSum fieldSz (trimE List.isEmpty xs) ≤ lenSum fieldSz xs := by
  have h1 := sum_le fieldSz xs (keepN List.isEmpty xs)
  unfold lenSum trimE
  rw [List.length_take]
  omega
theorem good_of (segs : List Seg) (h1 : 1 ≤ segs.length) (h2 : segs.length ≤ 10) (hp : Places segs segs.length) (hs : sumOf segSz segs ≤ 3000) : msgB segs = true ∧ msgSz segs ≤ 1048576 := by
  refine ⟨msgB_good segs h1 (by omega) hp ?_, by have e : msgSz segs = segs.length + sumOf segSz segs := rfl; omega⟩
  rw [List.take_length]
  have : ∀ xs : List Seg, (msgWI xs).length ≤ 6 * xs.length + 3 * sumOf segSz xs := by
    intro xs
    induction xs with
    | nil => simp [msgWI, sumOf]
    | cons x r ih =>
      have hx := segWI_le x
      unfold msgWI at ih ⊢
      unfold sumOf at ih ⊢
      rw [List.flatMap_cons, List.length_append, List.map_cons, List.sum_cons, List.length_cons]
      omega
  have := this segs
  omega
theorem bound_p {lo hi : Nat} {s : ByteArray} (h : boundB lo hi s = true) : plainB s = true ∧ s.size ≤ hi := by
  unfold boundB at h
  simp only [Bool.and_eq_true, decide_eq_true_eq] at h
  exact ⟨h.2.2, h.2.1⟩
theorem segI_trim (name : ByteArray) (xs : List Field) (hn : nameB name = true) (hl : xs.length ≤ 30) (h : ∀ f ∈ xs, fieldI f = true) : segI ⟨name, trimE List.isEmpty xs⟩ = true := by
  unfold segI
  rw [trimI xs hl h, hn]
  rfl
theorem headI (kr : Rep) (ctl : ByteArray) (hk : fieldI [kr] = true) (hc : plainB ctl = true) (hz : ctl.size ≤ 40000) : segI ⟨⟨#[77, 83, 72]⟩, headF kr ctl⟩ = true := by
  have h := segI_trim ⟨#[77, 83, 72]⟩ (headF kr ctl) (by decide) (by simp [headF]) (fun f hf => by
    simp only [headF, List.mem_cons, List.not_mem_nil, or_false] at hf
    rcases hf with rfl | rfl | rfl | rfl | rfl | rfl | rfl | rfl | rfl | rfl
    · rfl
    · rfl
    · rfl
    · rfl
    · rfl
    · rfl
    · exact hk
    · exact wordI ctl hc hz
    · rfl
    · exact wordI v251 (by decide) (by decide))
  rw [headF_trim] at h
  exact h
theorem headSz (kr : Rep) (ctl : ByteArray) : segSz ⟨⟨#[77, 83, 72]⟩, headF kr ctl⟩ ≤ 60 + repSz kr + ctl.size := by
  have h1 := wordSz ctl
  have h2 := wordSz v251
  have h3 : v251.size = 5 := rfl
  have h4 : (⟨#[77, 83, 72]⟩ : ByteArray).size = 3 := rfl
  have h5 : fieldSz ([] : Field) = 0 := rfl
  have h6 : fieldSz [kr] = 1 + repSz kr := by simp [fieldSz, lenSum, sumOf]
  unfold segSz lenSum sumOf headF
  simp only [List.map_cons, List.map_nil, List.sum_cons, List.sum_nil, List.length_cons, List.length_nil, h5, h6, h4]
  omega
theorem segTrimSz (name : ByteArray) (xs : List Field) : segSz ⟨name, trimE List.isEmpty xs⟩ ≤ name.size + lenSum fieldSz xs := by
  have := trimSz xs
  unfold segSz
  simp only
  omega

theorem msh_is (a b c : UInt8) : mshB ⟨#[a, b, c]⟩ = ([a, b, c] == [77, 83, 72]) := by unfold mshB; rw [ByteArray.toList_eq]
theorem place0 (x : Seg) (h : segI x = true) (hm : mshB x.name = true) : placeB 0 x = true := by unfold placeB; rw [h, hm]; rfl
theorem place1 (k : Nat) (x : Seg) (h : segI x = true) (hm : mshB x.name = false) : placeB (k + 1) x = true := by unfold placeB; rw [h, hm]; rfl
theorem cancelM_ok (control tag : ByteArray) (hc : controlB control = true) (ht : tagB tag = true) : msgB (cancelM control tag) = true ∧ msgSz (cancelM control tag) ≤ 1048576 := by
  obtain ⟨c1, c2⟩ := bound_p hc
  obtain ⟨t1, t2⟩ := bound_p ht
  have i1 := headI [⟨#[81, 67, 78]⟩, ⟨#[74, 48, 49]⟩] control (by decide) c1 (by omega)
  have i2 := segI_trim ⟨#[81, 73, 68]⟩ [wordF tag] (by decide) (by simp) (fun f hf => by simp at hf; subst hf; exact wordI tag t1 (by omega))
  refine good_of _ (by simp [cancelM]) (by simp [cancelM]) ?_ ?_
  · intro j hj _
    have hj' : j < 2 := hj
    match j, hj' with
    | 0, _ => exact place0 _ i1 (msh_is 77 83 72)
    | 1, _ => exact place1 0 _ i2 (msh_is 81 73 68)
  · have s1 := headSz [⟨#[81, 67, 78]⟩, ⟨#[74, 48, 49]⟩] control
    have s2 := segTrimSz ⟨#[81, 73, 68]⟩ [wordF tag]
    have s3 : repSz [⟨#[81, 67, 78]⟩, ⟨#[74, 48, 49]⟩] = 8 := rfl
    have s4 : (⟨#[81, 73, 68]⟩ : ByteArray).size = 3 := rfl
    have s5 := wordSz tag
    have s6 : lenSum fieldSz [wordF tag] = 1 + fieldSz (wordF tag) := by simp [lenSum, sumOf]
    unfold sumOf cancelM
    simp only [List.map_cons, List.map_nil, List.sum_cons, List.sum_nil]
    omega
theorem nextM_ok (control tag query pointer : ByteArray) (hc : controlB control = true) (ht : tagB tag = true) (hq : textB query = true) (hp : textB pointer = true) : msgB (nextM control tag query pointer) = true ∧ msgSz (nextM control tag query pointer) ≤ 1048576 := by
  obtain ⟨c1, c2⟩ := bound_p hc
  obtain ⟨t1, t2⟩ := bound_p ht
  obtain ⟨q1, q2⟩ := bound_p hq
  obtain ⟨p1, p2⟩ := bound_p hp
  have i1 := headI [⟨#[81, 66, 80]⟩, ⟨#[90, 48, 49]⟩] control (by decide) c1 (by omega)
  have i2 := segI_trim ⟨#[81, 80, 68]⟩ [wordF ⟨#[81]⟩, wordF tag, wordF query] (by decide) (by simp) (fun f hf => by
    simp at hf
    rcases hf with rfl | rfl | rfl
    · exact wordI _ (by decide) (by decide)
    · exact wordI tag t1 (by omega)
    · exact wordI query q1 (by omega))
  have i3 := segI_trim ⟨#[68, 83, 67]⟩ [wordF pointer] (by decide) (by simp) (fun f hf => by simp at hf; subst hf; exact wordI pointer p1 (by omega))
  refine good_of _ (by simp [nextM]) (by simp [nextM]) ?_ ?_
  · intro j hj _
    have hj' : j < 3 := hj
    match j, hj' with
    | 0, _ => exact place0 _ i1 (msh_is 77 83 72)
    | 1, _ => exact place1 0 _ i2 (msh_is 81 80 68)
    | 2, _ => exact place1 1 _ i3 (msh_is 68 83 67)
  · have s1 := headSz [⟨#[81, 66, 80]⟩, ⟨#[90, 48, 49]⟩] control
    have s2 := segTrimSz ⟨#[81, 80, 68]⟩ [wordF ⟨#[81]⟩, wordF tag, wordF query]
    have s3 : repSz [⟨#[81, 66, 80]⟩, ⟨#[90, 48, 49]⟩] = 8 := rfl
    have s4 : (⟨#[81, 80, 68]⟩ : ByteArray).size = 3 := rfl
    have s5 := wordSz tag
    have s6 : lenSum fieldSz [wordF ⟨#[81]⟩, wordF tag, wordF query] = 3 + (fieldSz (wordF ⟨#[81]⟩) + (fieldSz (wordF tag) + fieldSz (wordF query))) := by simp [lenSum, sumOf]
    have s7 := wordSz query
    have s8 := wordSz pointer
    have s9 := wordSz ⟨#[81]⟩
    have s10 : (⟨#[81]⟩ : ByteArray).size = 1 := rfl
    have s11 := segTrimSz ⟨#[68, 83, 67]⟩ [wordF pointer]
    have s12 : (⟨#[68, 83, 67]⟩ : ByteArray).size = 3 := rfl
    have s13 : lenSum fieldSz [wordF pointer] = 1 + fieldSz (wordF pointer) := by simp [lenSum, sumOf]
    unfold sumOf nextM
    simp only [List.map_cons, List.map_nil, List.sum_cons, List.sum_nil]
    omega
theorem newM_ok (control tag query dt : ByteArray) (hc : controlB control = true) (ht : tagB tag = true) (hq : textB query = true) (hp : plainB dt = true) (hd : dt.size ≤ 20) : msgB (newM control tag query dt) = true ∧ msgSz (newM control tag query dt) ≤ 1048576 := by
  obtain ⟨c1, c2⟩ := bound_p hc
  obtain ⟨t1, t2⟩ := bound_p ht
  obtain ⟨q1, q2⟩ := bound_p hq
  have i1 := headI [⟨#[81, 66, 80]⟩, ⟨#[90, 48, 49]⟩] control (by decide) c1 (by omega)
  have i2 := segI_trim ⟨#[81, 80, 68]⟩ [wordF ⟨#[81]⟩, wordF tag, wordF query] (by decide) (by simp) (fun f hf => by
    simp at hf
    rcases hf with rfl | rfl | rfl
    · exact wordI _ (by decide) (by decide)
    · exact wordI tag t1 (by omega)
    · exact wordI query q1 (by omega))
  have i3 := segI_trim ⟨#[82, 67, 80]⟩ [([] : Field), wordF dt] (by decide) (by simp) (fun f hf => by
    simp at hf
    rcases hf with rfl | rfl
    · rfl
    · exact wordI dt hp (by omega))
  refine good_of _ (by simp [newM]) (by simp [newM]) ?_ ?_
  · intro j hj _
    have hj' : j < 3 := hj
    match j, hj' with
    | 0, _ => exact place0 _ i1 (msh_is 77 83 72)
    | 1, _ => exact place1 0 _ i2 (msh_is 81 80 68)
    | 2, _ => exact place1 1 _ i3 (msh_is 82 67 80)
  · have s1 := headSz [⟨#[81, 66, 80]⟩, ⟨#[90, 48, 49]⟩] control
    have s2 := segTrimSz ⟨#[81, 80, 68]⟩ [wordF ⟨#[81]⟩, wordF tag, wordF query]
    have s3 : repSz [⟨#[81, 66, 80]⟩, ⟨#[90, 48, 49]⟩] = 8 := rfl
    have s4 : (⟨#[81, 80, 68]⟩ : ByteArray).size = 3 := rfl
    have s5 := wordSz tag
    have s6 : lenSum fieldSz [wordF ⟨#[81]⟩, wordF tag, wordF query] = 3 + (fieldSz (wordF ⟨#[81]⟩) + (fieldSz (wordF tag) + fieldSz (wordF query))) := by simp [lenSum, sumOf]
    have s7 := wordSz query
    have s8 := wordSz dt
    have s9 := wordSz ⟨#[81]⟩
    have s10 : (⟨#[81]⟩ : ByteArray).size = 1 := rfl
    have s11 := segTrimSz ⟨#[82, 67, 80]⟩ [([] : Field), wordF dt]
    have s12 : (⟨#[82, 67, 80]⟩ : ByteArray).size = 3 := rfl
    have s13 : lenSum fieldSz [([] : Field), wordF dt] = 2 + (fieldSz ([] : Field) + fieldSz (wordF dt)) := by simp [lenSum, sumOf]
    have s14 : fieldSz ([] : Field) = 0 := rfl
    unfold sumOf newM
    simp only [List.map_cons, List.map_nil, List.sum_cons, List.sum_nil]
    omega
end Go.Proofs.Ytjpdgcodjnnljaa.Msg
