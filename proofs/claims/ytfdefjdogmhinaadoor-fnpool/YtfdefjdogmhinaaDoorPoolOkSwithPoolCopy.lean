import Derived.Test.YtfdefjdogmhinaaDoorLawNewwithMsgOk
import Derived.Test.YtfdefjdogmhinaaDoorTextImplwithRowsImpl
import Derived.Test.YtfdefjdogmhinaaDoorClientImplwithRowsSpec
import Derived.Test.YtfdefjdogmhinaaDoorQrySpecwithImplOk
import Derived.Deep.LoopGhost
import Derived.Deep.RegionLaw
import Derived.Deep.RegionHeld3
namespace Go.Proofs.YtfdefjdogmhinaaDoor.Msg
open Go.ChangeShapes Go.WideShapes Go.ChangeAt Go.RowKit
set_option linter.unusedVariables false
set_option linter.unusedSimpArgs false

def okWn (x : Wn) : Bool := clientB x.client && (tagB x.tag && (textB x.query && textB x.pointer))
def nowB (n : Int) : Bool := decide (0 ≤ n ∧ n ≤ 900000000)
def zeroB (c : Cn) : Bool := decide (c.control = ⟨#[]⟩ ∧ c.due = 0 ∧ c.want.client = 0 ∧ c.want.tag = ⟨#[]⟩ ∧ c.want.query = ⟨#[]⟩ ∧ c.want.pointer = ⟨#[]⟩)
def okCn (c : Cn) : Bool := if c.busy then controlB c.control && (okWn c.want && decide (0 ≤ c.due ∧ c.due ≤ 1000000000)) else zeroB c
def okPl (x : Pl) : Bool := (cntB x.epoch && cntB x.next && decide (1 ≤ x.conns.length ∧ x.conns.length ≤ 4) && decide (x.queue.length ≤ 16)) && (x.queue.all okWn && (x.conns.all okCn && (x.queue.isEmpty || x.conns.all (·.busy))))
theorem size_zero {s : ByteArray} (h : s.size = 0) : s = ⟨#[]⟩ := by
  apply bytes_ext
  have : s.data.toList.length = 0 := by simpa using h
  rw [List.length_eq_zero_iff.1 this]
theorem list_nil {s : ByteArray} (h : s.toList = []) : s = ⟨#[]⟩ := by
  apply bytes_ext
  have e : s.data.toList = s.toList := by rw [ByteArray.toList_eq]
  rw [e, h]
theorem zeroB_eq {c : Cn} (hb : c.busy = false) (h : zeroB c = true) : c = cn0 := by
  obtain ⟨b, t, ⟨k, g, q, p⟩, d⟩ := c
  have := of_decide_eq_true h
  simp only at this hb
  obtain ⟨rfl, rfl, rfl, rfl, rfl, rfl⟩ := this
  subst hb
  rfl
set_option maxHeartbeats 2000000 in
theorem wantS_any (x : Wn) (w : World) (hz : wnZ x) :
    Calls Tryd.prog 25 #[wnV x] w fun e w' => e = .returned (.bool (okWn x)) ∧ Below w.heap.size w w' := by
  obtain ⟨z1, z2, z3⟩ := hz
  show Calls Tryd.prog 25 #[.agg #[.int .i64 x.client, .string x.tag, .string x.query, .string x.pointer]] w _
  have HB := hide ((Below.refl w.heap.size w).alloc (Nat.le_refl _) (Obj.cells #[.int .i64 x.client, .string x.tag, .string x.query, .string x.pointer] 33))
  cases hc0 : clientB x.client with
  | false =>
    have HX : Hid (okWn x = false) := by unfold okWn; simp only [hc0]; rfl
    have HC0 := hide hc0
    clear hc0
    go_enter Tryd.func25, Tryd.ntmps25
    go_wp2_with fail
    refine (l5Client_any x.client _).mono ?_
    rintro e W ⟨rfl, hW⟩
    rw [hW, HC0.out]
    clear hW W
    go_wp2_with fail
    go_ret
    exact ⟨ret_bool HX.out.symm, HB.out⟩
  | true =>
    cases hc1 : tagB x.tag with
    | false =>
      have HX : Hid (okWn x = false) := by unfold okWn; simp only [hc0, hc1]; rfl
      have HC0 := hide hc0
      have HC1 := hide hc1
      clear hc0 hc1
      go_enter Tryd.func25, Tryd.ntmps25
      go_wp2_with fail
      refine (l5Client_any x.client _).mono ?_
      rintro e W ⟨rfl, hW⟩
      rw [hW, HC0.out]
      clear hW W
      go_wp2_with fail
      refine (tagSpec_any x.tag _ z1).mono ?_
      rintro e W ⟨rfl, hW⟩
      rw [hW, HC1.out]
      clear hW W
      go_wp2_with fail
      go_ret
      exact ⟨ret_bool HX.out.symm, HB.out⟩
    | true =>
      cases hc2 : textB x.query with
      | false =>
        have HX : Hid (okWn x = false) := by unfold okWn; simp only [hc0, hc1, hc2]; rfl
        have HC0 := hide hc0
        have HC1 := hide hc1
        have HC2 := hide hc2
        clear hc0 hc1 hc2
        go_enter Tryd.func25, Tryd.ntmps25
        go_wp2_with fail
        refine (l5Client_any x.client _).mono ?_
        rintro e W ⟨rfl, hW⟩
        rw [hW, HC0.out]
        clear hW W
        go_wp2_with fail
        refine (tagSpec_any x.tag _ z1).mono ?_
        rintro e W ⟨rfl, hW⟩
        rw [hW, HC1.out]
        clear hW W
        go_wp2_with fail
        refine (textSpec_any x.query _ z2).mono ?_
        rintro e W ⟨rfl, hW⟩
        rw [hW, HC2.out]
        clear hW W
        go_wp2_with fail
        go_ret
        exact ⟨ret_bool HX.out.symm, HB.out⟩
      | true =>
        cases hc3 : textB x.pointer with
        | false =>
          have HX : Hid (okWn x = false) := by unfold okWn; simp only [hc0, hc1, hc2, hc3]; rfl
          have HC0 := hide hc0
          have HC1 := hide hc1
          have HC2 := hide hc2
          have HC3 := hide hc3
          clear hc0 hc1 hc2 hc3
          go_enter Tryd.func25, Tryd.ntmps25
          go_wp2_with fail
          refine (l5Client_any x.client _).mono ?_
          rintro e W ⟨rfl, hW⟩
          rw [hW, HC0.out]
          clear hW W
          go_wp2_with fail
          refine (tagSpec_any x.tag _ z1).mono ?_
          rintro e W ⟨rfl, hW⟩
          rw [hW, HC1.out]
          clear hW W
          go_wp2_with fail
          refine (textSpec_any x.query _ z2).mono ?_
          rintro e W ⟨rfl, hW⟩
          rw [hW, HC2.out]
          clear hW W
          go_wp2_with fail
          refine (textSpec_any x.pointer _ z3).mono ?_
          rintro e W ⟨rfl, hW⟩
          rw [hW, HC3.out]
          clear hW W
          go_wp2_with fail
          go_ret
          exact ⟨ret_bool HX.out.symm, HB.out⟩
        | true =>
          have HX : Hid (okWn x = true) := by unfold okWn; simp only [hc0, hc1, hc2, hc3]; rfl
          have HC0 := hide hc0
          have HC1 := hide hc1
          have HC2 := hide hc2
          have HC3 := hide hc3
          clear hc0 hc1 hc2 hc3
          go_enter Tryd.func25, Tryd.ntmps25
          go_wp2_with fail
          refine (l5Client_any x.client _).mono ?_
          rintro e W ⟨rfl, hW⟩
          rw [hW, HC0.out]
          clear hW W
          go_wp2_with fail
          refine (tagSpec_any x.tag _ z1).mono ?_
          rintro e W ⟨rfl, hW⟩
          rw [hW, HC1.out]
          clear hW W
          go_wp2_with fail
          refine (textSpec_any x.query _ z2).mono ?_
          rintro e W ⟨rfl, hW⟩
          rw [hW, HC2.out]
          clear hW W
          go_wp2_with fail
          refine (textSpec_any x.pointer _ z3).mono ?_
          rintro e W ⟨rfl, hW⟩
          rw [hW, HC3.out]
          clear hW W
          go_wp2_with fail
          go_ret
          exact ⟨ret_bool HX.out.symm, HB.out⟩
set_option maxHeartbeats 2000000 in
theorem wantI_any (x : Wn) (w : World) (hz : wnZ x) :
    Calls Tryd.prog 21 #[wnV x] w fun e w' => e = .returned (.bool (okWn x)) ∧ Below w.heap.size w w' := by
  obtain ⟨z1, z2, z3⟩ := hz
  show Calls Tryd.prog 21 #[.agg #[.int .i64 x.client, .string x.tag, .string x.query, .string x.pointer]] w _
  have HB := hide ((Below.refl w.heap.size w).alloc (Nat.le_refl _) (Obj.cells #[.int .i64 x.client, .string x.tag, .string x.query, .string x.pointer] 33))
  cases hc0 : clientB x.client with
  | false =>
    have HX : Hid (okWn x = false) := by unfold okWn; simp only [hc0]; rfl
    have HC0 := hide hc0
    clear hc0
    go_enter Tryd.func21, Tryd.ntmps21
    go_wp2_with fail
    refine (isClient_any x.client _).mono ?_
    rintro e W ⟨rfl, hW⟩
    rw [hW, HC0.out]
    clear hW W
    go_wp2_with fail
    go_ret
    exact ⟨ret_bool HX.out.symm, HB.out⟩
  | true =>
    cases hc1 : tagB x.tag with
    | false =>
      have HX : Hid (okWn x = false) := by unfold okWn; simp only [hc0, hc1]; rfl
      have HC0 := hide hc0
      have HC1 := hide hc1
      clear hc0 hc1
      go_enter Tryd.func21, Tryd.ntmps21
      go_wp2_with fail
      refine (isClient_any x.client _).mono ?_
      rintro e W ⟨rfl, hW⟩
      rw [hW, HC0.out]
      clear hW W
      go_wp2_with fail
      refine (isTag_any x.tag _ z1).mono ?_
      rintro e W ⟨rfl, hW⟩
      rw [hW, HC1.out]
      clear hW W
      go_wp2_with fail
      go_ret
      exact ⟨ret_bool HX.out.symm, HB.out⟩
    | true =>
      cases hc2 : textB x.query with
      | false =>
        have HX : Hid (okWn x = false) := by unfold okWn; simp only [hc0, hc1, hc2]; rfl
        have HC0 := hide hc0
        have HC1 := hide hc1
        have HC2 := hide hc2
        clear hc0 hc1 hc2
        go_enter Tryd.func21, Tryd.ntmps21
        go_wp2_with fail
        refine (isClient_any x.client _).mono ?_
        rintro e W ⟨rfl, hW⟩
        rw [hW, HC0.out]
        clear hW W
        go_wp2_with fail
        refine (isTag_any x.tag _ z1).mono ?_
        rintro e W ⟨rfl, hW⟩
        rw [hW, HC1.out]
        clear hW W
        go_wp2_with fail
        refine (isText_any x.query _ z2).mono ?_
        rintro e W ⟨rfl, hW⟩
        rw [hW, HC2.out]
        clear hW W
        go_wp2_with fail
        go_ret
        exact ⟨ret_bool HX.out.symm, HB.out⟩
      | true =>
        cases hc3 : textB x.pointer with
        | false =>
          have HX : Hid (okWn x = false) := by unfold okWn; simp only [hc0, hc1, hc2, hc3]; rfl
          have HC0 := hide hc0
          have HC1 := hide hc1
          have HC2 := hide hc2
          have HC3 := hide hc3
          clear hc0 hc1 hc2 hc3
          go_enter Tryd.func21, Tryd.ntmps21
          go_wp2_with fail
          refine (isClient_any x.client _).mono ?_
          rintro e W ⟨rfl, hW⟩
          rw [hW, HC0.out]
          clear hW W
          go_wp2_with fail
          refine (isTag_any x.tag _ z1).mono ?_
          rintro e W ⟨rfl, hW⟩
          rw [hW, HC1.out]
          clear hW W
          go_wp2_with fail
          refine (isText_any x.query _ z2).mono ?_
          rintro e W ⟨rfl, hW⟩
          rw [hW, HC2.out]
          clear hW W
          go_wp2_with fail
          refine (isText_any x.pointer _ z3).mono ?_
          rintro e W ⟨rfl, hW⟩
          rw [hW, HC3.out]
          clear hW W
          go_wp2_with fail
          go_ret
          exact ⟨ret_bool HX.out.symm, HB.out⟩
        | true =>
          have HX : Hid (okWn x = true) := by unfold okWn; simp only [hc0, hc1, hc2, hc3]; rfl
          have HC0 := hide hc0
          have HC1 := hide hc1
          have HC2 := hide hc2
          have HC3 := hide hc3
          clear hc0 hc1 hc2 hc3
          go_enter Tryd.func21, Tryd.ntmps21
          go_wp2_with fail
          refine (isClient_any x.client _).mono ?_
          rintro e W ⟨rfl, hW⟩
          rw [hW, HC0.out]
          clear hW W
          go_wp2_with fail
          refine (isTag_any x.tag _ z1).mono ?_
          rintro e W ⟨rfl, hW⟩
          rw [hW, HC1.out]
          clear hW W
          go_wp2_with fail
          refine (isText_any x.query _ z2).mono ?_
          rintro e W ⟨rfl, hW⟩
          rw [hW, HC2.out]
          clear hW W
          go_wp2_with fail
          refine (isText_any x.pointer _ z3).mono ?_
          rintro e W ⟨rfl, hW⟩
          rw [hW, HC3.out]
          clear hW W
          go_wp2_with fail
          go_ret
          exact ⟨ret_bool HX.out.symm, HB.out⟩
set_option maxHeartbeats 1000000 in
theorem nowS_any (n : Int) (w : World) : Calls Tryd.prog 26 #[.int .i64 n] w fun e w' => e = .returned (.bool (nowB n)) ∧ w' = w := by
  by_cases h1 : 0 ≤ n
  · by_cases h2 : n ≤ 900000000
    · have HE : Hid (nowB n = true) := decide_eq_true ⟨h1, h2⟩
      go_enter Tryd.func26, Tryd.ntmps26
      go_wp2_with fail
      go_ret
      exact ⟨ret_bool HE.out.symm, rfl⟩
    · have HE : Hid (nowB n = false) := decide_eq_false (by omega)
      go_enter Tryd.func26, Tryd.ntmps26
      go_wp2_with fail
      go_ret
      exact ⟨ret_bool HE.out.symm, rfl⟩
  · have HE : Hid (nowB n = false) := decide_eq_false (by omega)
    go_enter Tryd.func26, Tryd.ntmps26
    go_wp2_with fail
    go_ret
    exact ⟨ret_bool HE.out.symm, rfl⟩
set_option maxHeartbeats 4000000 in
theorem zeroS_any (x : Cn) (w : World) (hz : cnZ x) (hbz : x.busy = false) : Calls Tryd.prog 45 #[cnV x] w fun e w' => e = .returned (.bool (zeroB x)) ∧ Below w.heap.size w w' := by
  obtain ⟨busy, control, ⟨client, tag, query, pointer⟩, due⟩ := x
  simp only at hbz
  subst hbz
  have hz1 := hz.1
  simp only at hz1
  clear hz
  show Calls Tryd.prog 45 #[.agg #[.bool false, .string control, .int .i64 client, .string tag, .string query, .string pointer, .int .i64 due]] w _
  have HB := hide ((Below.refl w.heap.size w).alloc (Nat.le_refl _) (Obj.cells #[.bool false, .string control, .int .i64 client, .string tag, .string query, .string pointer, .int .i64 due] 37))
  by_cases h_control : control = ⟨#[]⟩
  rotate_left
  · have HX : Hid (zeroB ⟨false, control, ⟨client, tag, query, pointer⟩, due⟩ = false) := decide_eq_false (fun h => h_control h.1)
    have h0 : ¬ (control.size : Int) = 0 := fun h => h_control (size_zero (by omega))
    have h0b : ¬ control.toList = [] := fun h => h_control (list_nil h)
    go_enter Tryd.func45, Tryd.ntmps45
    go_wp2_with fail
    go_ret
    exact ⟨ret_bool HX.out.symm, HB.out⟩
  by_cases h_due : due = 0
  rotate_left
  · have HX : Hid (zeroB ⟨false, control, ⟨client, tag, query, pointer⟩, due⟩ = false) := decide_eq_false (fun h => h_due h.2.1)
    subst h_control
    go_enter Tryd.func45, Tryd.ntmps45
    go_wp2_with fail
    go_ret
    exact ⟨ret_bool HX.out.symm, HB.out⟩
  by_cases h_client : client = 0
  rotate_left
  · have HX : Hid (zeroB ⟨false, control, ⟨client, tag, query, pointer⟩, due⟩ = false) := decide_eq_false (fun h => h_client h.2.2.1)
    subst h_control
    subst h_due
    go_enter Tryd.func45, Tryd.ntmps45
    go_wp2_with fail
    go_ret
    exact ⟨ret_bool HX.out.symm, HB.out⟩
  by_cases h_tag : tag = ⟨#[]⟩
  rotate_left
  · have HX : Hid (zeroB ⟨false, control, ⟨client, tag, query, pointer⟩, due⟩ = false) := decide_eq_false (fun h => h_tag h.2.2.2.1)
    have h0 : ¬ (tag.size : Int) = 0 := fun h => h_tag (size_zero (by omega))
    have h0b : ¬ tag.toList = [] := fun h => h_tag (list_nil h)
    subst h_control
    subst h_due
    subst h_client
    go_enter Tryd.func45, Tryd.ntmps45
    go_wp2_with fail
    go_ret
    exact ⟨ret_bool HX.out.symm, HB.out⟩
  by_cases h_query : query = ⟨#[]⟩
  rotate_left
  · have HX : Hid (zeroB ⟨false, control, ⟨client, tag, query, pointer⟩, due⟩ = false) := decide_eq_false (fun h => h_query h.2.2.2.2.1)
    have h0 : ¬ (query.size : Int) = 0 := fun h => h_query (size_zero (by omega))
    have h0b : ¬ query.toList = [] := fun h => h_query (list_nil h)
    subst h_control
    subst h_due
    subst h_client
    subst h_tag
    go_enter Tryd.func45, Tryd.ntmps45
    go_wp2_with fail
    go_ret
    exact ⟨ret_bool HX.out.symm, HB.out⟩
  by_cases h_pointer : pointer = ⟨#[]⟩
  rotate_left
  · have HX : Hid (zeroB ⟨false, control, ⟨client, tag, query, pointer⟩, due⟩ = false) := decide_eq_false (fun h => h_pointer h.2.2.2.2.2)
    have h0 : ¬ (pointer.size : Int) = 0 := fun h => h_pointer (size_zero (by omega))
    have h0b : ¬ pointer.toList = [] := fun h => h_pointer (list_nil h)
    subst h_control
    subst h_due
    subst h_client
    subst h_tag
    subst h_query
    go_enter Tryd.func45, Tryd.ntmps45
    go_wp2_with fail
    go_ret
    exact ⟨ret_bool HX.out.symm, HB.out⟩
  have HX : Hid (zeroB ⟨false, control, ⟨client, tag, query, pointer⟩, due⟩ = true) := decide_eq_true ⟨h_control, h_due, h_client, h_tag, h_query, h_pointer⟩
  subst h_control
  subst h_due
  subst h_client
  subst h_tag
  subst h_query
  subst h_pointer
  go_enter Tryd.func45, Tryd.ntmps45
  go_wp2_with fail
  go_ret
  exact ⟨ret_bool HX.out.symm, HB.out⟩
set_option maxHeartbeats 1000000 in
theorem isFree_any (x : Cn) (w : World) : Calls Tryd.prog 53 #[cnV x] w fun e w' => e = .returned (.bool (!x.busy)) ∧ Below w.heap.size w w' := by
  obtain ⟨busy, control, ⟨client, tag, query, pointer⟩, due⟩ := x
  show Calls Tryd.prog 53 #[.agg #[.bool busy, .string control, .int .i64 client, .string tag, .string query, .string pointer, .int .i64 due]] w _
  have HB := hide ((Below.refl w.heap.size w).alloc (Nat.le_refl _) (Obj.cells #[.bool busy, .string control, .int .i64 client, .string tag, .string query, .string pointer, .int .i64 due] 37))
  go_enter Tryd.func53, Tryd.ntmps53
  go_wp2_with fail
  go_ret
  exact ⟨rfl, HB.out⟩
set_option maxHeartbeats 4000000 in
theorem connB_any (x : Cn) (w : World) (hz : cnZ x) (hbz : x.busy = true) : Calls Tryd.prog 51 #[cnV x] w fun e w' => e = .returned (.bool (okCn x)) ∧ Below w.heap.size w w' := by
  obtain ⟨busy, control, ⟨client, tag, query, pointer⟩, due⟩ := x
  simp only at hbz
  subst hbz
  obtain ⟨z1, zw⟩ := hz
  simp only at z1 zw
  have HFR := hide (isFree_any ⟨true, control, ⟨client, tag, query, pointer⟩, due⟩)
  have HOK : Hid (okCn ⟨true, control, ⟨client, tag, query, pointer⟩, due⟩ = (controlB control && (okWn ⟨client, tag, query, pointer⟩ && decide (0 ≤ due ∧ due ≤ 1000000000)))) := rfl
  have HWN := hide (fun W => wantI_any ⟨client, tag, query, pointer⟩ W zw)
  unfold cnV at HFR
  unfold wnV at HWN
  show Calls Tryd.prog 51 #[.agg #[.bool true, .string control, .int .i64 client, .string tag, .string query, .string pointer, .int .i64 due]] w _
  obtain ⟨w1, hw1⟩ : ∃ w1, w.alloc (Obj.cells #[.bool true, .string control, .int .i64 client, .string tag, .string query, .string pointer, .int .i64 due] 37) = w1 := ⟨_, rfl⟩
  have HB : Hid (Below w.heap.size w w1) := by rw [← hw1]; exact (Below.refl w.heap.size w).alloc (Nat.le_refl _) _
  have HX : Hid (Box w1 w.heap.size 37 #[.bool true, .string control, .int .i64 client, .string tag, .string query, .string pointer, .int .i64 due]) := by rw [← hw1]; exact Box.new _ _ _
  have KS : Hid (∀ W, Below w1.heap.size w1 W → W.cell? ⟨w.heap.size, 1, none⟩ = some (.string control) ∧ W.cell? ⟨w.heap.size, 2, none⟩ = some (.int .i64 client) ∧ W.cell? ⟨w.heap.size, 3, none⟩ = some (.string tag) ∧ W.cell? ⟨w.heap.size, 4, none⟩ = some (.string query) ∧ W.cell? ⟨w.heap.size, 5, none⟩ = some (.string pointer) ∧ W.cell? ⟨w.heap.size, 6, none⟩ = some (.int .i64 due)) := fun W hW => by
    have h := HX.out.below hW
    exact ⟨h.cell 1 (by simp), h.cell 2 (by simp), h.cell 3 (by simp), h.cell 4 (by simp), h.cell 5 (by simp), h.cell 6 (by simp)⟩
  have g0 : w1.cell? ⟨w.heap.size, 0, none⟩ = some (.bool true) := HX.out.cell 0 (by simp)
  obtain ⟨g1, g2, g3, g4, g5, g6⟩ := KS.out w1 (Below.refl _ _)
  clear zw
  cases hc : controlB control with
  | false =>
    have HR : Hid (okCn ⟨true, control, ⟨client, tag, query, pointer⟩, due⟩ = false) := by rw [HOK.out, hc]; rfl
    have HC := hide hc
    clear hc
    go_enter Tryd.func51, Tryd.ntmps51
    go_wp2_with fail
    refine (HFR.out _).mono ?_
    rintro e W ⟨rfl, hbW⟩
    obtain ⟨g1, g2, g3, g4, g5, g6⟩ := KS.out W hbW
    have HBW := hide (bjoin hbW HB.out)
    clear hbW
    go_wp2_with fail
    refine (isControl_any control _ z1).mono ?_
    rintro e W2 ⟨rfl, hW⟩
    rw [hW, HC.out]
    clear hW W2
    go_wp2_with fail
    go_ret
    exact ⟨ret_bool HR.out.symm, HBW.out⟩
  | true =>
    have HC := hide hc
    cases hw : okWn ⟨client, tag, query, pointer⟩ with
    | false =>
      have HR : Hid (okCn ⟨true, control, ⟨client, tag, query, pointer⟩, due⟩ = false) := by rw [HOK.out, hc, hw]; rfl
      have HW := hide hw
      clear hc hw
      go_enter Tryd.func51, Tryd.ntmps51
      go_wp2_with fail
      refine (HFR.out _).mono ?_
      rintro e W ⟨rfl, hbW⟩
      obtain ⟨g1, g2, g3, g4, g5, g6⟩ := KS.out W hbW
      have HBW := hide (bjoin hbW HB.out)
      clear hbW
      go_wp2_with fail
      refine (isControl_any control _ z1).mono ?_
      rintro e W2 ⟨rfl, hW⟩
      rw [hW, HC.out]
      clear hW W2
      go_wp2_with fail
      refine (HWN.out _).mono ?_
      rintro e W3 ⟨rfl, hb3⟩
      rw [HW.out]
      have HB3 := hide (bjoin hb3 HBW.out)
      clear hb3
      go_wp2_with fail
      go_ret
      exact ⟨ret_bool HR.out.symm, HB3.out⟩
    | true =>
      have HW := hide hw
      have HR : Hid (okCn ⟨true, control, ⟨client, tag, query, pointer⟩, due⟩ = decide (0 ≤ due ∧ due ≤ 1000000000)) := by rw [HOK.out, hc, hw]; rfl
      clear hc hw
      have hcase : (0 ≤ due ∧ due ≤ 1000000000) ∨ ¬ 0 ≤ due ∨ (0 ≤ due ∧ ¬ due ≤ 1000000000) := by omega
      rcases hcase with ⟨d1, d2⟩ | d1 | ⟨d1, d2⟩
      all_goals
        go_enter Tryd.func51, Tryd.ntmps51
        go_wp2_with fail
        refine (HFR.out _).mono ?_
        rintro e W ⟨rfl, hbW⟩
        obtain ⟨g1, g2, g3, g4, g5, g6⟩ := KS.out W hbW
        have HBW := hide (bjoin hbW HB.out)
        have KSW : Hid (∀ X, Below W.heap.size W X → X.cell? ⟨w.heap.size, 6, none⟩ = some (.int .i64 due)) := fun X hX => (KS.out X (bjoin hX hbW)).2.2.2.2.2
        clear hbW
        go_wp2_with fail
        refine (isControl_any control _ z1).mono ?_
        rintro e W2 ⟨rfl, hW⟩
        rw [hW, HC.out]
        clear hW W2
        go_wp2_with fail
        refine (HWN.out _).mono ?_
        rintro e W3 ⟨rfl, hb3⟩
        rw [HW.out]
        have k6 := KSW.out W3 hb3
        have HB3 := hide (bjoin hb3 HBW.out)
        clear hb3
        go_wp2_with fail
        go_ret
        refine ⟨ret_bool ?_, HB3.out⟩
        rw [HR.out]
        symm
        first | (rw [decide_eq_true_eq]; omega) | (rw [decide_eq_false_iff_not]; omega) | simp [d1]
set_option maxHeartbeats 4000000 in
theorem connZ_any (x : Cn) (w : World) (hz : cnZ x) (hbz : x.busy = false) : Calls Tryd.prog 51 #[cnV x] w fun e w' => e = .returned (.bool (zeroB x)) ∧ Below w.heap.size w w' := by
  obtain ⟨busy, control, ⟨client, tag, query, pointer⟩, due⟩ := x
  simp only at hbz
  subst hbz
  have hz1 := hz.1
  simp only at hz1
  clear hz
  have HFR := hide (isFree_any ⟨false, control, ⟨client, tag, query, pointer⟩, due⟩)
  unfold cnV at HFR
  show Calls Tryd.prog 51 #[.agg #[.bool false, .string control, .int .i64 client, .string tag, .string query, .string pointer, .int .i64 due]] w _
  have HB := hide ((Below.refl w.heap.size w).alloc (Nat.le_refl _) (Obj.cells #[.bool false, .string control, .int .i64 client, .string tag, .string query, .string pointer, .int .i64 due] 37))
  by_cases h_control : control = ⟨#[]⟩
  rotate_left
  · have HX : Hid (zeroB ⟨false, control, ⟨client, tag, query, pointer⟩, due⟩ = false) := decide_eq_false (fun h => h_control h.1)
    have h0 : ¬ (control.size : Int) = 0 := fun h => h_control (size_zero (by omega))
    have h0b : ¬ control.toList = [] := fun h => h_control (list_nil h)
    go_enter Tryd.func51, Tryd.ntmps51
    go_wp2_with fail
    refine (HFR.out _).mono ?_
    rintro e W ⟨rfl, hbW⟩
    have HXB := hide ((Box.new w 37 #[.bool false, .string control, .int .i64 client, .string tag, .string query, .string pointer, .int .i64 due]).below hbW)
    have g0 : W.cell? ⟨w.heap.size, 0, none⟩ = some _ := HXB.out.cell 0 (by simp)
    have g1 : W.cell? ⟨w.heap.size, 1, none⟩ = some _ := HXB.out.cell 1 (by simp)
    have g2 : W.cell? ⟨w.heap.size, 2, none⟩ = some _ := HXB.out.cell 2 (by simp)
    have g3 : W.cell? ⟨w.heap.size, 3, none⟩ = some _ := HXB.out.cell 3 (by simp)
    have g4 : W.cell? ⟨w.heap.size, 4, none⟩ = some _ := HXB.out.cell 4 (by simp)
    have g5 : W.cell? ⟨w.heap.size, 5, none⟩ = some _ := HXB.out.cell 5 (by simp)
    have g6 : W.cell? ⟨w.heap.size, 6, none⟩ = some _ := HXB.out.cell 6 (by simp)
    have HB := hide (bjoin hbW HB.out)
    clear hbW
    go_wp2_with fail
    go_ret
    exact ⟨ret_bool HX.out.symm, HB.out⟩
  by_cases h_client : client = 0
  rotate_left
  · have HX : Hid (zeroB ⟨false, control, ⟨client, tag, query, pointer⟩, due⟩ = false) := decide_eq_false (fun h => h_client h.2.2.1)
    subst h_control
    go_enter Tryd.func51, Tryd.ntmps51
    go_wp2_with fail
    refine (HFR.out _).mono ?_
    rintro e W ⟨rfl, hbW⟩
    have HXB := hide ((Box.new w 37 #[.bool false, .string ⟨#[]⟩, .int .i64 client, .string tag, .string query, .string pointer, .int .i64 due]).below hbW)
    have g0 : W.cell? ⟨w.heap.size, 0, none⟩ = some _ := HXB.out.cell 0 (by simp)
    have g1 : W.cell? ⟨w.heap.size, 1, none⟩ = some _ := HXB.out.cell 1 (by simp)
    have g2 : W.cell? ⟨w.heap.size, 2, none⟩ = some _ := HXB.out.cell 2 (by simp)
    have g3 : W.cell? ⟨w.heap.size, 3, none⟩ = some _ := HXB.out.cell 3 (by simp)
    have g4 : W.cell? ⟨w.heap.size, 4, none⟩ = some _ := HXB.out.cell 4 (by simp)
    have g5 : W.cell? ⟨w.heap.size, 5, none⟩ = some _ := HXB.out.cell 5 (by simp)
    have g6 : W.cell? ⟨w.heap.size, 6, none⟩ = some _ := HXB.out.cell 6 (by simp)
    have HB := hide (bjoin hbW HB.out)
    clear hbW
    go_wp2_with fail
    go_ret
    exact ⟨ret_bool HX.out.symm, HB.out⟩
  by_cases h_tag : tag = ⟨#[]⟩
  rotate_left
  · have HX : Hid (zeroB ⟨false, control, ⟨client, tag, query, pointer⟩, due⟩ = false) := decide_eq_false (fun h => h_tag h.2.2.2.1)
    have h0 : ¬ (tag.size : Int) = 0 := fun h => h_tag (size_zero (by omega))
    have h0b : ¬ tag.toList = [] := fun h => h_tag (list_nil h)
    subst h_control
    subst h_client
    go_enter Tryd.func51, Tryd.ntmps51
    go_wp2_with fail
    refine (HFR.out _).mono ?_
    rintro e W ⟨rfl, hbW⟩
    have HXB := hide ((Box.new w 37 #[.bool false, .string ⟨#[]⟩, .int .i64 0, .string tag, .string query, .string pointer, .int .i64 due]).below hbW)
    have g0 : W.cell? ⟨w.heap.size, 0, none⟩ = some _ := HXB.out.cell 0 (by simp)
    have g1 : W.cell? ⟨w.heap.size, 1, none⟩ = some _ := HXB.out.cell 1 (by simp)
    have g2 : W.cell? ⟨w.heap.size, 2, none⟩ = some _ := HXB.out.cell 2 (by simp)
    have g3 : W.cell? ⟨w.heap.size, 3, none⟩ = some _ := HXB.out.cell 3 (by simp)
    have g4 : W.cell? ⟨w.heap.size, 4, none⟩ = some _ := HXB.out.cell 4 (by simp)
    have g5 : W.cell? ⟨w.heap.size, 5, none⟩ = some _ := HXB.out.cell 5 (by simp)
    have g6 : W.cell? ⟨w.heap.size, 6, none⟩ = some _ := HXB.out.cell 6 (by simp)
    have HB := hide (bjoin hbW HB.out)
    clear hbW
    go_wp2_with fail
    go_ret
    exact ⟨ret_bool HX.out.symm, HB.out⟩
  by_cases h_query : query = ⟨#[]⟩
  rotate_left
  · have HX : Hid (zeroB ⟨false, control, ⟨client, tag, query, pointer⟩, due⟩ = false) := decide_eq_false (fun h => h_query h.2.2.2.2.1)
    have h0 : ¬ (query.size : Int) = 0 := fun h => h_query (size_zero (by omega))
    have h0b : ¬ query.toList = [] := fun h => h_query (list_nil h)
    subst h_control
    subst h_client
    subst h_tag
    go_enter Tryd.func51, Tryd.ntmps51
    go_wp2_with fail
    refine (HFR.out _).mono ?_
    rintro e W ⟨rfl, hbW⟩
    have HXB := hide ((Box.new w 37 #[.bool false, .string ⟨#[]⟩, .int .i64 0, .string ⟨#[]⟩, .string query, .string pointer, .int .i64 due]).below hbW)
    have g0 : W.cell? ⟨w.heap.size, 0, none⟩ = some _ := HXB.out.cell 0 (by simp)
    have g1 : W.cell? ⟨w.heap.size, 1, none⟩ = some _ := HXB.out.cell 1 (by simp)
    have g2 : W.cell? ⟨w.heap.size, 2, none⟩ = some _ := HXB.out.cell 2 (by simp)
    have g3 : W.cell? ⟨w.heap.size, 3, none⟩ = some _ := HXB.out.cell 3 (by simp)
    have g4 : W.cell? ⟨w.heap.size, 4, none⟩ = some _ := HXB.out.cell 4 (by simp)
    have g5 : W.cell? ⟨w.heap.size, 5, none⟩ = some _ := HXB.out.cell 5 (by simp)
    have g6 : W.cell? ⟨w.heap.size, 6, none⟩ = some _ := HXB.out.cell 6 (by simp)
    have HB := hide (bjoin hbW HB.out)
    clear hbW
    go_wp2_with fail
    go_ret
    exact ⟨ret_bool HX.out.symm, HB.out⟩
  by_cases h_pointer : pointer = ⟨#[]⟩
  rotate_left
  · have HX : Hid (zeroB ⟨false, control, ⟨client, tag, query, pointer⟩, due⟩ = false) := decide_eq_false (fun h => h_pointer h.2.2.2.2.2)
    have h0 : ¬ (pointer.size : Int) = 0 := fun h => h_pointer (size_zero (by omega))
    have h0b : ¬ pointer.toList = [] := fun h => h_pointer (list_nil h)
    subst h_control
    subst h_client
    subst h_tag
    subst h_query
    go_enter Tryd.func51, Tryd.ntmps51
    go_wp2_with fail
    refine (HFR.out _).mono ?_
    rintro e W ⟨rfl, hbW⟩
    have HXB := hide ((Box.new w 37 #[.bool false, .string ⟨#[]⟩, .int .i64 0, .string ⟨#[]⟩, .string ⟨#[]⟩, .string pointer, .int .i64 due]).below hbW)
    have g0 : W.cell? ⟨w.heap.size, 0, none⟩ = some _ := HXB.out.cell 0 (by simp)
    have g1 : W.cell? ⟨w.heap.size, 1, none⟩ = some _ := HXB.out.cell 1 (by simp)
    have g2 : W.cell? ⟨w.heap.size, 2, none⟩ = some _ := HXB.out.cell 2 (by simp)
    have g3 : W.cell? ⟨w.heap.size, 3, none⟩ = some _ := HXB.out.cell 3 (by simp)
    have g4 : W.cell? ⟨w.heap.size, 4, none⟩ = some _ := HXB.out.cell 4 (by simp)
    have g5 : W.cell? ⟨w.heap.size, 5, none⟩ = some _ := HXB.out.cell 5 (by simp)
    have g6 : W.cell? ⟨w.heap.size, 6, none⟩ = some _ := HXB.out.cell 6 (by simp)
    have HB := hide (bjoin hbW HB.out)
    clear hbW
    go_wp2_with fail
    go_ret
    exact ⟨ret_bool HX.out.symm, HB.out⟩
  by_cases h_due : due = 0
  rotate_left
  · have HX : Hid (zeroB ⟨false, control, ⟨client, tag, query, pointer⟩, due⟩ = false) := decide_eq_false (fun h => h_due h.2.1)
    subst h_control
    subst h_client
    subst h_tag
    subst h_query
    subst h_pointer
    go_enter Tryd.func51, Tryd.ntmps51
    go_wp2_with fail
    refine (HFR.out _).mono ?_
    rintro e W ⟨rfl, hbW⟩
    have HXB := hide ((Box.new w 37 #[.bool false, .string ⟨#[]⟩, .int .i64 0, .string ⟨#[]⟩, .string ⟨#[]⟩, .string ⟨#[]⟩, .int .i64 due]).below hbW)
    have g0 : W.cell? ⟨w.heap.size, 0, none⟩ = some _ := HXB.out.cell 0 (by simp)
    have g1 : W.cell? ⟨w.heap.size, 1, none⟩ = some _ := HXB.out.cell 1 (by simp)
    have g2 : W.cell? ⟨w.heap.size, 2, none⟩ = some _ := HXB.out.cell 2 (by simp)
    have g3 : W.cell? ⟨w.heap.size, 3, none⟩ = some _ := HXB.out.cell 3 (by simp)
    have g4 : W.cell? ⟨w.heap.size, 4, none⟩ = some _ := HXB.out.cell 4 (by simp)
    have g5 : W.cell? ⟨w.heap.size, 5, none⟩ = some _ := HXB.out.cell 5 (by simp)
    have g6 : W.cell? ⟨w.heap.size, 6, none⟩ = some _ := HXB.out.cell 6 (by simp)
    have HB := hide (bjoin hbW HB.out)
    clear hbW
    go_wp2_with fail
    go_ret
    exact ⟨ret_bool HX.out.symm, HB.out⟩
  have HX : Hid (zeroB ⟨false, control, ⟨client, tag, query, pointer⟩, due⟩ = true) := decide_eq_true ⟨h_control, h_due, h_client, h_tag, h_query, h_pointer⟩
  subst h_control
  subst h_client
  subst h_tag
  subst h_query
  subst h_pointer
  subst h_due
  go_enter Tryd.func51, Tryd.ntmps51
  go_wp2_with fail
  refine (HFR.out _).mono ?_
  rintro e W ⟨rfl, hbW⟩
  have HXB := hide ((Box.new w 37 #[.bool false, .string ⟨#[]⟩, .int .i64 0, .string ⟨#[]⟩, .string ⟨#[]⟩, .string ⟨#[]⟩, .int .i64 0]).below hbW)
  have g0 : W.cell? ⟨w.heap.size, 0, none⟩ = some _ := HXB.out.cell 0 (by simp)
  have g1 : W.cell? ⟨w.heap.size, 1, none⟩ = some _ := HXB.out.cell 1 (by simp)
  have g2 : W.cell? ⟨w.heap.size, 2, none⟩ = some _ := HXB.out.cell 2 (by simp)
  have g3 : W.cell? ⟨w.heap.size, 3, none⟩ = some _ := HXB.out.cell 3 (by simp)
  have g4 : W.cell? ⟨w.heap.size, 4, none⟩ = some _ := HXB.out.cell 4 (by simp)
  have g5 : W.cell? ⟨w.heap.size, 5, none⟩ = some _ := HXB.out.cell 5 (by simp)
  have g6 : W.cell? ⟨w.heap.size, 6, none⟩ = some _ := HXB.out.cell 6 (by simp)
  have HB := hide (bjoin hbW HB.out)
  clear hbW
  go_wp2_with fail
  go_ret
  exact ⟨ret_bool HX.out.symm, HB.out⟩
end Go.Proofs.YtfdefjdogmhinaaDoor.Msg

namespace Go.Proofs.YtfdefjdogmhinaaDoor.Msg
open Go.ChangeShapes Go.WideShapes Go.ChangeAt Go.RowKit
set_option linter.unusedVariables false
set_option linter.unusedSimpArgs false

theorem cns_z {lo : Nat} {w : World} {v : Value} {xs : List Cn} (h : CnsAt lo w v xs) : ∀ i (h : i < xs.length), cnZ xs[i] := fun i hi => by
  obtain ⟨a, c, _, hr⟩ := h.form
  obtain ⟨b, off, _, _, _, hx⟩ := hr i hi
  exact hx.2
theorem wns_z {lo : Nat} {w : World} {v : Value} {xs : List Wn} (h : WnsAt lo w v xs) : ∀ i (h : i < xs.length), wnZ xs[i] := fun i hi => by
  obtain ⟨a, c, _, hr⟩ := h.form
  obtain ⟨b, off, _, _, _, hx⟩ := hr i hi
  exact hx.2
/-- the place of an element -/
theorem at_place {α : Type} {n : Nat} {R : Nat → World → Nat → Nat → α → Prop} {lo : Nat} {w : World} {a : Option Addr} {l c : Nat} {xs : List α} (h : At n R lo w (.slice a l c) xs) {k : Nat} (hk : k < xs.length) :
    ∃ b off, a = some ⟨b, off, none⟩ ∧ b < w.heap.size ∧ R lo w b (off + k * n) xs[k] := by
  obtain ⟨a', c', e, hr⟩ := h.form
  obtain ⟨b, off, e2, _, hlt, hx⟩ := hr k hk
  injection e with e1 _ _
  exact ⟨b, off, e1.trans e2, hlt, hx⟩
/-- a slice's room is not less than its length -/
def CapOk (v : Value) : Prop := ∀ a n c, v = .slice a n c → n ≤ c
theorem take_snoc {α : Type} (xs : List α) (k : Nat) (h : k < xs.length) : xs.take k ++ [xs[k]] = xs.take (k + 1) := by rw [List.take_succ_eq_append_getElem h]

/-- what stands in the three boxes of the copy's loops -/
def CopyW (w : World) (e n : Int) (cv qv v1 v2 : Value) (wx : World) : Prop :=
  Box wx w.heap.size 27 #[.int .i64 e, .int .i64 n, cv, qv] ∧ Box wx (w.heap.size + 1) 27 #[.int .i64 0, .int .i64 0, .slice none 0 0, .slice none 0 0] ∧
    Box wx (w.heap.size + 2) 27 #[.int .i64 e, .int .i64 n, v1, v2] ∧ w.heap.size + 3 ≤ wx.heap.size ∧ Below w.heap.size w wx
theorem CopyW.only {w : World} {e n : Int} {cv qv v1 v2 : Value} {wx wy : World} {bs : List Nat} (h : CopyW w e n cv qv v1 v2 wx) (ho : Only bs wx wy) (hb : ∀ b ∈ bs, w.heap.size + 3 ≤ b) : CopyW w e n cv qv v1 v2 wy := by
  obtain ⟨h1, h2, h3, h4, h5⟩ := h
  exact ⟨h1.only ho fun h => by have := hb _ h; omega, h2.only ho fun h => by have := hb _ h; omega, h3.only ho fun h => by have := hb _ h; omega, by have := ho.size; omega, h5.trans (ho.below (by omega) fun b hb' => by have := hb b hb'; omega)⟩
theorem CopyW.set2 {w : World} {e n : Int} {cv qv v1 v2 : Value} {wx : World} (h : CopyW w e n cv qv v1 v2 wx) (v : Value) : CopyW w e n cv qv v v2 (wx.setCell ⟨w.heap.size + 2, 2, none⟩ v) := by
  obtain ⟨h1, h2, h3, h4, h5⟩ := h
  exact ⟨h1.other (by simp) _, h2.other (by simp) _, h3.set 2 _, by rw [Deep.nblk_setCell]; exact h4, h5.setCell (by simp) _⟩
theorem CopyW.set3 {w : World} {e n : Int} {cv qv v1 v2 : Value} {wx : World} (h : CopyW w e n cv qv v1 v2 wx) (v : Value) : CopyW w e n cv qv v1 v (wx.setCell ⟨w.heap.size + 2, 3, none⟩ v) := by
  obtain ⟨h1, h2, h3, h4, h5⟩ := h
  exact ⟨h1.other (by simp) _, h2.other (by simp) _, h3.set 3 _, by rw [Deep.nblk_setCell]; exact h4, h5.setCell (by simp) _⟩
theorem FB.set {α : Type} {C : α → List Value} {c : Nat} {e : TypeId} {base : Nat} {w : World} {v : Value} {xs : List α} (h : FB C c e base w v xs) {a : Addr} (ha : a.block < base) (u : Value) : FB C c e base (w.setCell a u) v xs :=
  h.keep fun b hb => Deep.blk_setCell_other _ _ _ _ (by have := (h.own b hb).1; omega)

set_option maxRecDepth 100000 in
set_option maxHeartbeats 8000000 in
theorem copy_any (x : Pl) (cv qv : Value) (w : World) {lo : Nat} (hp : PlAt lo w x cv qv) (hn1 : x.conns.length ≤ 100000) (hn2 : x.queue.length ≤ 100000) :
    Calls Tryd.prog 27 #[plV x cv qv] w fun en w' => ∃ cv2 qv2 b1 b2, en = .returned (plV x cv2 qv2) ∧ PlO w.heap.size w' x cv2 qv2 b1 b2 ∧ (FB wnC 4 33 (w.heap.size + 3) w' qv2 x.queue ∧ ∀ d ∈ qv2.ownBlock.toList, d ∉ b1) ∧ Below w.heap.size w w' := by
  obtain ⟨e, n, cs, qs⟩ := x
  obtain ⟨hc, hq⟩ := hp
  simp only at hc hq hn1 hn2
  have HZ1 := hide (cns_z hc)
  have HZ2 := hide (wns_z hq)
  obtain ⟨a1, c1, rfl, _⟩ := hc.form
  obtain ⟨a2, c2, rfl, _⟩ := hq.form
  show Calls Tryd.prog 27 #[.agg #[.int .i64 e, .int .i64 n, .slice a1 cs.length c1, .slice a2 qs.length c2]] w _
  obtain ⟨w1, hw1⟩ : ∃ w1, ((w.alloc (Obj.cells #[.int .i64 e, .int .i64 n, .slice a1 cs.length c1, .slice a2 qs.length c2] 27)).alloc (Obj.cells #[.int .i64 0, .int .i64 0, .slice none 0 0, .slice none 0 0] 27)).alloc (Obj.cells #[.int .i64 e, .int .i64 n, .slice none 0 0, .slice none 0 0] 27) = w1 := ⟨_, rfl⟩
  have HC1 : Hid (CopyW w e n (.slice a1 cs.length c1) (.slice a2 qs.length c2) (.slice none 0 0) (.slice none 0 0) w1) := by
    rw [← hw1]
    refine ⟨((Box.new w _ _).alloc _).alloc _, ?_, ?_, by simp, (((Below.refl w.heap.size w).alloc (Nat.le_refl _) _).alloc (by simp) _).alloc (by simp; omega) _⟩
    · have := (Box.new (w.alloc (Obj.cells #[.int .i64 e, .int .i64 n, .slice a1 cs.length c1, .slice a2 qs.length c2] 27)) 27 #[.int .i64 0, .int .i64 0, .slice none 0 0, .slice none 0 0]).alloc (Obj.cells #[.int .i64 e, .int .i64 n, .slice none 0 0, .slice none 0 0] 27)
      rw [Deep.nblk_alloc] at this
      exact this
    · have := Box.new ((w.alloc (Obj.cells #[.int .i64 e, .int .i64 n, .slice a1 cs.length c1, .slice a2 qs.length c2] 27)).alloc (Obj.cells #[.int .i64 0, .int .i64 0, .slice none 0 0, .slice none 0 0] 27)) 27 #[.int .i64 e, .int .i64 n, .slice none 0 0, .slice none 0 0]
      rw [Deep.nblk_alloc, Deep.nblk_alloc] at this
      exact this
  have HW1 := hide hw1
  have HCV := hide hc
  have HQV := hide hq
  clear hw1 hc hq
  go_enter Tryd.func27, Tryd.ntmps27
  go_wp2_with fail
  rw [HW1.out]
  go_loopg [4] cs.length (fun q i wx => ∃ (k : Nat) (v : Value), k ≤ cs.length ∧ q = cs.length - k ∧ i = .int .i64 k ∧ FB cnC 7 37 (w.heap.size + 3) wx v (cs.take k) ∧ CopyW w e n (.slice a1 cs.length c1) (.slice a2 qs.length c2) v (.slice none 0 0) wx)
  case atStart => exact ⟨0, .slice none 0 0, Nat.zero_le _, rfl, rfl, FB.nil _ _ _ _ _, HC1.out⟩
  case round =>
    obtain ⟨k, v, hk, rfl, rfl, hF, hcw⟩ := hrel
    obtain ⟨av, cap, hfv, _⟩ := hF.form
    have hlk : (cs.take k).length = k := by rw [List.length_take]; omega
    rw [hlk] at hfv
    subst hfv
    have p2 : wr.cell? ⟨w.heap.size, 2, none⟩ = some (.slice a1 cs.length c1) := hcw.1.cell 2 (by simp)
    by_cases hlt : k < cs.length
    · obtain ⟨b, off, rfl, hbl, hel, _⟩ := at_place HCV.out hlt
      obtain ⟨D, hwd⟩ : ∃ D, wr.drew = D := ⟨_, rfl⟩
      have hD : Only [] wr D := by rw [← hwd]; exact Only.of_below (Below.refl _ _).drew
      have hcD := hcw.only hD (by simp)
      have hFD : FB cnC 7 37 (w.heap.size + 3) D (.slice av k cap) (cs.take k) := hF.only hD (by simp)
      obtain ⟨v', w', hr, hF', hO, hat⟩ := app1 Tryd.underlying24 info_Conn rfl (by decide) cnC_len cnC_one hFD 24 cs[k] hcD.2.2.2.1 (by rw [hlk]; omega) (by omega)
      have hc' := hcD.only hO fun d hd => (hFD.own d hd).1
      rw [take_snoc cs k hlt] at hF'
      have hown : ∀ j (hj : j < 7), D.cell? ⟨b, off + k * 7 + j, none⟩ = some ((cnC cs[k])[j]'(by rw [cnC_len]; exact hj)) := fun j hj => by
        rw [hcD.2.2.2.2.cell (p := ⟨b, off + k * 7 + j, none⟩) hbl]
        exact hel j (by rw [cnC_len]; exact hj)
      obtain ⟨x, hx⟩ : ∃ x, cs[k] = x := ⟨_, rfl⟩
      rw [hx] at hr hown
      have g0 : D.cell? ⟨b, off + k * 7, none⟩ = some (.bool x.busy) := hown 0 (by omega)
      have g1 : D.cell? ⟨b, off + k * 7 + 1, none⟩ = some (.string x.control) := hown 1 (by omega)
      have g2 : D.cell? ⟨b, off + k * 7 + 2, none⟩ = some (.int .i64 x.want.client) := hown 2 (by omega)
      have g3 : D.cell? ⟨b, off + k * 7 + 3, none⟩ = some (.string x.want.tag) := hown 3 (by omega)
      have g4 : D.cell? ⟨b, off + k * 7 + 4, none⟩ = some (.string x.want.query) := hown 4 (by omega)
      have g5 : D.cell? ⟨b, off + k * 7 + 5, none⟩ = some (.string x.want.pointer) := hown 5 (by omega)
      have g6 : D.cell? ⟨b, off + k * 7 + 6, none⟩ = some (.int .i64 x.due) := hown 6 (by omega)
      have q2 : D.cell? ⟨w.heap.size, 2, none⟩ = some (.slice (some ⟨b, off, none⟩) cs.length c1) := hcD.1.cell 2 (by simp)
      have o2 : D.cell? ⟨w.heap.size + 1 + 1, 2, none⟩ = some (.slice av k cap) := hcD.2.2.1.cell 2 (by simp)
      have d2 : w'.cell? ⟨w.heap.size + 1 + 1, 2, none⟩ = some (.slice av k cap) := hc'.2.2.1.cell 2 (by simp)
      have f2 : w'.frozen? ⟨w.heap.size + 1 + 1, 2, none⟩ = false := hc'.2.2.1.frozen 2
      have l0 : w.heap.size < D.heap.size := hcD.1.lt
      have l2 : w.heap.size + 1 + 1 < D.heap.size := hcD.2.2.1.lt
      have lb : b < D.heap.size := by have := hcD.2.2.2.2.size; omega
      have HR : Hid (FB cnC 7 37 (w.heap.size + 3) (w'.setCell ⟨w.heap.size + 2, 2, none⟩ v') v' (cs.take (k + 1)) ∧ CopyW w e n (.slice (some ⟨b, off, none⟩) cs.length c1) (.slice a2 qs.length c2) v' (.slice none 0 0) (w'.setCell ⟨w.heap.size + 2, 2, none⟩ v')) := ⟨hF'.set (by simp) _, hc'.set2 _⟩
      obtain ⟨a', cap', hfv, _⟩ := hF'.form
      rw [show (cs.take (k + 1)).length = k + 1 by rw [List.length_take]; omega] at hfv
      subst hfv
      have hi : (k : Int) < (cs.length : Int) := by omega
      have hi0 : (0 : Int) ≤ (k : Int) := by omega
      have hr2 : (Builtin.append_ #[24, 24] 24 #[.slice av k cap, .slice (some ⟨D.heap.size, 0, none⟩) 1 1]).run Tryd.prog (D.alloc (.cells #[.bool x.busy, .string x.control, .int .i64 x.want.client, .string x.want.tag, .string x.want.query, .string x.want.pointer, .int .i64 x.due] 37)) = .ok (.slice a' (k + 1) cap') w' := hr
      clear hF hcw hFD hcD hF' hO hat hel hown hc' hD hr hx
      go_wp2_with fail
      go_region_law (refine step_app rfl _ _ 24 rfl hr2 (by first | rfl | simp [Act.eval, Act.put]) (by first | rfl | simp [Act.eval, Act.put]) ?_)
      all_goals
        go_wp2_with fail
        go_roundg (cs.length - (k + 1))
        case measure => omega
        case rel => exact ⟨k + 1, _, by omega, rfl, by go_num, HR.out.1, HR.out.2⟩
    · obtain rfl : k = cs.length := by omega
      rw [List.take_length] at hF
      have HF := hide hF
      have HC := hide hcw
      clear hF hcw hlk
      go_wp2_with fail
      go_loopg [5] qs.length (fun q i wx => ∃ (k : Nat) (v : Value), k ≤ qs.length ∧ q = qs.length - k ∧ i = .int .i64 k ∧ FB wnC 4 33 (w.heap.size + 3) wx v (qs.take k) ∧ FB cnC 7 37 (w.heap.size + 3) wx (.slice av cs.length cap) cs ∧ (∀ d ∈ v.ownBlock.toList, d ∉ (Value.slice av cs.length cap).ownBlock.toList) ∧ CopyW w e n (.slice a1 cs.length c1) (.slice a2 qs.length c2) (.slice av cs.length cap) v wx)
      case atStart => exact ⟨0, .slice none 0 0, Nat.zero_le _, rfl, rfl, FB.nil _ _ _ _ _, HF.out, by simp [Value.ownBlock], HC.out⟩
      case round =>
        obtain ⟨k, v, hk, rfl, rfl, hF, hFC, hdis, hcw⟩ := hrel
        obtain ⟨aw, cap2, hfv, hcap2, _⟩ := hF.form
        have hlk : (qs.take k).length = k := by rw [List.length_take]; omega
        rw [hlk] at hfv
        subst hfv
        have p3 : wr.cell? ⟨w.heap.size, 3, none⟩ = some (.slice a2 qs.length c2) := hcw.1.cell 3 (by simp)
        by_cases hlt : k < qs.length
        · obtain ⟨b, off, rfl, hbl, hel, _⟩ := at_place HQV.out hlt
          obtain ⟨D, hwd⟩ : ∃ D, wr.drew = D := ⟨_, rfl⟩
          have hD : Only [] wr D := by rw [← hwd]; exact Only.of_below (Below.refl _ _).drew
          have hcD := hcw.only hD (by simp)
          have hFD : FB wnC 4 33 (w.heap.size + 3) D (.slice aw k cap2) (qs.take k) := hF.only hD (by simp)
          have hFCD : FB cnC 7 37 (w.heap.size + 3) D (.slice av cs.length cap) cs := hFC.only hD (by simp)
          obtain ⟨v', w', hr, hF', hO, hat⟩ := app1 Tryd.underlying25 info_Want rfl (by decide) wnC_len wnC_one hFD 25 qs[k] hcD.2.2.2.1 (by rw [hlk]; omega) (by omega)
          have hc' := hcD.only hO fun d hd => (hFD.own d hd).1
          have hFC' := hFCD.only hO fun d hd h => hdis d h hd
          have hdis' : ∀ d ∈ v'.ownBlock.toList, d ∉ (Value.slice av cs.length cap).ownBlock.toList := fun d hd h => by
            rcases hat with hat | ⟨g, hat, hg⟩
            · rw [hat] at hd; exact hdis d hd h
            · rw [hat] at hd; simp at hd; subst hd; have := (hFCD.own _ h).2; omega
          rw [take_snoc qs k hlt] at hF'
          have hown : ∀ j (hj : j < 4), D.cell? ⟨b, off + k * 4 + j, none⟩ = some ((wnC qs[k])[j]'(by rw [wnC_len]; exact hj)) := fun j hj => by
            rw [hcD.2.2.2.2.cell (p := ⟨b, off + k * 4 + j, none⟩) hbl]
            exact hel j (by rw [wnC_len]; exact hj)
          obtain ⟨x, hx⟩ : ∃ x, qs[k] = x := ⟨_, rfl⟩
          rw [hx] at hr hown
          have g0 : D.cell? ⟨b, off + k * 4, none⟩ = some (.int .i64 x.client) := hown 0 (by omega)
          have g1 : D.cell? ⟨b, off + k * 4 + 1, none⟩ = some (.string x.tag) := hown 1 (by omega)
          have g2 : D.cell? ⟨b, off + k * 4 + 2, none⟩ = some (.string x.query) := hown 2 (by omega)
          have g3 : D.cell? ⟨b, off + k * 4 + 3, none⟩ = some (.string x.pointer) := hown 3 (by omega)
          have q3 : D.cell? ⟨w.heap.size, 3, none⟩ = some (.slice (some ⟨b, off, none⟩) qs.length c2) := hcD.1.cell 3 (by simp)
          have o3 : D.cell? ⟨w.heap.size + 1 + 1, 3, none⟩ = some (.slice aw k cap2) := hcD.2.2.1.cell 3 (by simp)
          have d3 : w'.cell? ⟨w.heap.size + 1 + 1, 3, none⟩ = some (.slice aw k cap2) := hc'.2.2.1.cell 3 (by simp)
          have f3 : w'.frozen? ⟨w.heap.size + 1 + 1, 3, none⟩ = false := hc'.2.2.1.frozen 3
          have l0 : w.heap.size < D.heap.size := hcD.1.lt
          have l2 : w.heap.size + 1 + 1 < D.heap.size := hcD.2.2.1.lt
          have lb : b < D.heap.size := by have := hcD.2.2.2.2.size; omega
          have HR : Hid (FB wnC 4 33 (w.heap.size + 3) (w'.setCell ⟨w.heap.size + 2, 3, none⟩ v') v' (qs.take (k + 1)) ∧ FB cnC 7 37 (w.heap.size + 3) (w'.setCell ⟨w.heap.size + 2, 3, none⟩ v') (.slice av cs.length cap) cs ∧ CopyW w e n (.slice a1 cs.length c1) (.slice (some ⟨b, off, none⟩) qs.length c2) (.slice av cs.length cap) v' (w'.setCell ⟨w.heap.size + 2, 3, none⟩ v')) := ⟨hF'.set (by simp) _, hFC'.set (by simp) _, hc'.set3 _⟩
          have HDIS := hide hdis'
          obtain ⟨a', cap', hfv, _⟩ := hF'.form
          rw [show (qs.take (k + 1)).length = k + 1 by rw [List.length_take]; omega] at hfv
          subst hfv
          have hi : (k : Int) < (qs.length : Int) := by omega
          have hi0 : (0 : Int) ≤ (k : Int) := by omega
          have hr2 : (Builtin.append_ #[25, 25] 25 #[.slice aw k cap2, .slice (some ⟨D.heap.size, 0, none⟩) 1 1]).run Tryd.prog (D.alloc (.cells #[.int .i64 x.client, .string x.tag, .string x.query, .string x.pointer] 33)) = .ok (.slice a' (k + 1) cap') w' := hr
          clear hF hcw hFD hcD hF' hO hat hel hown hc' hD hr hx hFC hFCD hFC' hdis hdis'
          go_wp2_with fail
          go_region_law (refine step_app rfl _ _ 25 rfl hr2 (by first | rfl | simp [Act.eval, Act.put]) (by first | rfl | simp [Act.eval, Act.put]) ?_)
          all_goals
            go_wp2_with fail
            go_roundg (qs.length - (k + 1))
            case measure => omega
            case rel => exact ⟨k + 1, _, by omega, rfl, by go_num, HR.out.1, HR.out.2.1, HDIS.out, HR.out.2.2⟩
        · obtain rfl : k = qs.length := by omega
          rw [List.take_length] at hF
          have c0 : wr.cell? ⟨w.heap.size + 1 + 1, 0, none⟩ = some (.int .i64 e) := hcw.2.2.1.cell 0 (by simp)
          have c1' : wr.cell? ⟨w.heap.size + 1 + 1, 1, none⟩ = some (.int .i64 n) := hcw.2.2.1.cell 1 (by simp)
          have c2' : wr.cell? ⟨w.heap.size + 1 + 1, 2, none⟩ = some (.slice av cs.length cap) := hcw.2.2.1.cell 2 (by simp)
          have c3 : wr.cell? ⟨w.heap.size + 1 + 1, 3, none⟩ = some (.slice aw qs.length cap2) := hcw.2.2.1.cell 3 (by simp)
          have e0 : wr.cell? ⟨w.heap.size + 1, 0, none⟩ = some (.int .i64 0) := hcw.2.1.cell 0 (by simp)
          have e1 : wr.cell? ⟨w.heap.size + 1, 1, none⟩ = some (.int .i64 0) := hcw.2.1.cell 1 (by simp)
          have e2 : wr.cell? ⟨w.heap.size + 1, 2, none⟩ = some (.slice none 0 0) := hcw.2.1.cell 2 (by simp)
          have e3 : wr.cell? ⟨w.heap.size + 1, 3, none⟩ = some (.slice none 0 0) := hcw.2.1.cell 3 (by simp)
          have f0 := hcw.2.1.frozen 0
          have f1 := hcw.2.1.frozen 1
          have f2 := hcw.2.1.frozen 2
          have f3 := hcw.2.1.frozen 3
          have hz : w.heap.size + 1 < wr.heap.size := hcw.2.1.lt
          have HR : Hid (∀ x0 x1 x2 x3, ∃ b1 b2, PlO w.heap.size ((((wr.setCell ⟨w.heap.size + 1, 0, none⟩ x0).setCell ⟨w.heap.size + 1, 1, none⟩ x1).setCell ⟨w.heap.size + 1, 2, none⟩ x2).setCell ⟨w.heap.size + 1, 3, none⟩ x3) ⟨e, n, cs, qs⟩ (.slice av cs.length cap) (.slice aw qs.length cap2) b1 b2 ∧ (∀ d ∈ (Value.slice aw qs.length cap2).ownBlock.toList, d ∉ b1) ∧ Below w.heap.size w ((((wr.setCell ⟨w.heap.size + 1, 0, none⟩ x0).setCell ⟨w.heap.size + 1, 1, none⟩ x1).setCell ⟨w.heap.size + 1, 2, none⟩ x2).setCell ⟨w.heap.size + 1, 3, none⟩ x3)) := fun x0 x1 x2 x3 => by
            obtain ⟨b1, r1, r2, _⟩ := FO.of_own cnC_len ((((hFC.set (a := ⟨w.heap.size + 1, 0, none⟩) (by simp) x0).set (a := ⟨w.heap.size + 1, 1, none⟩) (by simp) x1).set (a := ⟨w.heap.size + 1, 2, none⟩) (by simp) x2).set (a := ⟨w.heap.size + 1, 3, none⟩) (by simp) x3) (by omega)
            obtain ⟨b2, s1, s2, _⟩ := FO.of_own wnC_len ((((hF.set (a := ⟨w.heap.size + 1, 0, none⟩) (by simp) x0).set (a := ⟨w.heap.size + 1, 1, none⟩) (by simp) x1).set (a := ⟨w.heap.size + 1, 2, none⟩) (by simp) x2).set (a := ⟨w.heap.size + 1, 3, none⟩) (by simp) x3) (by omega)
            refine ⟨b1, b2, ⟨r1, s1, fun d hd hd2 => ?_, fun d hd => by have := (r2 d hd).1; omega, fun d hd => by have := (s2 d hd).1; omega, HZ1.out, HZ2.out⟩, fun d hd hd2 => hdis d hd (by rw [(r2 d hd2).2]; simp), (((hcw.2.2.2.2.setCell (by simp) _).setCell (by simp) _).setCell (by simp) _).setCell (by simp) _⟩
            exact hdis d (by rw [(s2 d hd2).2]; simp) (by rw [(r2 d hd).2]; simp)
          have HCAP : Hid (∀ x0 x1 x2 x3, FB wnC 4 33 (w.heap.size + 3) ((((wr.setCell ⟨w.heap.size + 1, 0, none⟩ x0).setCell ⟨w.heap.size + 1, 1, none⟩ x1).setCell ⟨w.heap.size + 1, 2, none⟩ x2).setCell ⟨w.heap.size + 1, 3, none⟩ x3) (.slice aw qs.length cap2) qs) := fun x0 x1 x2 x3 =>
            (((hF.set (a := ⟨w.heap.size + 1, 0, none⟩) (by simp) x0).set (a := ⟨w.heap.size + 1, 1, none⟩) (by simp) x1).set (a := ⟨w.heap.size + 1, 2, none⟩) (by simp) x2).set (a := ⟨w.heap.size + 1, 3, none⟩) (by simp) x3
          clear hF hFC hdis hcw
          go_wp2_with fail
          obtain ⟨b1, b2, hp, hdd, hb⟩ := HR.out (.int .i64 e) (.int .i64 n) (.slice av cs.length cap) (.slice aw qs.length cap2)
          exact bodyPost_ret (v := .agg #[.int .i64 e, .int .i64 n, .slice av cs.length cap, .slice aw qs.length cap2]) (by simp [results, Tryd.results27, go_sem, e0, e1, e2, e3, hz]) rfl ⟨_, _, b1, b2, rfl, hp, ⟨HCAP.out _ _ _ _, hdd⟩, hb⟩
end Go.Proofs.YtfdefjdogmhinaaDoor.Msg
