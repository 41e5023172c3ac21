import Derived.Test.YtfdefjdogmhinaaDoorAskPurewithDeskRel
import Derived.Test.YtfdefjdogmhinaaDoorDeskClonewithPoolOkI
import Derived.Test.YtfdefjdogmhinaaDoorDeskwithDeskServe
namespace Go.Proofs.YtfdefjdogmhinaaDoor.Msg
open Go.ChangeShapes Go.WideShapes Go.ChangeAt Go.RowKit
set_option linter.unusedVariables false
set_option linter.unusedSimpArgs false

def expB (now : Int) (c : Cn) : Bool := c.busy && decide (c.due ≤ now)
def expC (now : Int) (c : Cn) : Cn := if expB now c then cn0 else c
def expW (now : Int) (cs : List Cn) : List Wn := (cs.filter (expB now)).map (·.want)
def expGo (now : Int) : Nat → List Cn → List Nat
  | _, [] => []
  | i, c :: cs => if expB now c then i :: expGo now (i + 1) cs else expGo now (i + 1) cs
theorem expGo_snoc (now : Int) : ∀ (i : Nat) (cs : List Cn) (c : Cn), expGo now i (cs ++ [c]) = expGo now i cs ++ (if expB now c then [i + cs.length] else [])
  | i, [], c => by simp [expGo]
  | i, d :: cs, c => by
    simp only [List.cons_append, expGo]
    rw [expGo_snoc now (i + 1) cs c]
    have e : i + 1 + cs.length = i + (d :: cs).length := by simp; omega
    rw [e]
    split <;> simp
theorem expGo_lt (now : Int) : ∀ (i : Nat) (cs : List Cn), ∀ k ∈ expGo now i cs, k < i + cs.length
  | i, [], k, h => by simp [expGo] at h
  | i, c :: cs, k, h => by
    simp only [expGo] at h
    split at h
    · rcases List.mem_cons.1 h with rfl | h
      · simp
      · have := expGo_lt now (i + 1) cs k h; simp; omega
    · have := expGo_lt now (i + 1) cs k h; simp; omega
theorem expGo_len (now : Int) : ∀ (i : Nat) (cs : List Cn), (expGo now i cs).length ≤ cs.length
  | _, [] => by simp [expGo]
  | i, c :: cs => by
    simp only [expGo]
    have := expGo_len now (i + 1) cs
    split <;> simp <;> omega
theorem freeGo_exp (now : Int) : ∀ (i : Nat) (cs : List Cn), (∀ c ∈ cs, c.busy = true) → freeGo i (cs.map (expC now)) = expGo now i cs
  | _, [], _ => rfl
  | i, c :: cs, h => by
    have hc : c.busy = true := h c (by simp)
    have ih := freeGo_exp now (i + 1) cs fun d hd => h d (List.mem_cons_of_mem _ hd)
    simp only [List.map_cons, freeGo, expGo]
    rw [ih]
    unfold expC
    cases hb : expB now c with
    | true => simp [cn0]
    | false => simp [hc]
theorem freeGo_busy : ∀ (i : Nat) (cs : List Cn), (∀ c ∈ cs, c.busy = true) → freeGo i cs = []
  | _, [], _ => rfl
  | i, c :: cs, h => by
    simp only [freeGo]
    rw [h c (by simp), if_pos rfl]
    exact freeGo_busy (i + 1) cs fun d hd => h d (List.mem_cons_of_mem _ hd)
/-- the desk when the first k lines have been looked at -/
def expD (now : Int) (s : Ds) (k : Nat) : Ds := { s with conns := (s.conns.take k).map (expC now) ++ s.conns.drop k, free := s.free ++ expGo now 0 (s.conns.take k) }
theorem expD_zero (now : Int) (s : Ds) : expD now s 0 = s := by simp [expD, expGo]
theorem expD_at (now : Int) (s : Ds) {k : Nat} (hk : k < s.conns.length) : ∃ h : k < (expD now s k).conns.length, (expD now s k).conns[k] = s.conns[k] := by
  have hl : ((s.conns.take k).map (expC now)).length = k := by simp; omega
  have h1 : (expD now s k).conns[k]? = s.conns[k]? := by
    simp only [expD]
    rw [List.getElem?_append_right (by omega), hl, Nat.sub_self, List.getElem?_drop, Nat.add_zero]
  have h2 : k < (expD now s k).conns.length := by simp [expD]; omega
  refine ⟨h2, ?_⟩
  rw [List.getElem?_eq_getElem h2, List.getElem?_eq_getElem hk] at h1
  exact Option.some.inj h1
theorem expD_len (now : Int) (s : Ds) (k : Nat) : (expD now s k).conns.length = s.conns.length := by simp [expD]; omega
theorem take_snoc' (xs : List Cn) (k : Nat) (h : k < xs.length) : xs.take (k + 1) = xs.take k ++ [xs[k]] := by rw [List.take_add_one, List.getElem?_eq_getElem h]; rfl
theorem expD_skip (now : Int) (s : Ds) {k : Nat} (hk : k < s.conns.length) (hb : expB now s.conns[k] = false) : expD now s (k + 1) = expD now s k := by
  have e1 : (s.conns.take (k + 1)).map (expC now) ++ s.conns.drop (k + 1) = (s.conns.take k).map (expC now) ++ s.conns.drop k := by
    rw [take_snoc' _ _ hk, List.map_append, List.append_assoc]
    congr 1
    rw [List.drop_eq_getElem_cons hk]
    simp [expC, hb]
  have e2 : expGo now 0 (s.conns.take (k + 1)) = expGo now 0 (s.conns.take k) := by
    rw [take_snoc' _ _ hk, expGo_snoc, hb]
    simp
  unfold expD
  rw [e1, e2]
theorem expD_hit (now : Int) (s : Ds) {k : Nat} (hk : k < s.conns.length) (hb : expB now s.conns[k] = true) : expD now s (k + 1) = relD (expD now s k) k := by
  have hl : ((s.conns.take k).map (expC now)).length = k := by simp; omega
  have e1 : (s.conns.take (k + 1)).map (expC now) ++ s.conns.drop (k + 1) = ((s.conns.take k).map (expC now) ++ s.conns.drop k).set k cn0 := by
    rw [take_snoc' _ _ hk, List.map_append, List.append_assoc, List.set_append_right _ _ (by omega)]
    congr 1
    rw [List.drop_eq_getElem_cons hk, hl, Nat.sub_self]
    simp only [expC, hb, if_true, List.cons_append, List.nil_append, List.map_cons, List.map_nil, List.set_cons_zero]
  have e2 : expGo now 0 (s.conns.take (k + 1)) = expGo now 0 (s.conns.take k) ++ [k] := by
    rw [take_snoc' _ _ hk, expGo_snoc, hb]
    simp
    omega
  unfold expD relD
  simp only
  rw [e1, e2, List.append_assoc]
theorem expW_skip (now : Int) (cs : List Cn) {k : Nat} (hk : k < cs.length) (hb : expB now cs[k] = false) : expW now (cs.take (k + 1)) = expW now (cs.take k) := by
  unfold expW
  rw [take_snoc' _ _ hk, List.filter_append]
  simp [hb]
theorem expW_hit (now : Int) (cs : List Cn) {k : Nat} (hk : k < cs.length) (hb : expB now cs[k] = true) : expW now (cs.take (k + 1)) = expW now (cs.take k) ++ [cs[k].want] := by
  unfold expW
  rw [take_snoc' _ _ hk, List.filter_append]
  simp [hb]
theorem expW_len (now : Int) (cs : List Cn) : (expW now cs).length ≤ cs.length := by unfold expW; rw [List.length_map]; exact List.length_filter_le _ _
theorem expD_all (now : Int) (s : Ds) : (expD now s s.conns.length).conns = s.conns.map (expC now) ∧ (expD now s s.conns.length).free = s.free ++ expGo now 0 s.conns := by simp [expD]
theorem expD_free_len (now : Int) (s : Ds) (k : Nat) : (expD now s k).free.length ≤ s.free.length + s.conns.length := by
  have := expGo_len now 0 (s.conns.take k)
  simp only [expD, List.length_append]
  simp only [List.length_take] at this
  omega
def expP (x : Pl) (now : Int) : Pl × List St × List Wn :=
  if okPl x = true ∧ nowB now = true then ((serveA now ⟨x.epoch, x.next, x.conns.map (expC now), x.queue⟩).1, (serveA now ⟨x.epoch, x.next, x.conns.map (expC now), x.queue⟩).2, expW now x.conns)
  else (pl0, [], [])
/-- where wants wait, every line is busy -/
theorem okPl_busy {x : Pl} (h : okPl x = true) (hq : x.queue ≠ []) : ∀ c ∈ x.conns, c.busy = true := fun c hc => by
  obtain ⟨i, hi, e⟩ := List.getElem_of_mem hc
  cases hb : c.busy with
  | true => rfl
  | false =>
    have : okPl x = false := okPl_free hi (by rw [e]; exact hb) (by rcases hx : x.queue with _ | ⟨a, b⟩; exact absurd hx hq; simp)
    rw [this] at h
    cases h
theorem expD_serves {x : Pl} (now : Int) (h : okPl x = true) : (expD now ⟨x.epoch, x.next, now, x.conns, freeIdx x.conns, x.queue, []⟩ x.conns.length).free = freeIdx (expD now ⟨x.epoch, x.next, now, x.conns, freeIdx x.conns, x.queue, []⟩ x.conns.length).conns ∨ (expD now ⟨x.epoch, x.next, now, x.conns, freeIdx x.conns, x.queue, []⟩ x.conns.length).queue = [] := by
  by_cases hq : x.queue = []
  · exact .inr hq
  · left
    obtain ⟨e1, e2⟩ := expD_all now ⟨x.epoch, x.next, now, x.conns, freeIdx x.conns, x.queue, []⟩
    simp only at e1 e2
    rw [e1, e2]
    unfold freeIdx
    rw [freeGo_busy 0 x.conns (okPl_busy h hq), freeGo_exp now 0 x.conns (okPl_busy h hq)]
    rfl
theorem expC_Z (now : Int) {c : Cn} (h : cnZ c) : cnZ (expC now c) := by unfold expC; split; exact cn0Z; exact h
theorem expD_Z (now : Int) {s : Ds} (k : Nat) (h : DsZ s) : DsZ (expD now s k) := by
  refine ⟨fun c hc => ?_, h.2.1, h.2.2⟩
  simp only [expD] at hc
  rcases List.mem_append.1 hc with h1 | h1
  · obtain ⟨d, hd, rfl⟩ := List.mem_map.1 h1
    exact expC_Z now (h.1 d (List.mem_of_mem_take hd))
  · exact h.1 c (List.mem_of_mem_drop h1)
theorem expW_Z (now : Int) {cs : List Cn} (h : ∀ c ∈ cs, cnZ c) : ∀ q ∈ expW now cs, wnZ q := fun q hq => by
  unfold expW at hq
  obtain ⟨c, hc, rfl⟩ := List.mem_map.1 hq
  exact (h c (List.mem_filter.1 hc).1).2
end Go.Proofs.YtfdefjdogmhinaaDoor.Msg

namespace Go.Proofs.YtfdefjdogmhinaaDoor.Msg
open Go.ChangeShapes Go.WideShapes Go.ChangeAt Go.RowKit
set_option linter.unusedVariables false
set_option linter.unusedSimpArgs false

/-- a want of this client under this tag -/
def thB (client : Int) (tag : ByteArray) (q : Wn) : Bool := decide (q.client = client ∧ q.tag = tag)
theorem str_ne2 {a b : ByteArray} (h : a ≠ b) : ¬ a.toList = b.toList ∧ (a.toList == b.toList) = false := by
  have h1 : ¬ a.toList = b.toList := fun e => h (bytes_ext (by rw [← ByteArray.toList_eq, ← ByteArray.toList_eq]; exact e))
  exact ⟨h1, by simpa using h1⟩

set_option maxHeartbeats 1000000 in
theorem wantKey_any (q : Wn) (w : World) : Calls Tryd.prog 34 #[wnV q] w fun en w' => en = .returned (.agg #[.int .i64 q.client, .string q.tag]) ∧ Below w.heap.size w w' := by
  obtain ⟨client, tag, query, pointer⟩ := q
  show Calls Tryd.prog 34 #[.agg #[.int .i64 client, .string tag, .string query, .string pointer]] w _
  have hb : Below w.heap.size w ((w.alloc (Obj.cells #[.int .i64 client, .string tag, .string query, .string pointer] 33)).alloc (Obj.cells #[.int .i64 client, .string tag] 72)) := ((Below.refl _ _).alloc (Nat.le_refl _) _).alloc (by simp) _
  have HB := hide hb
  clear hb
  go_enter Tryd.func34, Tryd.ntmps34
  go_wp2_with fail
  exact bodyPost_ret (v := .agg #[.int .i64 client, .string tag]) (by simp [results, Tryd.results34, go_sem]) rfl ⟨rfl, HB.out⟩

set_option maxRecDepth 100000 in
set_option maxHeartbeats 2000000 in
theorem theirs_any (client : Int) (tag : ByteArray) (q : Wn) (Bc Bt : Nat) (w : World) (hc : w.cell? ⟨Bc, 0, none⟩ = some (.int .i64 client)) (ht : w.cell? ⟨Bt, 0, none⟩ = some (.string tag)) :
    Calls Tryd.prog 33 #[wnV q, .pointer (some ⟨Bc, 0, none⟩), .pointer (some ⟨Bt, 0, none⟩)] w fun en w' => en = .returned (.bool (thB client tag q)) ∧ Below w.heap.size w w' := by
  have HKEY := hide (fun W => wantKey_any q W)
  unfold wnV at HKEY
  show Calls Tryd.prog 33 #[.agg #[.int .i64 q.client, .string q.tag, .string q.query, .string q.pointer], .pointer (some ⟨Bc, 0, none⟩), .pointer (some ⟨Bt, 0, none⟩)] w _
  obtain ⟨w1, hw1⟩ : ∃ w1, w.alloc (Obj.cells #[.int .i64 q.client, .string q.tag, .string q.query, .string q.pointer] 33) = w1 := ⟨_, rfl⟩
  have hb1 : Below w.heap.size w w1 := by rw [← hw1]; exact (Below.refl _ _).alloc (Nat.le_refl _) _
  have hX : Box w1 w.heap.size 33 #[.int .i64 q.client, .string q.tag, .string q.query, .string q.pointer] := by rw [← hw1]; exact Box.new _ _ _
  have hlc := World.block_lt_of_cell? w ⟨Bc, 0, none⟩ hc
  have hlt := World.block_lt_of_cell? w ⟨Bt, 0, none⟩ ht
  have KS : Hid (∀ X, Below w1.heap.size w1 X → (X.cell? ⟨w.heap.size, 0, none⟩ = some (.int .i64 q.client) ∧ X.cell? ⟨w.heap.size, 1, none⟩ = some (.string q.tag) ∧ X.cell? ⟨w.heap.size, 2, none⟩ = some (.string q.query) ∧ X.cell? ⟨w.heap.size, 3, none⟩ = some (.string q.pointer)) ∧ X.cell? ⟨Bc, 0, none⟩ = some (.int .i64 client) ∧ X.cell? ⟨Bt, 0, none⟩ = some (.string tag)) := fun X hX' => by
    have hq := hX.below hX'
    have hB := bjoin hX' hb1
    exact ⟨⟨hq.cell 0 (by simp), hq.cell 1 (by simp), hq.cell 2 (by simp), hq.cell 3 (by simp)⟩, (hB.cell (p := ⟨Bc, 0, none⟩) hlc).trans hc, (hB.cell (p := ⟨Bt, 0, none⟩) hlt).trans ht⟩
  have hk0 : Below w1.heap.size w1 w1.drew := (Below.refl _ _).drew
  obtain ⟨D1, hwd⟩ : ∃ D1, w1.drew = D1 := ⟨_, rfl⟩
  have hk1 : Below w1.heap.size w1 D1 := by rw [← hwd]; exact hk0
  have HB1 := hide hb1
  clear hc ht hX hb1 hlc hlt
  by_cases h1 : q.client = client
  · by_cases h2 : q.tag = tag
    · have HR : Hid (thB client tag q = true) := decide_eq_true ⟨h1, h2⟩
      subst h1 h2
      go_enter Tryd.func33, Tryd.ntmps33
      go_wp2_with fail
      go_region_held3 (fun X : World => (X.cell? ⟨w.heap.size, 0, none⟩ = some (.int .i64 q.client) ∧ X.cell? ⟨w.heap.size, 1, none⟩ = some (.string q.tag) ∧ X.cell? ⟨w.heap.size, 2, none⟩ = some (.string q.query) ∧ X.cell? ⟨w.heap.size, 3, none⟩ = some (.string q.pointer)) ∧ X.cell? ⟨Bc, 0, none⟩ = some (.int .i64 q.client) ∧ X.cell? ⟨Bt, 0, none⟩ = some (.string q.tag))
        (first | with_reducible exact KS.out _ hk0 | with_reducible exact KS.out _ hk1 | with_reducible exact KS.out _ hS)
        (first | (go_at_call 34; refine (HKEY.out _).mono ?_; rintro e W2 ⟨rfl, hb2⟩; have hS : Below w1.heap.size w1 W2 := bjoin hb2 hk1))
      all_goals
        have HBE := hide (bjoin hS HB1.out)
        go_wp2_with fail
        go_ret
        rw [HR.out]
        exact ⟨by simp, HBE.out⟩
    · have HR : Hid (thB client tag q = false) := decide_eq_false (fun h => h2 h.2)
      obtain ⟨s1, s2⟩ := str_ne2 h2
      subst h1
      go_enter Tryd.func33, Tryd.ntmps33
      go_wp2_with fail
      go_region_held3 (fun X : World => (X.cell? ⟨w.heap.size, 0, none⟩ = some (.int .i64 q.client) ∧ X.cell? ⟨w.heap.size, 1, none⟩ = some (.string q.tag) ∧ X.cell? ⟨w.heap.size, 2, none⟩ = some (.string q.query) ∧ X.cell? ⟨w.heap.size, 3, none⟩ = some (.string q.pointer)) ∧ X.cell? ⟨Bc, 0, none⟩ = some (.int .i64 q.client) ∧ X.cell? ⟨Bt, 0, none⟩ = some (.string tag))
        (first | with_reducible exact KS.out _ hk0 | with_reducible exact KS.out _ hk1 | with_reducible exact KS.out _ hS)
        (first | (go_at_call 34; refine (HKEY.out _).mono ?_; rintro e W2 ⟨rfl, hb2⟩; have hS : Below w1.heap.size w1 W2 := bjoin hb2 hk1))
      all_goals
        have HBE := hide (bjoin hS HB1.out)
        go_wp2_with fail
        go_ret
        rw [HR.out]
        exact ⟨by simp [s2], HBE.out⟩
  · have HR : Hid (thB client tag q = false) := decide_eq_false (fun h => h1 h.1)
    have h1b : (q.client == client) = false := by simpa using h1
    go_enter Tryd.func33, Tryd.ntmps33
    go_wp2_with fail
    go_region_held3 (fun X : World => (X.cell? ⟨w.heap.size, 0, none⟩ = some (.int .i64 q.client) ∧ X.cell? ⟨w.heap.size, 1, none⟩ = some (.string q.tag) ∧ X.cell? ⟨w.heap.size, 2, none⟩ = some (.string q.query) ∧ X.cell? ⟨w.heap.size, 3, none⟩ = some (.string q.pointer)) ∧ X.cell? ⟨Bc, 0, none⟩ = some (.int .i64 client) ∧ X.cell? ⟨Bt, 0, none⟩ = some (.string tag))
      (first | with_reducible exact KS.out _ hk0 | with_reducible exact KS.out _ hk1 | with_reducible exact KS.out _ hS)
      (first | (go_at_call 34; refine (HKEY.out _).mono ?_; rintro e W2 ⟨rfl, hb2⟩; have hS : Below w1.heap.size w1 W2 := bjoin hb2 hk1))
    all_goals
      have HBE := hide (bjoin hS HB1.out)
      go_wp2_with fail
      go_ret
      rw [HR.out]
      exact ⟨by simp [h1b], HBE.out⟩
end Go.Proofs.YtfdefjdogmhinaaDoor.Msg
