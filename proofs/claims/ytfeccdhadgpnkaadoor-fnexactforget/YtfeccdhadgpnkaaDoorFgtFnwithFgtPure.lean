import Derived.Test.YtfeccdhadgpnkaaDoorDeskClonewithPoolOkI
import Derived.Test.YtfeccdhadgpnkaaDoorDeskwithDeskServe
import Derived.Test.YtfeccdhadgpnkaaDoorExpPurewithExpI
namespace Go.Proofs.YtfeccdhadgpnkaaDoor.Msg
open Go.ChangeShapes Go.WideShapes Go.ChangeAt Go.RowKit
set_option linter.unusedVariables false
set_option linter.unusedSimpArgs false

/-- a want of this client under this tag -/
def thB (client : Int) (tag : ByteArray) (q : Wn) : Bool := decide (q.client = client ∧ q.tag = tag)
theorem str_ne2 {a b : ByteArray} (h : a ≠ b) : ¬ a.toList = b.toList ∧ (a.toList == b.toList) = false := by
  have h1 : ¬ a.toList = b.toList := fun e => h (bytes_ext (by rw [← ByteArray.toList_eq, ← ByteArray.toList_eq]; exact e))
  exact ⟨h1, by simpa using h1⟩

set_option maxHeartbeats 1000000 in
theorem wantKey_any (q : Wn) (w : World) : Calls Tryd.prog 58 #[wnV q] w fun en w' => en = .returned (.agg #[.int .i64 q.client, .string q.tag]) ∧ Below w.heap.size w w' := by
  obtain ⟨client, tag, query, pointer⟩ := q
  show Calls Tryd.prog 58 #[.agg #[.int .i64 client, .string tag, .string query, .string pointer]] w _
  have hb : Below w.heap.size w ((w.alloc (Obj.cells #[.int .i64 client, .string tag, .string query, .string pointer] 38)).alloc (Obj.cells #[.int .i64 client, .string tag] 95)) := ((Below.refl _ _).alloc (Nat.le_refl _) _).alloc (by simp) _
  have HB := hide hb
  clear hb
  go_enter Tryd.func58, Tryd.ntmps58
  go_wp2_with fail
  exact bodyPost_ret (v := .agg #[.int .i64 client, .string tag]) (by simp [results, Tryd.results58, go_sem]) rfl ⟨rfl, HB.out⟩

set_option maxRecDepth 100000 in
set_option maxHeartbeats 2000000 in
theorem theirs_any (client : Int) (tag : ByteArray) (q : Wn) (Bc Bt : Nat) (w : World) (hc : w.cell? ⟨Bc, 0, none⟩ = some (.int .i64 client)) (ht : w.cell? ⟨Bt, 0, none⟩ = some (.string tag)) :
    Calls Tryd.prog 57 #[wnV q, .pointer (some ⟨Bc, 0, none⟩), .pointer (some ⟨Bt, 0, none⟩)] w fun en w' => en = .returned (.bool (thB client tag q)) ∧ Below w.heap.size w w' := by
  have HKEY := hide (fun W => wantKey_any q W)
  unfold wnV at HKEY
  show Calls Tryd.prog 57 #[.agg #[.int .i64 q.client, .string q.tag, .string q.query, .string q.pointer], .pointer (some ⟨Bc, 0, none⟩), .pointer (some ⟨Bt, 0, none⟩)] w _
  obtain ⟨w1, hw1⟩ : ∃ w1, w.alloc (Obj.cells #[.int .i64 q.client, .string q.tag, .string q.query, .string q.pointer] 38) = w1 := ⟨_, rfl⟩
  have hb1 : Below w.heap.size w w1 := by rw [← hw1]; exact (Below.refl _ _).alloc (Nat.le_refl _) _
  have hX : Box w1 w.heap.size 38 #[.int .i64 q.client, .string q.tag, .string q.query, .string q.pointer] := by rw [← hw1]; exact Box.new _ _ _
  have hlc := World.block_lt_of_cell? w ⟨Bc, 0, none⟩ hc
  have hlt := World.block_lt_of_cell? w ⟨Bt, 0, none⟩ ht
  have KS : Hid (∀ X, Below w1.heap.size w1 X → (X.cell? ⟨w.heap.size, 0, none⟩ = some (.int .i64 q.client) ∧ X.cell? ⟨w.heap.size, 1, none⟩ = some (.string q.tag) ∧ X.cell? ⟨w.heap.size, 2, none⟩ = some (.string q.query) ∧ X.cell? ⟨w.heap.size, 3, none⟩ = some (.string q.pointer)) ∧ X.cell? ⟨Bc, 0, none⟩ = some (.int .i64 client) ∧ X.cell? ⟨Bt, 0, none⟩ = some (.string tag)) := fun X hX' => by
    have hq := hX.below hX'
    have hB := bjoin hX' hb1
    exact ⟨⟨hq.cell 0 (by simp), hq.cell 1 (by simp), hq.cell 2 (by simp), hq.cell 3 (by simp)⟩, (hB.cell (p := ⟨Bc, 0, none⟩) hlc).trans hc, (hB.cell (p := ⟨Bt, 0, none⟩) hlt).trans ht⟩
  have hk0 : Below w1.heap.size w1 w1.drew := (Below.refl _ _).drew
  obtain ⟨D1, hwd⟩ : ∃ D1, w1.drew = D1 := ⟨_, rfl⟩
  have hk1 : Below w1.heap.size w1 D1 := by rw [← hwd]; exact hk0
  have HB1 := hide hb1
  clear hc ht hX hb1 hlc hlt
  by_cases h1 : q.client = client
  · by_cases h2 : q.tag = tag
    · have HR : Hid (thB client tag q = true) := decide_eq_true ⟨h1, h2⟩
      subst h1 h2
      go_enter Tryd.func57, Tryd.ntmps57
      go_wp2_with fail
      go_region_held3 (fun X : World => (X.cell? ⟨w.heap.size, 0, none⟩ = some (.int .i64 q.client) ∧ X.cell? ⟨w.heap.size, 1, none⟩ = some (.string q.tag) ∧ X.cell? ⟨w.heap.size, 2, none⟩ = some (.string q.query) ∧ X.cell? ⟨w.heap.size, 3, none⟩ = some (.string q.pointer)) ∧ X.cell? ⟨Bc, 0, none⟩ = some (.int .i64 q.client) ∧ X.cell? ⟨Bt, 0, none⟩ = some (.string q.tag))
        (first | with_reducible exact KS.out _ hk0 | with_reducible exact KS.out _ hk1 | with_reducible exact KS.out _ hS)
        (first | (go_at_call 58; refine (HKEY.out _).mono ?_; rintro e W2 ⟨rfl, hb2⟩; have hS : Below w1.heap.size w1 W2 := bjoin hb2 hk1))
      all_goals
        have HBE := hide (bjoin hS HB1.out)
        go_wp2_with fail
        go_ret
        rw [HR.out]
        exact ⟨by simp, HBE.out⟩
    · have HR : Hid (thB client tag q = false) := decide_eq_false (fun h => h2 h.2)
      obtain ⟨s1, s2⟩ := str_ne2 h2
      subst h1
      go_enter Tryd.func57, Tryd.ntmps57
      go_wp2_with fail
      go_region_held3 (fun X : World => (X.cell? ⟨w.heap.size, 0, none⟩ = some (.int .i64 q.client) ∧ X.cell? ⟨w.heap.size, 1, none⟩ = some (.string q.tag) ∧ X.cell? ⟨w.heap.size, 2, none⟩ = some (.string q.query) ∧ X.cell? ⟨w.heap.size, 3, none⟩ = some (.string q.pointer)) ∧ X.cell? ⟨Bc, 0, none⟩ = some (.int .i64 q.client) ∧ X.cell? ⟨Bt, 0, none⟩ = some (.string tag))
        (first | with_reducible exact KS.out _ hk0 | with_reducible exact KS.out _ hk1 | with_reducible exact KS.out _ hS)
        (first | (go_at_call 58; refine (HKEY.out _).mono ?_; rintro e W2 ⟨rfl, hb2⟩; have hS : Below w1.heap.size w1 W2 := bjoin hb2 hk1))
      all_goals
        have HBE := hide (bjoin hS HB1.out)
        go_wp2_with fail
        go_ret
        rw [HR.out]
        exact ⟨by simp [s2], HBE.out⟩
  · have HR : Hid (thB client tag q = false) := decide_eq_false (fun h => h1 h.1)
    have h1b : (q.client == client) = false := by simpa using h1
    go_enter Tryd.func57, Tryd.ntmps57
    go_wp2_with fail
    go_region_held3 (fun X : World => (X.cell? ⟨w.heap.size, 0, none⟩ = some (.int .i64 q.client) ∧ X.cell? ⟨w.heap.size, 1, none⟩ = some (.string q.tag) ∧ X.cell? ⟨w.heap.size, 2, none⟩ = some (.string q.query) ∧ X.cell? ⟨w.heap.size, 3, none⟩ = some (.string q.pointer)) ∧ X.cell? ⟨Bc, 0, none⟩ = some (.int .i64 client) ∧ X.cell? ⟨Bt, 0, none⟩ = some (.string tag))
      (first | with_reducible exact KS.out _ hk0 | with_reducible exact KS.out _ hk1 | with_reducible exact KS.out _ hS)
      (first | (go_at_call 58; refine (HKEY.out _).mono ?_; rintro e W2 ⟨rfl, hb2⟩; have hS : Below w1.heap.size w1 W2 := bjoin hb2 hk1))
    all_goals
      have HBE := hide (bjoin hS HB1.out)
      go_wp2_with fail
      go_ret
      rw [HR.out]
      exact ⟨by simp [h1b], HBE.out⟩
end Go.Proofs.YtfeccdhadgpnkaaDoor.Msg

namespace Go.Proofs.YtfeccdhadgpnkaaDoor.Msg
open Go.ChangeShapes Go.WideShapes Go.ChangeAt Go.RowKit
set_option linter.unusedVariables false
set_option linter.unusedSimpArgs false

def fgB (cl : Int) (tg : ByteArray) (c : Cn) : Bool := c.busy && thB cl tg c.want
def fgC (cl : Int) (tg : ByteArray) (c : Cn) : Cn := if fgB cl tg c then cn0 else c
def fgGo (cl : Int) (tg : ByteArray) : Nat → List Cn → List Nat
  | _, [] => []
  | i, c :: cs => if fgB cl tg c then i :: fgGo cl tg (i + 1) cs else fgGo cl tg (i + 1) cs
theorem fgGo_snoc (cl : Int) (tg : ByteArray) : ∀ (i : Nat) (cs : List Cn) (c : Cn), fgGo cl tg i (cs ++ [c]) = fgGo cl tg i cs ++ (if fgB cl tg c then [i + cs.length] else [])
  | i, [], c => by simp [fgGo]
  | i, d :: cs, c => by
    simp only [List.cons_append, fgGo]
    rw [fgGo_snoc cl tg (i + 1) cs c]
    have e : i + 1 + cs.length = i + (d :: cs).length := by simp; omega
    rw [e]
    split <;> simp
theorem fgGo_lt (cl : Int) (tg : ByteArray) : ∀ (i : Nat) (cs : List Cn), ∀ k ∈ fgGo cl tg i cs, k < i + cs.length
  | i, [], k, h => by simp [fgGo] at h
  | i, c :: cs, k, h => by
    simp only [fgGo] at h
    split at h
    · rcases List.mem_cons.1 h with rfl | h
      · simp
      · have := fgGo_lt cl tg (i + 1) cs k h; simp; omega
    · have := fgGo_lt cl tg (i + 1) cs k h; simp; omega
theorem fgGo_len (cl : Int) (tg : ByteArray) : ∀ (i : Nat) (cs : List Cn), (fgGo cl tg i cs).length ≤ cs.length
  | _, [] => by simp [fgGo]
  | i, c :: cs => by
    simp only [fgGo]
    have := fgGo_len cl tg (i + 1) cs
    split <;> simp <;> omega
theorem freeGo_fg (cl : Int) (tg : ByteArray) : ∀ (i : Nat) (cs : List Cn), (∀ c ∈ cs, c.busy = true) → freeGo i (cs.map (fgC cl tg)) = fgGo cl tg i cs
  | _, [], _ => rfl
  | i, c :: cs, h => by
    have hc : c.busy = true := h c (by simp)
    have ih := freeGo_fg cl tg (i + 1) cs fun d hd => h d (List.mem_cons_of_mem _ hd)
    simp only [List.map_cons, freeGo, fgGo]
    rw [ih]
    unfold fgC
    cases hb : fgB cl tg c with
    | true => simp [cn0]
    | false => simp [hc]
/-- the desk when the first k lines have been looked at -/
def fgD (cl : Int) (tg : ByteArray) (s : Ds) (k : Nat) : Ds := { s with conns := (s.conns.take k).map (fgC cl tg) ++ s.conns.drop k, free := s.free ++ fgGo cl tg 0 (s.conns.take k) }
theorem fgD_zero (cl : Int) (tg : ByteArray) (s : Ds) : fgD cl tg s 0 = s := by simp [fgD, fgGo]
theorem fgD_at (cl : Int) (tg : ByteArray) (s : Ds) {k : Nat} (hk : k < s.conns.length) : ∃ h : k < (fgD cl tg s k).conns.length, (fgD cl tg s k).conns[k] = s.conns[k] := by
  have hl : ((s.conns.take k).map (fgC cl tg)).length = k := by simp; omega
  have h1 : (fgD cl tg s k).conns[k]? = s.conns[k]? := by
    simp only [fgD]
    rw [List.getElem?_append_right (by omega), hl, Nat.sub_self, List.getElem?_drop, Nat.add_zero]
  have h2 : k < (fgD cl tg s k).conns.length := by simp [fgD]; omega
  refine ⟨h2, ?_⟩
  rw [List.getElem?_eq_getElem h2, List.getElem?_eq_getElem hk] at h1
  exact Option.some.inj h1
theorem fgD_len (cl : Int) (tg : ByteArray) (s : Ds) (k : Nat) : (fgD cl tg s k).conns.length = s.conns.length := by simp [fgD]; omega
theorem fgD_skip (cl : Int) (tg : ByteArray) (s : Ds) {k : Nat} (hk : k < s.conns.length) (hb : fgB cl tg s.conns[k] = false) : fgD cl tg s (k + 1) = fgD cl tg s k := by
  have e1 : (s.conns.take (k + 1)).map (fgC cl tg) ++ s.conns.drop (k + 1) = (s.conns.take k).map (fgC cl tg) ++ s.conns.drop k := by
    rw [take_snoc' _ _ hk, List.map_append, List.append_assoc]
    congr 1
    rw [List.drop_eq_getElem_cons hk]
    simp [fgC, hb]
  have e2 : fgGo cl tg 0 (s.conns.take (k + 1)) = fgGo cl tg 0 (s.conns.take k) := by
    rw [take_snoc' _ _ hk, fgGo_snoc, hb]
    simp
  unfold fgD
  rw [e1, e2]
theorem fgD_hit (cl : Int) (tg : ByteArray) (s : Ds) {k : Nat} (hk : k < s.conns.length) (hb : fgB cl tg s.conns[k] = true) : fgD cl tg s (k + 1) = relD (fgD cl tg s k) k := by
  have hl : ((s.conns.take k).map (fgC cl tg)).length = k := by simp; omega
  have e1 : (s.conns.take (k + 1)).map (fgC cl tg) ++ s.conns.drop (k + 1) = ((s.conns.take k).map (fgC cl tg) ++ s.conns.drop k).set k cn0 := by
    rw [take_snoc' _ _ hk, List.map_append, List.append_assoc, List.set_append_right _ _ (by omega)]
    congr 1
    rw [List.drop_eq_getElem_cons hk, hl, Nat.sub_self]
    simp only [fgC, hb, if_true, List.cons_append, List.nil_append, List.map_cons, List.map_nil, List.set_cons_zero]
  have e2 : fgGo cl tg 0 (s.conns.take (k + 1)) = fgGo cl tg 0 (s.conns.take k) ++ [k] := by
    rw [take_snoc' _ _ hk, fgGo_snoc, hb]
    simp
    omega
  unfold fgD relD
  simp only
  rw [e1, e2, List.append_assoc]
theorem fgD_all (cl : Int) (tg : ByteArray) (s : Ds) : (fgD cl tg s s.conns.length).conns = s.conns.map (fgC cl tg) ∧ (fgD cl tg s s.conns.length).free = s.free ++ fgGo cl tg 0 s.conns := by simp [fgD]
theorem fgD_free_len (cl : Int) (tg : ByteArray) (s : Ds) (k : Nat) : (fgD cl tg s k).free.length ≤ s.free.length + s.conns.length := by
  have := fgGo_len cl tg 0 (s.conns.take k)
  simp only [fgD, List.length_append]
  simp only [List.length_take] at this
  omega
theorem fgC_Z (cl : Int) (tg : ByteArray) {c : Cn} (h : cnZ c) : cnZ (fgC cl tg c) := by unfold fgC; split; exact cn0Z; exact h
theorem fgD_Z (cl : Int) (tg : ByteArray) {s : Ds} (k : Nat) (h : DsZ s) : DsZ (fgD cl tg s k) := by
  refine ⟨fun c hc => ?_, h.2.1, h.2.2⟩
  simp only [fgD] at hc
  rcases List.mem_append.1 hc with h1 | h1
  · obtain ⟨d, hd, rfl⟩ := List.mem_map.1 h1
    exact fgC_Z cl tg (h.1 d (List.mem_of_mem_take hd))
  · exact h.1 c (List.mem_of_mem_drop h1)
/-- the queue that is left -/
def fgQ (cl : Int) (tg : ByteArray) (qs : List Wn) : List Wn := qs.filter fun q => !thB cl tg q
theorem fgQ_len (cl : Int) (tg : ByteArray) (qs : List Wn) : (fgQ cl tg qs).length ≤ qs.length := List.length_filter_le _ _
theorem fgQ_Z (cl : Int) (tg : ByteArray) {qs : List Wn} (h : ∀ q ∈ qs, wnZ q) : ∀ q ∈ fgQ cl tg qs, wnZ q := fun q hq => h q (List.mem_filter.1 hq).1
/-- the numbers of the lines that are freed -/
def fgN (cl : Int) (tg : ByteArray) (cs : List Cn) : List Int := (fgGo cl tg 0 cs).map fun (i : Nat) => (i : Int)
theorem fgN_len (cl : Int) (tg : ByteArray) (cs : List Cn) : (fgN cl tg cs).length ≤ cs.length := by unfold fgN; rw [List.length_map]; exact fgGo_len cl tg 0 cs
theorem fgN_skip (cl : Int) (tg : ByteArray) (cs : List Cn) {k : Nat} (hk : k < cs.length) (hb : fgB cl tg cs[k] = false) : fgN cl tg (cs.take (k + 1)) = fgN cl tg (cs.take k) := by
  unfold fgN
  rw [take_snoc' _ _ hk, fgGo_snoc, hb]
  simp
theorem fgN_hit (cl : Int) (tg : ByteArray) (cs : List Cn) {k : Nat} (hk : k < cs.length) (hb : fgB cl tg cs[k] = true) : fgN cl tg (cs.take (k + 1)) = fgN cl tg (cs.take k) ++ [(k : Int)] := by
  unfold fgN
  rw [take_snoc' _ _ hk, fgGo_snoc, hb]
  simp
  omega
def fgP (x : Pl) (cl : Int) (tg : ByteArray) (now : Int) : Pl × List St × List Int :=
  if (okPl x = true ∧ nowB now = true) ∧ clientB cl = true ∧ tagB tg = true then ((serveA now ⟨x.epoch, x.next, x.conns.map (fgC cl tg), fgQ cl tg x.queue⟩).1, (serveA now ⟨x.epoch, x.next, x.conns.map (fgC cl tg), fgQ cl tg x.queue⟩).2, fgN cl tg x.conns)
  else (pl0, [], [])
theorem fgD_serves {x : Pl} (cl : Int) (tg : ByteArray) (now : Int) (h : okPl x = true) : (fgD cl tg ⟨x.epoch, x.next, now, x.conns, freeIdx x.conns, fgQ cl tg x.queue, []⟩ x.conns.length).free = freeIdx (fgD cl tg ⟨x.epoch, x.next, now, x.conns, freeIdx x.conns, fgQ cl tg x.queue, []⟩ x.conns.length).conns ∨ (fgD cl tg ⟨x.epoch, x.next, now, x.conns, freeIdx x.conns, fgQ cl tg x.queue, []⟩ x.conns.length).queue = [] := by
  by_cases hq : fgQ cl tg x.queue = []
  · exact .inr hq
  · left
    have hq' : x.queue ≠ [] := fun e => hq (by rw [e]; rfl)
    obtain ⟨e1, e2⟩ := fgD_all cl tg ⟨x.epoch, x.next, now, x.conns, freeIdx x.conns, fgQ cl tg x.queue, []⟩
    simp only at e1 e2
    rw [e1, e2]
    unfold freeIdx
    rw [freeGo_busy 0 x.conns (okPl_busy h hq'), freeGo_fg cl tg 0 x.conns (okPl_busy h hq')]
    rfl
/-- a row of numbers -/
def inC (n : Int) : List Value := [.int .i64 n]
theorem inC_len (n : Int) : (inC n).length = 1 := rfl
end Go.Proofs.YtfeccdhadgpnkaaDoor.Msg
