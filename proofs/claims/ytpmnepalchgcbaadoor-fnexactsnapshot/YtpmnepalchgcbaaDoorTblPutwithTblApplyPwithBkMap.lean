import Derived.Test.YtpmnepalchgcbaaDoorTblWowithTblOpenPwithTblOpenS
import Derived.Test.YtpmnepalchgcbaaDoorFlatKitwithPhasewithTblOk2
import Derived.Test.YtpmnepalchgcbaaDoorChgSpec
import Derived.Test.YtpmnepalchgcbaaDoorFlatAppwithDrawMsgKwithTblCopy
import Derived.Maps.OwnSet
import Derived.DeepKeys4
namespace Go.Proofs.YtpmnepalchgcbaaDoor.Msg
open Go.ChangeShapes Go.WideShapes Go.ChangeAt Go.RowKit
set_option linter.unusedVariables false
set_option linter.unusedSimpArgs false

/-! a session of an owned table is written anew -/
def put7 (w : World) (g p : Nat) (s : Sess) (u : Value) : World := ((((((w.setCell ⟨g, p, none⟩ (.int .i64 s.client)).setCell ⟨g, p + 1, none⟩ (.string s.tag)).setCell ⟨g, p + 2, none⟩ (.string s.query)).setCell ⟨g, p + 3, none⟩ (.int .i64 s.page)).setCell ⟨g, p + 4, none⟩ (.int .i64 s.state)).setCell ⟨g, p + 5, none⟩ (u)).setCell ⟨g, p + 6, none⟩ (.int .i64 s.cursor)
theorem put7_only (w : World) (g p : Nat) (s : Sess) (u : Value) : Only [g] w (put7 w g p s u) := ((((((((Only.refl _ _).setCell (by simp) _).setCell (by simp) _).setCell (by simp) _).setCell (by simp) _).setCell (by simp) _).setCell (by simp) _).setCell (by simp) _)
theorem FB.put7 {base : Nat} {w : World} {g n cap : Nat} {ys : List (Sess × Value)} (h : FB tsC 7 38 base w (.slice (some ⟨g, 0, none⟩) n cap) ys) {i : Nat} (hi : i < ys.length) (s : Sess) (u : Value) {p : Nat} (hp : i * 7 = p) :
    FB tsC 7 38 base (put7 w g p s u) (.slice (some ⟨g, 0, none⟩) n cap) (ys.set i (s, u)) := by
  subst hp
  obtain ⟨hlen, ⟨e, h0⟩ | ⟨g', cap', cur, e, hg, hs, hcap, hm, hsz, htk⟩⟩ := h
  · cases e
  · injection e with e1 e2 e3
    injection e1 with e1
    injection e1 with e1 _ _
    subst e1 e3
    have hB : Box w g 38 cur := hs
    have h4 := (((((((hB.set (i * 7) (.int .i64 s.client)).set (i * 7 + 1) (.string s.tag)).set (i * 7 + 2) (.string s.query)).set (i * 7 + 3) (.int .i64 s.page)).set (i * 7 + 4) (.int .i64 s.state)).set (i * 7 + 5) u).set (i * 7 + 6) (.int .i64 s.cursor))
    refine ⟨by rw [flat_len tsC_len], .inr ⟨g, cap, _, by rw [List.length_set, ← e2], hg, h4, by rw [List.length_set]; exact hcap, hm, by simp [hsz], ?_⟩⟩
    rw [List.length_set]
    have hi4 : (i + 1) * 7 ≤ ys.length * 7 := Nat.mul_le_mul_right 7 hi
    apply List.ext_getElem?
    intro m
    by_cases hmn : m < ys.length * 7
    · have hq : m / 7 < ys.length := (Nat.div_lt_iff_lt_mul (by omega)).2 hmn
      have hr : m % 7 < 7 := Nat.mod_lt _ (by omega)
      have em : m / 7 * 7 + m % 7 = m := Nat.div_add_mod' m 7
      have hold := flat_get tsC_len ys (m / 7) (m % 7) hq hr
      rw [em, ← htk, List.getElem?_take, if_pos hmn, Array.getElem?_toList] at hold
      have hnew := flat_get tsC_len (ys.set i (s, u)) (m / 7) (m % 7) (by rw [List.length_set]; exact hq) hr
      rw [em] at hnew
      rw [hnew, List.getElem?_take, if_pos hmn, Array.getElem?_toList]
      have hms : m < cur.size := by rw [hsz]; omega
      simp only [Array.getElem?_setIfInBounds, Array.size_setIfInBounds]
      by_cases hmi : m / 7 = i
      · have e5 : (ys.set i (s, u))[m / 7]'(by rw [List.length_set]; exact hq) = (s, u) := by simp [hmi]
        simp only [e5]
        rcases (show m % 7 = 0 ∨ m % 7 = 1 ∨ m % 7 = 2 ∨ m % 7 = 3 ∨ m % 7 = 4 ∨ m % 7 = 5 ∨ m % 7 = 6 by omega) with h | h | h | h | h | h | h
        · have hm' : m = i * 7 := by omega
          simp [hm', tsC]
          omega
        · have hm' : m = i * 7 + 1 := by omega
          simp [hm', tsC, show (i * 7 + 1) % 7 = 1 by omega]
          omega
        · have hm' : m = i * 7 + 2 := by omega
          simp [hm', tsC, show (i * 7 + 2) % 7 = 2 by omega]
          omega
        · have hm' : m = i * 7 + 3 := by omega
          simp [hm', tsC, show (i * 7 + 3) % 7 = 3 by omega]
          omega
        · have hm' : m = i * 7 + 4 := by omega
          simp [hm', tsC, show (i * 7 + 4) % 7 = 4 by omega]
          omega
        · have hm' : m = i * 7 + 5 := by omega
          simp [hm', tsC, show (i * 7 + 5) % 7 = 5 by omega]
          omega
        · have hm' : m = i * 7 + 6 := by omega
          simp [hm', tsC, show (i * 7 + 6) % 7 = 6 by omega]
          omega
      · have e5 : (ys.set i (s, u))[m / 7]'(by rw [List.length_set]; exact hq) = ys[m / 7] := by rw [List.getElem_set_ne (Ne.symm hmi)]
        simp only [e5]
        rw [if_neg (by omega), if_neg (by omega), if_neg (by omega), if_neg (by omega), if_neg (by omega), if_neg (by omega), if_neg (by omega)]
        exact hold
    · rw [List.getElem?_eq_none (by simp; omega), List.getElem?_eq_none (by rw [flat_len tsC_len, List.length_set]; omega)]
theorem FB.off0 {α : Type} {C : α → List Value} {c : Nat} {e : TypeId} {base : Nat} {w : World} {b off n cap : Nat} {xs : List α} (h : FB C c e base w (.slice (some ⟨b, off, none⟩) n cap) xs) : off = 0 := by
  obtain ⟨_, ⟨e1, _⟩ | ⟨g, cap', cur, e1, _⟩⟩ := h
  · cases e1
  · injection e1 with e1 _ _
    injection e1 with e1
    injection e1 with _ e1 _
/-- nodup, and the place's own block -/
theorem nd_set {ps : List (Sess × Value)} (h : ((ps.map (·.2)).filterMap Value.ownBlock).Nodup) {i : Nat} (hi : i < ps.length) (p : Sess × Value) (hn : ∀ b, p.2.ownBlock = some b → ∀ j (hj : j < ps.length), j ≠ i → ps[j].2.ownBlock ≠ some b) : (((ps.set i p).map (·.2)).filterMap Value.ownBlock).Nodup := by
  have e1 : ps.set i p = ps.take i ++ p :: ps.drop (i + 1) := by rw [List.set_eq_take_append_cons_drop, if_pos hi]
  have e2 : ps = ps.take i ++ ps[i] :: ps.drop (i + 1) := by rw [List.getElem_cons_drop, List.take_append_drop]
  have ht : ∀ q ∈ ps.take i, ∃ j, ∃ hj : j < ps.length, j ≠ i ∧ ps[j] = q := fun q hq => by
    obtain ⟨j, hj, rfl⟩ := List.mem_iff_getElem.1 hq
    rw [List.length_take] at hj
    exact ⟨j, by omega, by omega, by rw [List.getElem_take]⟩
  have hd : ∀ q ∈ ps.drop (i + 1), ∃ j, ∃ hj : j < ps.length, j ≠ i ∧ ps[j] = q := fun q hq => by
    obtain ⟨j, hj, rfl⟩ := List.mem_iff_getElem.1 hq
    rw [List.length_drop] at hj
    exact ⟨i + 1 + j, by omega, by omega, by rw [List.getElem_drop]⟩
  rw [e2, List.map_append, List.filterMap_append, List.map_cons] at h
  rw [e1, List.map_append, List.filterMap_append, List.map_cons]
  obtain ⟨h1, h2, h3⟩ := List.nodup_append.1 h
  have h2' : (((ps.drop (i + 1)).map (·.2)).filterMap Value.ownBlock).Nodup := by
    rw [List.filterMap_cons] at h2
    split at h2
    · exact h2
    · exact (List.nodup_cons.1 h2).2
  have h3' : ∀ a ∈ ((ps.take i).map (·.2)).filterMap Value.ownBlock, ∀ b ∈ ((ps.drop (i + 1)).map (·.2)).filterMap Value.ownBlock, a ≠ b := fun a ha b hb => h3 a ha b (by
    rw [List.filterMap_cons]
    split
    · exact hb
    · exact List.mem_cons_of_mem _ hb)
  cases hp : p.2.ownBlock with
  | none =>
    rw [List.filterMap_cons_none hp]
    exact List.nodup_append.2 ⟨h1, h2', h3'⟩
  | some b =>
    rw [List.filterMap_cons_some hp]
    refine List.nodup_append.2 ⟨h1, List.nodup_cons.2 ⟨fun hm => ?_, h2'⟩, fun a ha c hc => ?_⟩
    · obtain ⟨x, hx, e⟩ := List.mem_filterMap.1 hm
      obtain ⟨q, hq, rfl⟩ := List.mem_map.1 hx
      obtain ⟨j, hj, hne, rfl⟩ := hd q hq
      exact hn b hp j hj hne e
    · rcases List.mem_cons.1 hc with rfl | hc
      · rintro rfl
        obtain ⟨x, hx, e⟩ := List.mem_filterMap.1 ha
        obtain ⟨q, hq, rfl⟩ := List.mem_map.1 hx
        obtain ⟨j, hj, hne, rfl⟩ := ht q hq
        exact hn _ hp j hj hne e
      · exact h3' a ha c hc
theorem nd_at {ps : List (Sess × Value)} (h : ((ps.map (·.2)).filterMap Value.ownBlock).Nodup) {i j : Nat} (hi : i < ps.length) (hj : j < ps.length) (hne : j ≠ i) {b : Nat} (hb : ps[i].2.ownBlock = some b) : ps[j].2.ownBlock ≠ some b := by
  intro e
  have key : ∀ (i j : Nat) (hi : i < ps.length) (hj : j < ps.length), j < i → ps[i].2.ownBlock = some b → ps[j].2.ownBlock = some b → False := fun i j hi hj hlt h1 h2 => by
    have e2 : ps = ps.take i ++ ps[i] :: ps.drop (i + 1) := by rw [List.getElem_cons_drop, List.take_append_drop]
    rw [e2, List.map_append, List.filterMap_append, List.map_cons, List.filterMap_cons_some h1] at h
    refine (List.nodup_append.1 h).2.2 b (List.mem_filterMap.2 ⟨ps[j].2, List.mem_map.2 ⟨ps[j], ?_, rfl⟩, h2⟩) b (List.mem_cons_self ..) rfl
    rw [List.mem_take_iff_getElem]
    exact ⟨j, by omega, rfl⟩
  rcases Nat.lt_or_ge j i with hlt | hge
  · exact key i j hi hj hlt hb e
  · exact key j i hj hi (by omega) e hb
/-- the session at a place is another: its rows lie in the old one's block or in a new one -/
theorem TE.put {base : Nat} {X Y : World} {g n cap : Nat} {ps : List (Sess × Value)} (h : TE base X (.slice (some ⟨g, 0, none⟩) n cap) ps) {i : Nat} (hi : i < ps.length) (s : Sess) (u : Value) (hs : SmS s) (hs0 : X.heap.size ≤ Y.heap.size)
    (hY : ∀ b, b < X.heap.size → ps[i].2.ownBlock ≠ some b → Y.heap[b]? = X.heap[b]?) (hF : FB tC 1 9 base Y u s.rows) (hu : ∀ b, u.ownBlock = some b → ps[i].2.ownBlock = some b ∨ X.heap.size ≤ b) {p : Nat} (hp : i * 7 = p) :
    TE base (Msg.put7 Y g p s u) (.slice (some ⟨g, 0, none⟩) n cap) (ps.set i (s, u)) := by
  have hg := h.row.own g (by simp [Value.ownBlock])
  have hgb := h.row.blk (b := g) (by simp [Value.ownBlock])
  have hng : ∀ p ∈ ps, p.2.ownBlock ≠ some g := fun p hp e => by
    obtain ⟨c1, e1⟩ := hgb
    obtain ⟨c2, e2⟩ := (h.els p hp).2.blk e
    rw [e1] at e2
    injection e2 with e2
    injection e2 with _ e2 _
    exact absurd e2 (by decide)
  have hrow : FB tsC 7 38 base Y (.slice (some ⟨g, 0, none⟩) n cap) ps := h.row.keep fun b hb => by
    have e : b = g := by simpa [Value.ownBlock, eq_comm] using hb
    rw [e]
    exact hY g hg.2 (hng _ (List.getElem_mem hi))
  have hput := put7_only Y g p s u
  have hug : u.ownBlock ≠ some g := fun e => by
    rcases hu g e with h1 | h1
    · exact hng _ (List.getElem_mem hi) h1
    · omega
  refine ⟨hrow.put7 hi s u hp, fun q hq => ?_, nd_set h.nd hi (s, u) fun b hb j hj hne e => ?_⟩
  · obtain ⟨j, hj, rfl⟩ := List.mem_iff_getElem.1 hq
    rw [List.length_set] at hj
    by_cases hji : j = i
    · subst hji
      rw [List.getElem_set_self]
      exact ⟨hs, hF.only hput fun b hb hm => hug (by rw [List.mem_singleton.1 hm] at hb; simpa using hb)⟩
    · rw [List.getElem_set_ne (Ne.symm hji)]
      have he := h.els ps[j] (List.getElem_mem hj)
      refine ⟨he.1, (he.2.keep fun b hb => hY b (he.2.own b hb).2 fun e => nd_at h.nd hi hj hji e (by simpa using hb)).only hput fun b hb hm => hng _ (List.getElem_mem hj) (by rw [List.mem_singleton.1 hm] at hb; simpa using hb)⟩
  · rcases hu b hb with h1 | h1
    · exact nd_at h.nd hi hj hne h1 e
    · have := ((h.els ps[j] (List.getElem_mem hj)).2.own b (by rw [e]; simp)).2
      omega
end Go.Proofs.YtpmnepalchgcbaaDoor.Msg

namespace Go.Proofs.YtpmnepalchgcbaaDoor.Msg
open Go.ChangeShapes Go.WideShapes Go.ChangeAt Go.RowKit
set_option linter.unusedVariables false
set_option linter.unusedSimpArgs false

/-! a change is applied: pure -/
def stepS (s : Sess) (c : Chg) : Except Int Sess :=
  if c.kind = 2 then (if s.state = 1 then (if 200 < s.rows.length + c.rows.length then .error 4 else .ok { s with rows := s.rows ++ c.rows }) else .error 3)
  else if c.kind = 3 then (if s.state = 1 then .ok { s with state := 2 } else .error 3)
  else if c.kind = 4 then (if s.state = 2 then (if (s.rows.length : Int) < c.n then .error 4 else .ok { s with cursor := c.n }) else .error 3)
  else if c.kind = 5 then (if s.state = 1 then .ok ⟨s.client, s.tag, s.query, s.page, 3, [], 0⟩ else .error 3)
  else (if liveB s.state = true then .ok ⟨s.client, s.tag, s.query, s.page, 4, [], 0⟩ else .error 3)
def atP (xs : List Sess) (i : Nat) : Except Int Sess → List Sess × Int
  | .ok s => (xs.set i s, 0)
  | .error k => (xs, k)
def applyP (xs : List Sess) (c : Chg) : List Sess × Int :=
  if tblB xs = true ∧ chgB c = true then
    (if c.kind = 1 then openP xs c else match xs.findIdx? (keyB c.client c.tag) with
      | some i => atP xs i (stepS (xs.getD i sess0) c)
      | none => (xs, 3))
  else ([], 9)
theorem bnd_sz {lo hi : Nat} {s : ByteArray} (h : boundB lo hi s = true) : s.size ≤ hi := by
  unfold boundB at h
  simp only [Bool.and_eq_true, decide_eq_true_eq] at h
  omega
theorem sess_sm {s : Sess} (h : sessB s = true) : SmS s := by
  unfold sessB at h
  simp only [Bool.and_eq_true] at h
  obtain ⟨⟨_, h1, h2, _, h3⟩, _⟩ := h
  have a1 := bnd_sz h1
  have a2 := bnd_sz h2
  obtain ⟨a3, a4⟩ := rowsB_size h3
  exact ⟨by omega, by omega, by omega, fun r hr => by have := a4 r hr; omega⟩
theorem tbl_sm {xs : List Sess} (h : tblB xs = true) : xs.length ≤ 16 ∧ ∀ s ∈ xs, SmS s := by
  unfold tblB at h
  simp only [Bool.and_eq_true, decide_eq_true_eq] at h
  refine ⟨h.1, fun s hs => ?_⟩
  obtain ⟨i, hi, rfl⟩ := List.mem_iff_getElem.1 hs
  exact sess_sm (h.2 i hi).1
theorem chg_kinds {c : Chg} (h : chgB c = true) : c.kind = 1 ∨ c.kind = 2 ∨ c.kind = 3 ∨ c.kind = 4 ∨ c.kind = 5 ∨ c.kind = 6 := by
  unfold chgB kindB at h
  simp only [Bool.and_eq_true] at h
  have h2 := h.2
  by_cases k1 : c.kind = 1
  · exact .inl k1
  by_cases k2 : c.kind = 2
  · exact .inr (.inl k2)
  by_cases k4 : c.kind = 4
  · exact .inr (.inr (.inr (.inl k4)))
  by_cases k3 : c.kind = 3 ∨ c.kind = 5 ∨ c.kind = 6
  · rcases k3 with h | h | h
    · exact .inr (.inr (.inl h))
    · exact .inr (.inr (.inr (.inr (.inl h))))
    · exact .inr (.inr (.inr (.inr (.inr h))))
  · rw [if_neg k1, if_neg k2, if_neg k4, if_neg k3] at h2
    cases h2
theorem chg_rows {c : Chg} (h : chgB c = true) : c.rows.length ≤ 200 ∧ ∀ r ∈ c.rows, r.size ≤ 200 := by
  unfold chgB kindB at h
  simp only [Bool.and_eq_true] at h
  have h2 := h.2
  have nil : noRowsB c = true → c.rows.length ≤ 200 ∧ ∀ r ∈ c.rows, r.size ≤ 200 := fun hh => by
    unfold noRowsB at hh
    simp only [decide_eq_true_eq] at hh
    have e := List.eq_nil_of_length_eq_zero hh
    rw [e]
    exact ⟨by simp, by simp⟩
  by_cases k1 : c.kind = 1
  · rw [if_pos k1] at h2
    simp only [Bool.and_eq_true] at h2
    exact nil h2.2.1
  rw [if_neg k1] at h2
  by_cases k2 : c.kind = 2
  · rw [if_pos k2] at h2
    simp only [Bool.and_eq_true] at h2
    exact rowsB_size h2.1
  rw [if_neg k2] at h2
  by_cases k4 : c.kind = 4
  · rw [if_pos k4] at h2
    simp only [Bool.and_eq_true] at h2
    exact nil h2.2.2
  rw [if_neg k4] at h2
  split at h2
  · simp only [Bool.and_eq_true] at h2
    exact nil h2.2.1
  · cases h2
/-- the cells of a session in a row that is owned -/
theorem row7 {base : Nat} {X : World} {g n cap : Nat} {ps : List (Sess × Value)} (h : FB tsC 7 38 base X (.slice (some ⟨g, 0, none⟩) n cap) ps) (hz : ps.length ≤ 9223372036854775807) (k : Nat) (hk : k < ps.length) :
    g < X.heap.size ∧ (∀ j, j < 7 → ∃ c, X.cell? ⟨g, k * 7 + j, none⟩ = some c) ∧ ∀ j, X.frozen? ⟨g, j, none⟩ = false := by
  have hb := h.blk (b := g) (by simp [Value.ownBlock])
  obtain ⟨cs, hcs⟩ := hb
  have hB : Box X g 38 cs := hcs
  obtain ⟨h0, hA⟩ := FB.at (C := tsC) (c := 7) (Z := fun _ => True) tsC_len h hz (fun _ _ => trivial)
  rcases hA with ⟨a9, c9, e9, e2⟩ | ⟨b9, off9, c9, e9, hbb, hA⟩
  · rw [e2] at hk; simp at hk
  · injection e9 with e1 _ _
    injection e1 with e1
    injection e1 with e1 e2 _
    subst e1 e2
    refine ⟨hbb.2, fun j hj => ?_, fun j => hB.frozen j⟩
    have := (hA k hk).1 j (by simp [tsC]; exact hj)
    exact ⟨_, by simpa using this⟩
end Go.Proofs.YtpmnepalchgcbaaDoor.Msg

namespace Go.Proofs.YtpmnepalchgcbaaDoor.Msg
open Go.ChangeShapes Go.WideShapes Go.ChangeAt Go.RowKit
open Go.Maps (Keyed)
set_option linter.unusedVariables false
set_option linter.unusedSimpArgs false

/-! the book's map: sessions by client and tag -/
theorem laidOut6 : laidOutB Tryd.prog = true := by kernel_rfl
theorem nTy : Tryd.prog.types.size = 124 := by kernel_rfl
theorem keyRow : 70 < Tryd.prog.types.size := by rw [nTy]; decide
theorem keyDeep : Tryd.prog.keyTypeAt 2 70 = true := by kernel_rfl
theorem keyWide : (match Tryd.prog.underlying 70 with | some (.array _ _) | some (.struct _) => true | _ => false) = true := by kernel_rfl
theorem outKeyed : Keyed Tryd.prog 70 := Keyed.of_law (deep_law_laid laidOut6 (m := 2) (by omega) keyRow keyDeep (by simp only [Tryd.underlying70]))
theorem keyCells : Tryd.prog.cellsOf 70 = 2 := by kernel_rfl
theorem keyInt : Tryd.prog.cellsOf 3 = 1 := by kernel_rfl
theorem keyStr : Tryd.prog.cellsOf 9 = 1 := by kernel_rfl
theorem keyTy : Tryd.prog.keyType 70 = true := by kernel_rfl
theorem nTypes : ∃ m, Tryd.prog.types.size = m + 1 := ⟨124 - 1, by kernel_rfl⟩
theorem key_some (i : Int) (s : ByteArray) (hi : (Lit.int .i64 i).wf = true) (hs : s.size ≤ 9223372036854775807) : ∃ kl, keyOf Tryd.prog 70 (.agg #[.int .i64 i, .string s]) = some kl := by
  obtain ⟨m, hm⟩ := nTypes
  have hs' : s.size ≤ maxLen := by unfold maxLen; omega
  unfold keyOf
  simp only [Tryd.underlying70]
  rw [keyTy, hm]
  have hf : (Value.agg #[.int .i64 i, .string s]).formed Tryd.prog 70 = true := by
    simp [Value.formed, Tryd.underlying70, keyCells]
  rw [hf]
  simp [Value.cells, Program.keyLits, Tryd.underlying70, Tryd.underlying3, Tryd.underlying9, keyCells, keyInt, keyStr, hi, hs']
/-- how an element of the map is read: nil, or the block that it points at the head of -/
def ptrElem2 (v : Value) : Option (DataW Unit × List MemPlace) := match v with
  | .pointer none => some (.nil, [])
  | .pointer (some a) => if a = ⟨a.block, 0, none⟩ then some (.lit (.int .i64 a.block), []) else none
  | _ => none
theorem ptrElem2_nil {v : Value} {ps : List MemPlace} (h : ptrElem2 v = some (.nil, ps)) : v = .pointer none := by
  unfold ptrElem2 at h
  split at h
  · rfl
  · split at h
    · injection h with h; injection h with h1 _; cases h1
    · cases h
  · cases h
theorem ptrElem2_some {v : Value} {b : Nat} {ps : List MemPlace} (h : ptrElem2 v = some (.lit (.int .i64 (b : Int)), ps)) : v = .pointer (some ⟨b, 0, none⟩) := by
  unfold ptrElem2 at h
  split at h
  · injection h with h; injection h with h1 _; cases h1
  · rename_i a
    split at h
    · rename_i ha
      injection h with h
      injection h with h1 _
      injection h1 with h1
      injection h1 with _ h1
      have hb : a.block = b := by omega
      rw [ha, hb]
    · cases h
  · cases h
/-- what the map answers -/
def outD (o : Option Nat) (z : DataW Unit) : DataW Unit := match o with | some b => .lit (.int .i64 (b : Int)) | none => z
def outV (o : Option Nat) : Value := match o with | some b => .pointer (some ⟨b, 0, none⟩) | none => .pointer none
/-- what a map of lines holds -/
def MapF (w : World) (M n : Nat) (f : Int → ByteArray → Option Nat) : Prop :=
  ∃ D, w.ownsMap (H := Unit) Tryd.prog 70 ptrElem2 M n D ∧ ∀ i s kl, keyOf Tryd.prog 70 (.agg #[.int .i64 i, .string s]) = some kl → ∀ z, D.atKey kl z = outD (f i s) z
theorem MapF.new (w : World) : MapF (w.alloc (.map #[] 0)) w.heap.size 0 (fun _ _ => none) := ⟨_, World.ownsMap_made w _ _ _, fun _ _ _ _ _ => rfl⟩
theorem MapF.keep {w w' : World} {M n : Nat} {f : Int → ByteArray → Option Nat} (h : MapF w M n f) (hb : w'.heap[M]? = w.heap[M]?) : MapF w' M n f := by
  obtain ⟨D, ⟨es, c, h1, h2⟩, h3⟩ := h
  exact ⟨D, ⟨es, c, by rw [hb]; exact h1, h2⟩, h3⟩
theorem MapF.put {w w' : World} {M n : Nat} {f : Int → ByteArray → Option Nat} (h : MapF w M n f) (hn : n ≤ 1000000) (i : Int) (s : ByteArray) (b : Nat) (hi : (Lit.int .i64 i).wf = true) (hs : s.size ≤ 9223372036854775807)
    (hr : (Instr.mapUpdate 64 (.map (some M)) (.agg #[.int .i64 i, .string s]) (.pointer (some ⟨b, 0, none⟩))).run Tryd.prog w = .ok () w') : MapF w' M (n + 1) (fun j t => if j = i ∧ t = s then some b else f j t) := by
  obtain ⟨D, h, hD⟩ := h
  obtain ⟨kl, hk⟩ := key_some i s hi hs
  obtain ⟨w2, hr2, ho, _⟩ := h.update outKeyed Tryd.underlying64 (by unfold maxLen; omega) hk (show ptrElem2 (.pointer (some ⟨b, 0, none⟩)) = some (.lit (.int .i64 (b : Int)), []) from by simp [ptrElem2])
  rw [hr] at hr2
  injection hr2 with _ e
  rw [e]
  refine ⟨_, ho, fun j t kl2 hk2 z => ?_⟩
  by_cases hjt : j = i ∧ t = s
  · obtain ⟨rfl, rfl⟩ := hjt
    have e2 : kl = kl2 := Option.some.inj (hk.symm.trans hk2)
    subst e2
    rw [Maps.atKey_put_same h.isMap (outKeyed.key hk)]
    show _ = outD (if j = j ∧ t = t then some b else f j t) z
    rw [if_pos ⟨rfl, rfl⟩]
    rfl
  · have hne : kl2 ≠ kl := fun e => hjt (by
      have := outKeyed.inj (by rw [← e]; exact hk2) hk
      injection this with this
      simp at this
      exact this)
    rw [Maps.atKey_put_other hne, hD j t kl2 hk2 z]
    show _ = outD (if j = i ∧ t = s then some b else f j t) z
    rw [if_neg hjt]
theorem zeroPtr (w : World) : (zeroValue 68).run Tryd.prog w = .ok (.pointer none) w := by
  have hz : Tryd.t68.zero = some (.pointer none) := by kernel_rfl
  simp [zeroValue, go_sem, Tryd.underlying68, hz]
theorem MapF.look {w : World} {M n : Nat} {f : Int → ByteArray → Option Nat} (h : MapF w M n f) (i : Int) (s : ByteArray) (hi : (Lit.int .i64 i).wf = true) (hs : s.size ≤ 9223372036854775807) :
    (Instr.lookup 64 (.map (some M)) (.agg #[.int .i64 i, .string s]) false).run Tryd.prog w = .ok (outV (f i s)) w := by
  obtain ⟨D, h, hD⟩ := h
  obtain ⟨kl, hk⟩ := key_some i s hi hs
  obtain ⟨v, ps, hr, hv⟩ := h.lookup outKeyed Tryd.underlying64 (zeroPtr w) (show ptrElem2 (.pointer none) = some (.nil, []) from rfl) hk
  rw [hD i s kl hk] at hv
  rw [hr]
  cases hf : f i s with
  | none => rw [hf] at hv; rw [ptrElem2_nil hv]; rfl
  | some b => rw [hf] at hv; rw [ptrElem2_some hv]; rfl
/-- a put goes through -/
theorem MapF.puts {w : World} {M n : Nat} {f : Int → ByteArray → Option Nat} (h : MapF w M n f) (hn : n ≤ 1000000) (i : Int) (s : ByteArray) (b : Nat) (hi : (Lit.int .i64 i).wf = true) (hs : s.size ≤ 9223372036854775807) :
    ∃ w', (Instr.mapUpdate 64 (.map (some M)) (.agg #[.int .i64 i, .string s]) (.pointer (some ⟨b, 0, none⟩))).run Tryd.prog w = .ok () w' ∧ MapF w' M (n + 1) (fun j t => if j = i ∧ t = s then some b else f j t) ∧ Only [M] w w' := by
  obtain ⟨D, h1, hD⟩ := id h
  obtain ⟨kl, hk⟩ := key_some i s hi hs
  obtain ⟨w', hr, ho, hg⟩ := h1.update outKeyed Tryd.underlying64 (by unfold maxLen; omega) hk (show ptrElem2 (.pointer (some ⟨b, 0, none⟩)) = some (.lit (.int .i64 (b : Int)), []) from by simp [ptrElem2])
  exact ⟨w', hr, h.put hn i s b hi hs hr, hg.os, hg.tape, hg.output, hg.size, fun k hk1 hk2 => hg.block k hk1 fun e => hk2 (by injection e with e; rw [e]; simp)⟩
theorem MapF.drops {w : World} {M n : Nat} {f : Int → ByteArray → Option Nat} (h : MapF w M n f) (i : Int) (s : ByteArray) (hi : (Lit.int .i64 i).wf = true) (hs : s.size ≤ 9223372036854775807) (ty : TypeId) :
    ∃ w', (Builtin.delete_ #[64, 70] ty #[.map (some M), .agg #[.int .i64 i, .string s]]).run Tryd.prog w = .ok (.tuple #[]) w' ∧ MapF w' M n (fun j t => if j = i ∧ t = s then none else f j t) ∧ Only [M] w w' := by
  obtain ⟨D, h1, hD⟩ := id h
  obtain ⟨kl, hk⟩ := key_some i s hi hs
  obtain ⟨w', hr, ho, es, clock, es', clock', hb, rfl⟩ := h1.drop outKeyed Tryd.underlying64 hk ty
  have hlt : M < w.heap.size := h1.lt
  refine ⟨_, hr, ⟨_, ho, fun j t kl2 hk2 z => ?_⟩, rfl, rfl, rfl, by simp [Go.ChangeMaps.setBlock], fun d hd hn => ?_⟩
  · by_cases hjt : j = i ∧ t = s
    · obtain ⟨rfl, rfl⟩ := hjt
      have e2 : kl = kl2 := Option.some.inj (hk.symm.trans hk2)
      subst e2
      rw [Maps.atKey_del_same]
      show _ = outD (if j = j ∧ t = t then none else f j t) z
      rw [if_pos ⟨rfl, rfl⟩]
      rfl
    · have hne : kl2 ≠ kl := fun e => hjt (by
        have := outKeyed.inj (by rw [← e]; exact hk2) hk
        injection this with this
        simp at this
        exact this)
      rw [Maps.atKey_del_other hne, hD j t kl2 hk2 z]
      show _ = outD (if j = i ∧ t = s then none else f j t) z
      rw [if_neg hjt]
  · have hne : d ≠ M := fun e => hn (by rw [e]; simp)
    simp [Go.ChangeMaps.setBlock, Array.getElem?_setIfInBounds, Ne.symm hne]
theorem MapF.lt {w : World} {M n : Nat} {f : Int → ByteArray → Option Nat} (h : MapF w M n f) : M < w.heap.size := let ⟨_, h, _⟩ := h; h.lt
theorem MapF.ne {w : World} {M n b : Nat} {f : Int → ByteArray → Option Nat} {t : TypeId} {cs : Array Value} (h : MapF w M n f) (hb : Box w b t cs) : b ≠ M := fun e => by
  obtain ⟨D, ⟨es, c, h1, h2⟩, _⟩ := h
  unfold Box at hb
  rw [e, h1] at hb
  cases hb
theorem Box.ne {w : World} {b b' : Nat} {t t' : TypeId} {cs cs' : Array Value} (h : Box w b t cs) (h' : Box w b' t' cs') (ht : t ≠ t') : b ≠ b' := fun e => by
  unfold Box at *
  rw [e, h'] at h
  injection h with h
  injection h with _ h2
  exact ht h2.symm
end Go.Proofs.YtpmnepalchgcbaaDoor.Msg
