import Derived.Test.YtpmnepalchgcbaaDoorTblKitwithTblCopyTwithTblOwn
import Derived.Test.YtpmnepalchgcbaaDoorTblAtwithMarkTextwithMarkData
import Derived.Test.YtpmnepalchgcbaaDoorTblOk
import Derived.Test.YtpmnepalchgcbaaDoorRowsImplwithQryNumwithChgPure
import Derived.Deep.LoopGhost
import Derived.Deep.DeepCutAuto
namespace Go.Proofs.YtpmnepalchgcbaaDoor.Msg
open Go.ChangeShapes Go.WideShapes Go.ChangeAt Go.RowKit
set_option linter.unusedVariables false
set_option linter.unusedSimpArgs false

/-! l5Without -/
def woL {α : Type} (at_ : Nat) (xs : List α) (k : Nat) : List α := (xs.take k).eraseIdx at_
theorem woL_at {α : Type} (at_ : Nat) (xs : List α) : woL at_ xs (at_ + 1) = woL at_ xs at_ := by
  unfold woL
  by_cases h : at_ < xs.length
  · rw [List.take_succ_eq_append_getElem h, List.eraseIdx_append_of_length_le (by rw [List.length_take]; omega), List.eraseIdx_of_length_le (l := xs.take at_) (by rw [List.length_take]; omega)]
    have e : at_ - (xs.take at_).length = 0 := by rw [List.length_take]; omega
    rw [e]
    simp
  · rw [List.take_of_length_le (by omega), List.take_of_length_le (by omega)]
theorem woL_step {α : Type} (at_ : Nat) (xs : List α) (k : Nat) (h : k < xs.length) (hn : k ≠ at_) : woL at_ xs (k + 1) = woL at_ xs k ++ [xs[k]] := by
  unfold woL
  rw [List.take_succ_eq_append_getElem h]
  by_cases hlt : at_ < k
  · rw [List.eraseIdx_append_of_lt_length (by rw [List.length_take]; omega)]
  · rw [List.eraseIdx_append_of_length_le (by rw [List.length_take]; omega), List.eraseIdx_of_length_le (l := xs.take k) (by rw [List.length_take]; omega)]
    have e : 0 < at_ - (xs.take k).length := by rw [List.length_take]; omega
    rw [List.eraseIdx_of_length_le (l := [xs[k]]) (by simp; omega)]
theorem woL_all {α : Type} (at_ : Nat) (xs : List α) : woL at_ xs xs.length = xs.eraseIdx at_ := by unfold woL; rw [List.take_length]
theorem woL_len {α : Type} (at_ : Nat) (xs : List α) (k : Nat) : (woL at_ xs k).length ≤ k := by
  unfold woL
  have := List.length_eraseIdx_le (xs.take k) at_
  rw [List.length_take] at this
  omega
theorem woL_mem {α : Type} (at_ : Nat) (xs : List α) (k : Nat) : ∀ x ∈ woL at_ xs k, x ∈ xs.take k := fun x hx => List.mem_of_mem_eraseIdx hx
/-- two places, two blocks -/
theorem nd_apart {ps : List (Sess × Value)} (h : ((ps.map (·.2)).filterMap Value.ownBlock).Nodup) (k : Nat) (hk : k < ps.length) {b : Nat} (hb : ps[k].2.ownBlock = some b) : ∀ q ∈ ps.take k, q.2.ownBlock ≠ some b := fun q hq e => by
  have e1 : ps = ps.take k ++ ps[k] :: ps.drop (k + 1) := by rw [List.getElem_cons_drop, List.take_append_drop]
  rw [e1, List.map_append, List.filterMap_append] at h
  refine (List.nodup_append.1 h).2.2 b (List.mem_filterMap.2 ⟨q.2, List.mem_map.2 ⟨q, hq, rfl⟩, e⟩) b ?_ rfl
  exact List.mem_filterMap.2 ⟨ps[k].2, List.mem_map.2 ⟨ps[k], List.mem_cons_self .., rfl⟩, hb⟩
theorem wo_nd {ps : List (Sess × Value)} (h : ((ps.map (·.2)).filterMap Value.ownBlock).Nodup) (at_ k : Nat) : (((woL at_ ps k).map (·.2)).filterMap Value.ownBlock).Nodup :=
  h.sublist (((List.eraseIdx_sublist _ _).trans (List.take_sublist _ _)).map _ |>.filterMap _)
end Go.Proofs.YtpmnepalchgcbaaDoor.Msg

namespace Go.Proofs.YtpmnepalchgcbaaDoor.Msg
open Go.ChangeShapes Go.WideShapes Go.ChangeAt Go.RowKit
set_option linter.unusedVariables false
set_option linter.unusedSimpArgs false

/-! a session is opened: pure, and the boxes of l5Open -/
def sess0 : Sess := ⟨0, ⟨#[]⟩, ⟨#[]⟩, 0, 0, [], 0⟩
def newS (c : Chg) : Sess := ⟨c.client, c.tag, c.query, c.page, 1, [], 0⟩
def deadB (s : Sess) : Bool := !liveB s.state
def roomP (xs : List Sess) : List Sess := if xs.length < 16 then xs else match xs.findIdx? deadB with
  | some i => xs.eraseIdx i
  | none => xs
def openFin (xs ys : List Sess) (c : Chg) : List Sess × Int := if 16 ≤ (roomP ys).length then (xs, 2) else (roomP ys ++ [newS c], 0)
def openP (xs : List Sess) (c : Chg) : List Sess × Int := match xs.findIdx? (keyB c.client c.tag) with
  | some i => if liveB (xs.getD i sess0).state then (xs, 1) else openFin xs (xs.eraseIdx i) c
  | none => openFin xs xs c
theorem place_some {xs : List Sess} {c : Int} {t : ByteArray} {i : Nat} (h : xs.findIdx? (keyB c t) = some i) : placeOf xs c t = (i : Int) ∧ i < xs.length := by
  refine ⟨by unfold placeOf; rw [h], ?_⟩
  rw [List.findIdx?_eq_some_iff_getElem] at h
  exact h.1
theorem place_no {xs : List Sess} {c : Int} {t : ByteArray} (h : xs.findIdx? (keyB c t) = none) : placeOf xs c t = -1 := by unfold placeOf; rw [h]
/-- what holds at the head of the loop that makes room -/
def RoomAt (ys qs : List Sess) (k : Nat) : Prop := (qs = ys ∧ ∀ i (h : i < ys.length), i < k → deadB ys[i] = false) ∨ (qs.length < 16 ∧ qs = roomP ys)
theorem room_start (ys : List Sess) : RoomAt ys ys 0 := .inl ⟨rfl, fun _ _ h => absurd h (by omega)⟩
theorem room_end {ys qs : List Sess} {k : Nat} (h : RoomAt ys qs k) (hl : ¬ (k < qs.length ∧ 16 ≤ qs.length)) : qs = roomP ys := by
  rcases h with ⟨rfl, h⟩ | ⟨_, h⟩
  · by_cases hs : qs.length < 16
    · unfold roomP; rw [if_pos hs]
    · have hn : qs.findIdx? deadB = none := by
        rw [List.findIdx?_eq_none_iff]
        intro x hx
        obtain ⟨i, hi, rfl⟩ := List.getElem_of_mem hx
        exact h i hi (by omega)
      unfold roomP
      rw [if_neg hs, hn]
  · exact h
theorem room_live {ys qs : List Sess} {k : Nat} (h : RoomAt ys qs k) (hk : k < qs.length) (h16 : 16 ≤ qs.length) (hd : deadB (qs.getD k sess0) = false) : RoomAt ys qs (k + 1) := by
  rcases h with ⟨rfl, h⟩ | ⟨h1, _⟩
  · refine .inl ⟨rfl, fun i hi hik => ?_⟩
    by_cases e : i = k
    · subst e
      rw [List.getD_eq_getElem?_getD, List.getElem?_eq_getElem hi] at hd
      exact hd
    · exact h i hi (by omega)
  · omega
theorem room_dead {ys qs : List Sess} {k : Nat} (h : RoomAt ys qs k) (hk : k < qs.length) (h16 : 16 ≤ qs.length) (hm : ys.length ≤ 16) (hd : deadB (qs.getD k sess0) = true) : RoomAt ys (qs.eraseIdx k) (k + 1) := by
  rcases h with ⟨rfl, h⟩ | ⟨h1, _⟩
  · have hs : qs.findIdx? deadB = some k := by
      rw [List.findIdx?_eq_some_iff_getElem]
      rw [List.getD_eq_getElem?_getD, List.getElem?_eq_getElem hk] at hd
      exact ⟨hk, hd, fun j hj => by simp [h j (by omega) hj]⟩
    refine .inr ⟨by rw [List.length_eraseIdx, if_pos hk]; omega, ?_⟩
    unfold roomP
    rw [if_neg (by omega), hs]
  · omega
theorem room_len (ys : List Sess) (hm : ys.length ≤ 16) : (roomP ys).length ≤ 16 := by
  unfold roomP
  split
  · omega
  · split
    · have := List.length_eraseIdx_le ys (by assumption); omega
    · exact hm
/-- the boxes -/
structure OB (w : World) (B : Nat) (v t : Value) (cv : Array Value) (X : World) : Prop where
  arg : Box X w.heap.size 29 #[v]
  chg : Box X (w.heap.size + 1) 40 cv
  res : Box X (w.heap.size + 2) 29 #[.slice none 0 0]
  out : Box X B 29 #[t]
  bel : Below w.heap.size w X
  lt : w.heap.size + 2 < B
theorem OB.below {w : World} {B : Nat} {v t : Value} {cv : Array Value} {X Y : World} (h : OB w B v t cv X) (hb : Below X.heap.size X Y) : OB w B v t cv Y := ⟨h.arg.below hb, h.chg.below hb, h.res.below hb, h.out.below hb, bjoin hb h.bel, h.lt⟩
theorem OB.set {w : World} {B : Nat} {v t : Value} {cv : Array Value} {X : World} (h : OB w B v t cv X) (t' : Value) : OB w B v t' cv (X.setCell ⟨B, 0, none⟩ t') := by
  have hl := h.lt
  exact ⟨h.arg.other (by simp; omega) _, h.chg.other (by simp; omega) _, h.res.other (by simp; omega) _, by have := h.out.set 0 t'; simpa using this, h.bel.setCell (p := ⟨B, 0, none⟩) (by dsimp only; omega) _, hl⟩
theorem OB.only {w : World} {B : Nat} {v t : Value} {cv : Array Value} {X Y : World} {bs : List Nat} (h : OB w B v t cv X) (ho : Only bs X Y) (hb : ∀ b ∈ bs, w.heap.size + 3 ≤ b ∧ b ≠ B) : OB w B v t cv Y :=
  ⟨h.arg.only ho fun hm => by have := hb _ hm; omega, h.chg.only ho fun hm => by have := hb _ hm; omega, h.res.only ho fun hm => by have := hb _ hm; omega, h.out.only ho fun hm => (hb _ hm).2 rfl, h.bel.trans (ho.below h.bel.size fun d hd => by have := hb d hd; omega), h.lt⟩
theorem OB.cells {w : World} {B : Nat} {v t : Value} {cv : Array Value} {X : World} (h : OB w B v t cv X) : X.cell? ⟨w.heap.size, 0, none⟩ = some v ∧ X.cell? ⟨B, 0, none⟩ = some t ∧ X.frozen? ⟨B, 0, none⟩ = false ∧ B < X.heap.size ∧ X.cell? ⟨w.heap.size + 2, 0, none⟩ = some (.slice none 0 0) ∧ X.frozen? ⟨w.heap.size + 2, 0, none⟩ = false ∧ w.heap.size + 2 < X.heap.size :=
  ⟨h.arg.cell 0 (by simp), h.out.cell 0 (by simp), h.out.frozen 0, h.out.lt, h.res.cell 0 (by simp), h.res.frozen 0, h.res.lt⟩
/-- a session more, its rows none -/
theorem TE.new {base n : Nat} {X : World} {v : Value} {ps : List (Sess × Value)} (h : TE base X v ps) (s : Sess) (hs : SmS s) (h0 : s.rows = []) (hb : base ≤ X.heap.size) (hn : ps.length = n) (hl : n ≤ 100000) :
    ∃ a' c' w', (Builtin.append_ #[27, 27] 27 #[v, .slice (some ⟨X.heap.size, 0, none⟩) 1 1]).run Tryd.prog (X.alloc (.cells #[.int .i64 s.client, .string s.tag, .string s.query, .int .i64 s.page, .int .i64 s.state, .slice none 0 0, .int .i64 s.cursor] 38)) = .ok (.slice a' (n + 1) c') w' ∧
      TE base w' (.slice a' (n + 1) c') (ps ++ [(s, .slice none 0 0)]) ∧ Only v.ownBlock.toList X w' := by
  obtain ⟨a', c', w', hr, hF, ho, hv⟩ := row_more (C := tsC) (c := 7) (bytes := 88) (e := 38) Tryd.underlying27 info_Sess rfl (by decide) h.row (s, .slice none 0 0) rfl (fun z hz => by
    have hz' : z = .int .i64 s.client ∨ z = .string s.tag ∨ z = .string s.query ∨ z = .int .i64 s.page ∨ z = .int .i64 s.state ∨ z = .slice none 0 0 ∨ z = .int .i64 s.cursor := by simpa [tsC] using hz
    rcases hz' with rfl | rfl | rfl | rfl | rfl | rfl | rfl <;> rfl) hb hn hl (by decide)
  refine ⟨a', c', w', hr, ⟨hF, fun p hp => ?_, nd_snoc h.nd fun b hb' => by simp [Value.ownBlock] at hb'⟩, ho⟩
  rcases List.mem_append.1 hp with hp | hp
  · refine ⟨(h.els p hp).1, (h.els p hp).2.only ho fun b hb' hm => ?_⟩
    obtain ⟨c1, e1⟩ := (h.els p hp).2.blk (b := b) (by simpa using hb')
    obtain ⟨c2, e2⟩ := h.row.blk (b := b) (by simpa using hm)
    rw [e1] at e2
    injection e2 with e2
    injection e2 with _ e2 _
    exact absurd e2 (by decide)
  · rw [List.mem_singleton.1 hp]
    refine ⟨hs, ?_⟩
    rw [h0]
    exact FB.nil _ _ _ _ _
end Go.Proofs.YtpmnepalchgcbaaDoor.Msg

namespace Go.Proofs.YtpmnepalchgcbaaDoor.Msg
open Go.ChangeShapes Go.WideShapes Go.ChangeAt Go.RowKit
set_option linter.unusedVariables false
set_option linter.unusedSimpArgs false

/-! l5Open -/
theorem map_getD (ps : List (Sess × Value)) (i : Nat) (h : i < ps.length) : (ps.map Prod.fst).getD i sess0 = ps[i].1 := by
  rw [List.getD_eq_getElem?_getD, List.getElem?_map, List.getElem?_eq_getElem h]; rfl
theorem map_erase : ∀ (ps : List (Sess × Value)) (i : Nat), (ps.eraseIdx i).map Prod.fst = (ps.map Prod.fst).eraseIdx i
  | [], i => by simp
  | p :: ps, 0 => by simp
  | p :: ps, i + 1 => by simp [map_erase ps i]
theorem te_some {base : Nat} {X : World} {a : Option Addr} {n c : Nat} {ps : List (Sess × Value)} (h : TE base X (.slice a n c) ps) (hz : ps.length ≤ 9223372036854775807) (k : Nat) (hk : k < ps.length) : ∃ b off, a = some ⟨b, off, none⟩ := by
  obtain ⟨_, _, e, hc⟩ := At.form (h.sesss hz)
  injection e with e _ _
  obtain ⟨b, off, e2, _⟩ := hc k (by rw [List.length_map]; exact hk)
  exact ⟨b, off, by rw [e, e2]⟩
end Go.Proofs.YtpmnepalchgcbaaDoor.Msg
