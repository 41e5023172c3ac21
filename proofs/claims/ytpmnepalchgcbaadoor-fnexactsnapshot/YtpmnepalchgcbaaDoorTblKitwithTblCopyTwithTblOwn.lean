import Derived.Test.YtpmnepalchgcbaaDoorFlatAppwithDrawMsgKwithTblCopy
namespace Go.Proofs.YtpmnepalchgcbaaDoor.Msg
open Go.ChangeShapes Go.WideShapes Go.ChangeAt Go.RowKit
set_option linter.unusedVariables false
set_option linter.unusedSimpArgs false

/-! a table whose memory is its own: the row of sessions, and the rows of each in a block of its own -/
def tsC (p : Sess × Value) : List Value := [.int .i64 p.1.client, .string p.1.tag, .string p.1.query, .int .i64 p.1.page, .int .i64 p.1.state, p.2, .int .i64 p.1.cursor]
theorem tsC_len (p : Sess × Value) : (tsC p).length = 7 := rfl
def SmS (s : Sess) : Prop := s.tag.size ≤ 9223372036854775807 ∧ s.query.size ≤ 9223372036854775807 ∧ s.rows.length ≤ 100000 ∧ ∀ r ∈ s.rows, r.size ≤ 9223372036854775807
def rowA (L : Nat) (W : World) (u : Value) (s : Sess) : Prop := FB tC 1 9 L W u s.rows
def SessP (p : Sess × Value) (s : Sess) : Prop := p.1 = s ∧ SmS s
abbrev SessInds := Inds (α := Sess) (β := Sess × Value) rowA (fun p => p.2) SessP
structure TB (base : Nat) (X : World) (v : Value) (ps : List (Sess × Value)) (xs : List Sess) : Prop where
  row : FB tsC 7 38 base X v ps
  els : SessInds base X v ps xs
  nd : ((ps.map (·.2)).filterMap Value.ownBlock).Nodup
theorem TB.nil (base : Nat) (X : World) : TB base X (.slice none 0 0) [] [] := ⟨FB.nil _ _ _ _ _, Inds.nil _ _ _ _ _ _, by simp⟩
theorem TB.below {base : Nat} {X X' : World} {v : Value} {ps : List (Sess × Value)} {xs : List Sess} (h : TB base X v ps xs) (hb : Below X.heap.size X X') : TB base X' v ps xs := ⟨h.row.below hb, h.els.below hb, h.nd⟩
theorem TB.len {base : Nat} {X : World} {v : Value} {ps : List (Sess × Value)} {xs : List Sess} (h : TB base X v ps xs) : ps.length = xs.length := h.els.1
theorem TB.form {base : Nat} {X : World} {v : Value} {ps : List (Sess × Value)} {xs : List Sess} (h : TB base X v ps xs) : ∃ a c, v = .slice a xs.length c := by
  obtain ⟨a, c, e, _⟩ := h.row.form
  exact ⟨a, c, by rw [← h.len]; exact e⟩
theorem Ind.same {α : Type} {A : Nat → World → Value → α → Prop} {lo : Nat} {w w' : World} {v u : Value} {x : α} (h : Ind A lo w v u x) (hs : w.heap.size ≤ w'.heap.size) (hb : ∀ b, lo ≤ b → v.ownBlock ≠ some b → b < w.heap.size → w'.heap[b]? = w.heap[b]?) : Ind A lo w' v u x := by
  obtain ⟨L, W, h1, h2, h3, h4⟩ := h
  exact ⟨L, W, h1, h2, Nat.le_trans h3 hs, fun b g1 g2 => ⟨(hb b (by omega) (h4 b g1 g2).2 (by omega)).trans (h4 b g1 g2).1, (h4 b g1 g2).2⟩⟩
theorem Ind.swap {α : Type} {A : Nat → World → Value → α → Prop} {lo : Nat} {w w' : World} {v v' u : Value} {x : α} (h : Ind A lo w v u x) (hb : Below w.heap.size w w') (hv : ∀ b, v'.ownBlock = some b → w.heap.size ≤ b) : Ind A lo w' v' u x := by
  obtain ⟨L, W, h1, h2, h3, h4⟩ := h
  exact ⟨L, W, h1, h2, Nat.le_trans h3 hb.size, fun b g1 g2 => ⟨(hb.block b (by omega)).trans (h4 b g1 g2).1, fun e => by have := hv b e; omega⟩⟩
theorem FB.low {α : Type} {C : α → List Value} {c : Nat} {e : TypeId} {base base' : Nat} {w : World} {v : Value} {xs : List α} (h : FB C c e base w v xs) (hb : base' ≤ base) : FB C c e base' w v xs := by
  obtain ⟨hl, ⟨e1, h0⟩ | ⟨g, cap, cur, e1, hg, rest⟩⟩ := h
  · exact ⟨hl, .inl ⟨e1, h0⟩⟩
  · exact ⟨hl, .inr ⟨g, cap, cur, e1, by omega, rest⟩⟩
/-- the rows, now -/
theorem Ind.rows {lo : Nat} {w : World} {v u : Value} {x : Sess} (h : Ind rowA lo w v u x) : FB tC 1 9 lo w u x.rows ∧ ∀ b, u.ownBlock = some b → v.ownBlock ≠ some b := by
  obtain ⟨L, W, h1, h2, h3, h4⟩ := h
  have h2' : FB tC 1 9 L W u x.rows := h2
  refine ⟨?_, fun b hb => ?_⟩
  · have := h2'.keep (w' := w) fun b hb => (h4 b (h2'.own b hb).1 (h2'.own b hb).2).1
    exact this.low h1
  · have := h2'.own b (by rw [hb]; simp)
    exact (h4 b this.1 this.2).2
theorem TB.own {base : Nat} {X : World} {v : Value} {ps : List (Sess × Value)} {xs : List Sess} (h : TB base X v ps xs) : ∀ p ∈ ps, ∀ b, p.2.ownBlock = some b → base ≤ b ∧ b < X.heap.size := fun p hp b hb => by
  obtain ⟨i, hi, rfl⟩ := List.mem_iff_getElem.1 hp
  exact (h.els.2.2 i hi (by rw [← h.len]; exact hi)).2.rows.1.own b (by rw [hb]; simp)
theorem TB.setB {base : Nat} {X : World} {v : Value} {ps : List (Sess × Value)} {xs : List Sess} (h : TB base X v ps xs) {b o : Nat} (hb : b < base) (x : Value) : TB base (X.setCell ⟨b, o, none⟩ x) v ps xs :=
  ⟨h.row.set1 hb x, ⟨h.els.1, h.els.2.1, fun i h1 h2 => ⟨(h.els.2.2 i h1 h2).1, (h.els.2.2 i h1 h2).2.same (by rw [Deep.nblk_setCell]; exact Nat.le_refl _) fun d hd _ _ => Deep.blk_setCell_other _ ⟨b, o, none⟩ _ d (by dsimp only; omega)⟩⟩, h.nd⟩
theorem TB.mono {base base' : Nat} {X : World} {v : Value} {ps : List (Sess × Value)} {xs : List Sess} (h : TB base X v ps xs) (hb : base' ≤ base) : TB base' X v ps xs :=
  ⟨h.row.low hb, ⟨h.els.1, h.els.2.1, fun i h1 h2 => ⟨(h.els.2.2 i h1 h2).1, by obtain ⟨L, W, a, b, c, d⟩ := (h.els.2.2 i h1 h2).2; exact ⟨L, W, Nat.le_trans hb a, b, c, d⟩⟩⟩, h.nd⟩
/-- for reading -/
theorem TB.sesss {base : Nat} {X : World} {v : Value} {ps : List (Sess × Value)} {xs : List Sess} (h : TB base X v ps xs) (hz : xs.length ≤ 9223372036854775807) : SesssAt base X v xs := by
  obtain ⟨h0, hA⟩ := FB.at (C := tsC) (c := 7) (Z := fun _ => True) tsC_len h.row (by rw [h.len]; exact hz) (fun _ _ => trivial)
  refine ⟨hz, ?_⟩
  rcases hA with ⟨a, cap, e, rfl⟩ | ⟨b, off, cap, e, hbb, hA⟩
  · exact .inl ⟨a, cap, e, List.eq_nil_of_length_eq_zero (by rw [← h.len]; rfl)⟩
  · refine .inr ⟨b, off, cap, by rw [← h.len]; exact e, hbb, fun i hi => ?_⟩
    have hi1 : i < ps.length := by rw [h.len]; exact hi
    obtain ⟨⟨q1, z1, z2, z3, z4⟩, hI⟩ := h.els.2.2 i hi1 hi
    have c0 := (hA i hi1).1 0 (by simp [tsC])
    have c1 := (hA i hi1).1 1 (by simp [tsC])
    have c2 := (hA i hi1).1 2 (by simp [tsC])
    have c3 := (hA i hi1).1 3 (by simp [tsC])
    have c4 := (hA i hi1).1 4 (by simp [tsC])
    have c5 := (hA i hi1).1 5 (by simp [tsC])
    have c6 := (hA i hi1).1 6 (by simp [tsC])
    rw [← q1] at z1 z2 z3 z4 hI ⊢
    exact ⟨by simpa [tsC] using c0, by simpa [tsC] using c1, by simpa [tsC] using c2, by simpa [tsC] using c3, by simpa [tsC] using c4, by simpa [tsC] using c6, z1, z2, ps[i].2, by simpa [tsC] using c5, tC_strs hI.rows.1 (by omega) z4⟩
theorem nd_snoc {ps : List (Sess × Value)} {p : Sess × Value} (h : ((ps.map (·.2)).filterMap Value.ownBlock).Nodup) (hn : ∀ b, p.2.ownBlock = some b → ∀ q ∈ ps, q.2.ownBlock ≠ some b) : (((ps ++ [p]).map (·.2)).filterMap Value.ownBlock).Nodup := by
  rw [List.map_append, List.filterMap_append]
  refine List.nodup_append.2 ⟨h, ?_, ?_⟩
  · cases hp : p.2.ownBlock <;> simp [hp]
  · intro a ha b hb e
    subst e
    obtain ⟨x, hx, ea⟩ := List.mem_filterMap.1 ha
    obtain ⟨q, hq, rfl⟩ := List.mem_map.1 hx
    obtain ⟨y, hy, eb⟩ := List.mem_filterMap.1 hb
    simp at hy
    subst hy
    exact hn a eb q hq ea
/-- a session more -/
theorem TB.more {base n : Nat} {X : World} {v : Value} {ps : List (Sess × Value)} {xs : List Sess} (h : TB base X v ps xs) (s : Sess) (u : Value) (hs : SmS s) (hu : Ind rowA base X v u s) (h1 : OneV u) (hd : ∀ b, u.ownBlock = some b → ∀ q ∈ ps, q.2.ownBlock ≠ some b) (hb : base ≤ X.heap.size) (hn : xs.length = n) (hl : n ≤ 100000) :
    ∃ a' c' w', (Builtin.append_ #[27, 27] 27 #[v, .slice (some ⟨X.heap.size, 0, none⟩) 1 1]).run Tryd.prog (X.alloc (.cells #[.int .i64 s.client, .string s.tag, .string s.query, .int .i64 s.page, .int .i64 s.state, u, .int .i64 s.cursor] 38)) = .ok (.slice a' (n + 1) c') w' ∧
      TB base w' (.slice a' (n + 1) c') (ps ++ [(s, u)]) (xs ++ [s]) ∧ Only v.ownBlock.toList X w' ∧ (∀ b, (Value.slice a' (n + 1) c').ownBlock = some b → v.ownBlock = some b ∨ X.heap.size ≤ b) := by
  obtain ⟨a', c', w', hr, hF, ho, hv⟩ := row_more (C := tsC) (c := 7) (bytes := 88) (e := 38) Tryd.underlying27 info_Sess rfl (by decide) h.row (s, u) rfl (fun z hz => by
    obtain ⟨a, m, c, e⟩ := h1
    have hz' : z = .int .i64 s.client ∨ z = .string s.tag ∨ z = .string s.query ∨ z = .int .i64 s.page ∨ z = .int .i64 s.state ∨ z = u ∨ z = .int .i64 s.cursor := by simpa [tsC] using hz
    rcases hz' with rfl | rfl | rfl | rfl | rfl | rfl | rfl
    all_goals first | rfl | (rw [e]; rfl)) hb (by rw [h.len]; exact hn) hl (by decide)
  exact ⟨a', c', w', hr, ⟨hF, (h.els.snoc (y := (s, u)) h1 ⟨rfl, hs⟩ hu).app ho hv, nd_snoc h.nd hd⟩, ho, hv⟩
end Go.Proofs.YtpmnepalchgcbaaDoor.Msg

namespace Go.Proofs.YtpmnepalchgcbaaDoor.Msg
open Go.ChangeShapes Go.WideShapes Go.ChangeAt Go.RowKit
set_option linter.unusedVariables false
set_option linter.unusedSimpArgs false

/-! l5CopyTable -/
/-- the three boxes -/
structure CT (w : World) (v u : Value) (X : World) : Prop where
  arg : Box X w.heap.size 29 #[v]
  res : Box X (w.heap.size + 1) 29 #[.slice none 0 0]
  out : Box X (w.heap.size + 2) 29 #[u]
  bel : Below w.heap.size w X
theorem CT.lt {w : World} {v u : Value} {X : World} (h : CT w v u X) : w.heap.size + 2 < X.heap.size := h.out.lt
theorem CT.below {w : World} {v u : Value} {X Y : World} (h : CT w v u X) (hb : Below X.heap.size X Y) : CT w v u Y := ⟨h.arg.below hb, h.res.below hb, h.out.below hb, bjoin hb h.bel⟩
theorem CT.set {w : World} {v u : Value} {X : World} (h : CT w v u X) (u' : Value) : CT w v u' (X.setCell ⟨w.heap.size + 2, 0, none⟩ u') :=
  ⟨h.arg.other (by simp) _, h.res.other (by simp) _, by have := h.out.set 0 u'; simpa using this, h.bel.setCell (p := ⟨w.heap.size + 2, 0, none⟩) (by simp) _⟩
theorem CT.only {w : World} {v u : Value} {X Y : World} {bs : List Nat} (h : CT w v u X) (ho : Only bs X Y) (hb : ∀ b ∈ bs, w.heap.size + 3 ≤ b) : CT w v u Y :=
  ⟨h.arg.only ho fun hm => by have := hb _ hm; omega, h.res.only ho fun hm => by have := hb _ hm; omega, h.out.only ho fun hm => by have := hb _ hm; omega, h.bel.trans (ho.below h.bel.size fun d hd => by have := hb d hd; omega)⟩
end Go.Proofs.YtpmnepalchgcbaaDoor.Msg

namespace Go.Proofs.YtpmnepalchgcbaaDoor.Msg
open Go.ChangeShapes Go.WideShapes Go.ChangeAt Go.RowKit
set_option linter.unusedVariables false
set_option linter.unusedSimpArgs false

/-! a table in memory of its own, said over its sessions and where their rows lie -/
structure TE (base : Nat) (X : World) (v : Value) (ps : List (Sess × Value)) : Prop where
  row : FB tsC 7 38 base X v ps
  els : ∀ p ∈ ps, SmS p.1 ∧ FB tC 1 9 base X p.2 p.1.rows
  nd : ((ps.map (·.2)).filterMap Value.ownBlock).Nodup
theorem TE.nil (base : Nat) (X : World) : TE base X (.slice none 0 0) [] := ⟨FB.nil _ _ _ _ _, (fun _ h => absurd h (by simp)), by simp⟩
theorem TB.te {base : Nat} {X : World} {v : Value} {ps : List (Sess × Value)} {xs : List Sess} (h : TB base X v ps xs) : TE base X v ps ∧ ps.map Prod.fst = xs := by
  refine ⟨⟨h.row, fun p hp => ?_, h.nd⟩, ?_⟩
  · obtain ⟨i, hi, rfl⟩ := List.mem_iff_getElem.1 hp
    obtain ⟨⟨e, hs⟩, hI⟩ := h.els.2.2 i hi (by rw [← h.len]; exact hi)
    rw [← e] at hs hI
    exact ⟨hs, hI.rows.1⟩
  · apply List.ext_getElem
    · rw [List.length_map]; exact h.len
    · intro i h1 h2
      rw [List.getElem_map]
      exact (h.els.2.2 i (by rw [List.length_map] at h1; exact h1) h2).1.1
theorem TE.form {base : Nat} {X : World} {v : Value} {ps : List (Sess × Value)} (h : TE base X v ps) : ∃ a c, v = .slice a ps.length c ∧ ps.length ≤ c ∧ c ≤ 9223372036854775807 := h.row.form
/-- the blocks that it lies in -/
def TE.In (v : Value) (ps : List (Sess × Value)) (b : Nat) : Prop := v.ownBlock = some b ∨ ∃ p ∈ ps, p.2.ownBlock = some b
theorem TE.keep {base : Nat} {X X' : World} {v : Value} {ps : List (Sess × Value)} (h : TE base X v ps) (hb : ∀ b, TE.In v ps b → X'.heap[b]? = X.heap[b]?) : TE base X' v ps :=
  ⟨h.row.keep fun b hb' => hb b (.inl (by simpa using hb')), fun p hp => ⟨(h.els p hp).1, (h.els p hp).2.keep fun b hb' => hb b (.inr ⟨p, hp, by simpa using hb'⟩)⟩, h.nd⟩
theorem TE.own {base : Nat} {X : World} {v : Value} {ps : List (Sess × Value)} (h : TE base X v ps) {b : Nat} (hb : TE.In v ps b) : base ≤ b ∧ b < X.heap.size := by
  rcases hb with hb | ⟨p, hp, hb⟩
  · exact h.row.own b (by rw [hb]; simp)
  · exact (h.els p hp).2.own b (by rw [hb]; simp)
theorem TE.below {base : Nat} {X X' : World} {v : Value} {ps : List (Sess × Value)} (h : TE base X v ps) (hb : Below X.heap.size X X') : TE base X' v ps := h.keep fun b hi => hb.block b (h.own hi).2
theorem TE.low {base base' : Nat} {X : World} {v : Value} {ps : List (Sess × Value)} (h : TE base X v ps) (hb : base' ≤ base) : TE base' X v ps := ⟨h.row.low hb, fun p hp => ⟨(h.els p hp).1, (h.els p hp).2.low hb⟩, h.nd⟩
theorem FB.blk {α : Type} {C : α → List Value} {c : Nat} {e : TypeId} {base : Nat} {w : World} {v : Value} {xs : List α} (h : FB C c e base w v xs) {b : Nat} (hb : v.ownBlock = some b) : ∃ cs, w.heap[b]? = some (.cells cs e (0, 0)) := by
  obtain ⟨_, ⟨rfl, h0⟩ | ⟨g, cap, cur, rfl, hg, hs, _⟩⟩ := h
  · simp [Value.ownBlock] at hb
  · simp [Value.ownBlock] at hb
    subst hb
    exact ⟨cur, hs⟩
/-- a box of another type lies elsewhere -/
theorem TE.apart {base : Nat} {X : World} {v : Value} {ps : List (Sess × Value)} (h : TE base X v ps) {b : Nat} {t : TypeId} {cs : Array Value} (hx : Box X b t cs) (h1 : t ≠ 38) (h2 : t ≠ 9) : ¬ TE.In v ps b := by
  have hb : X.heap[b]? = some (.cells cs t (0, 0)) := hx
  rintro (hi | ⟨p, hp, hi⟩)
  · obtain ⟨c, e⟩ := h.row.blk hi
    rw [hb] at e
    injection e with e
    injection e with _ e _
    exact h1 e
  · obtain ⟨c, e⟩ := (h.els p hp).2.blk hi
    rw [hb] at e
    injection e with e
    injection e with _ e _
    exact h2 e
theorem TE.setBox {base : Nat} {X : World} {v : Value} {ps : List (Sess × Value)} (h : TE base X v ps) {b o : Nat} {t : TypeId} {cs : Array Value} (hx : Box X b t cs) (x : Value) (h1 : t ≠ 38 := by decide) (h2 : t ≠ 9 := by decide) : TE base (X.setCell ⟨b, o, none⟩ x) v ps :=
  h.keep fun d hd => Deep.blk_setCell_other _ ⟨b, o, none⟩ _ d (by dsimp only; intro e; subst e; exact h.apart hx h1 h2 hd)
/-- for reading -/
theorem TE.sesss {base : Nat} {X : World} {v : Value} {ps : List (Sess × Value)} (h : TE base X v ps) (hz : ps.length ≤ 9223372036854775807) : SesssAt base X v (ps.map Prod.fst) := by
  obtain ⟨h0, hA⟩ := FB.at (C := tsC) (c := 7) (Z := fun _ => True) tsC_len h.row hz (fun _ _ => trivial)
  refine ⟨by rw [List.length_map]; exact hz, ?_⟩
  rcases hA with ⟨a, cap, e, rfl⟩ | ⟨b, off, cap, e, hbb, hA⟩
  · exact .inl ⟨a, cap, e, rfl⟩
  · refine .inr ⟨b, off, cap, by rw [List.length_map]; exact e, hbb, fun i hi => ?_⟩
    have hi1 : i < ps.length := by rw [List.length_map] at hi; exact hi
    obtain ⟨⟨z1, z2, z3, z4⟩, hF⟩ := h.els ps[i] (List.getElem_mem hi1)
    have c0 := (hA i hi1).1 0 (by simp [tsC])
    have c1 := (hA i hi1).1 1 (by simp [tsC])
    have c2 := (hA i hi1).1 2 (by simp [tsC])
    have c3 := (hA i hi1).1 3 (by simp [tsC])
    have c4 := (hA i hi1).1 4 (by simp [tsC])
    have c5 := (hA i hi1).1 5 (by simp [tsC])
    have c6 := (hA i hi1).1 6 (by simp [tsC])
    rw [List.getElem_map]
    exact ⟨by simpa [tsC] using c0, by simpa [tsC] using c1, by simpa [tsC] using c2, by simpa [tsC] using c3, by simpa [tsC] using c4, by simpa [tsC] using c6, z1, z2, ps[i].2, by simpa [tsC] using c5, tC_strs hF (by omega) z4⟩
/-- the cells of a session -/
theorem TE.cells {base : Nat} {X : World} {b off n cap : Nat} {ps : List (Sess × Value)} (h : TE base X (.slice (some ⟨b, off, none⟩) n cap) ps) (hz : ps.length ≤ 9223372036854775807) (k : Nat) (hk : k < ps.length) :
    b < X.heap.size ∧ X.cell? ⟨b, off + k * 7, none⟩ = some (.int .i64 ps[k].1.client) ∧ X.cell? ⟨b, off + k * 7 + 1, none⟩ = some (.string ps[k].1.tag) ∧ X.cell? ⟨b, off + k * 7 + 2, none⟩ = some (.string ps[k].1.query) ∧ X.cell? ⟨b, off + k * 7 + 3, none⟩ = some (.int .i64 ps[k].1.page) ∧ X.cell? ⟨b, off + k * 7 + 4, none⟩ = some (.int .i64 ps[k].1.state) ∧ X.cell? ⟨b, off + k * 7 + 5, none⟩ = some ps[k].2 ∧ X.cell? ⟨b, off + k * 7 + 6, none⟩ = some (.int .i64 ps[k].1.cursor) := by
  obtain ⟨h0, hA⟩ := FB.at (C := tsC) (c := 7) (Z := fun _ => True) tsC_len h.row hz (fun _ _ => trivial)
  rcases hA with ⟨a9, c9, e9, e2⟩ | ⟨b9, off9, c9, e9, hbb, hA⟩
  · rw [e2] at hk; simp at hk
  · injection e9 with e1 _ _
    injection e1 with e1
    injection e1 with e1 e2 _
    subst e1 e2
    have g := fun j hj => (hA k hk).1 j hj
    have c0 := g 0 (by simp [tsC])
    have c1 := g 1 (by simp [tsC])
    have c2 := g 2 (by simp [tsC])
    have c3 := g 3 (by simp [tsC])
    have c4 := g 4 (by simp [tsC])
    have c5 := g 5 (by simp [tsC])
    have c6 := g 6 (by simp [tsC])
    exact ⟨hbb.2, by simpa [tsC] using c0, by simpa [tsC] using c1, by simpa [tsC] using c2, by simpa [tsC] using c3, by simpa [tsC] using c4, by simpa [tsC] using c5, by simpa [tsC] using c6⟩
end Go.Proofs.YtpmnepalchgcbaaDoor.Msg
