import Derived.Test.YtpmnepalchgcbaaGreatDoorTblTowithTblTo2withTblToO
import Derived.Test.YtpmnepalchgcbaaGreatDoorFlatAppwithDrawMsgKwithPhase
import Derived.Deep.LoopGhost
import Derived.Deep.DeepCutAuto
namespace Go.Proofs.YtpmnepalchgcbaaGreatDoor.Msg
open Go.ChangeShapes Go.WideShapes Go.ChangeAt Go.RowKit
set_option linter.unusedVariables false
set_option linter.unusedSimpArgs false

/-! l5Copy: a session whose rows lie in memory of its own -/
def tC (s : ByteArray) : List Value := [.string s]
theorem tinfo : (Tryz.prog.info? 9).map (fun i => (i.zero, i.size, i.bytes)) = some (some (.string ByteArray.empty), 1, 16) := by kernel_rfl
theorem tC_strs {base : Nat} {w : World} {v : Value} {xs : List ByteArray} (h : FB tC 1 9 base w v xs) (hl : xs.length ≤ 9223372036854775807) (hz : ∀ s ∈ xs, s.size ≤ 9223372036854775807) : StrsAt base w v xs := by
  obtain ⟨h0, hA⟩ := FB.at (C := tC) (c := 1) (Z := fun s => s.size ≤ 9223372036854775807) (fun _ => rfl) h hl (fun i hi => hz _ (List.getElem_mem hi))
  refine ⟨h0, ?_⟩
  rcases hA with ⟨a, cap, e, e2⟩ | ⟨b, off, cap, e, hb, hA⟩
  · exact .inl ⟨a, cap, e, e2⟩
  · refine .inr ⟨b, off, cap, e, hb, fun i hi => ?_⟩
    obtain ⟨h1, h2⟩ := hA i hi
    exact ⟨by simpa [tC] using h1 0 (by simp [tC]), h2⟩
theorem seven_below {B : Nat} {w X : World} {b : Nat} (h : Below B w X) (hb : B ≤ b) (x0 x1 x2 x3 x4 x5 x6 : Value) :
    Below B w (((((((X.setCell ⟨b, 0, none⟩ x0).setCell ⟨b, 1, none⟩ x1).setCell ⟨b, 2, none⟩ x2).setCell ⟨b, 3, none⟩ x3).setCell ⟨b, 4, none⟩ x4).setCell ⟨b, 5, none⟩ x5).setCell ⟨b, 6, none⟩ x6) :=
  ((((((h.setCell (p := ⟨b, 0, none⟩) hb _).setCell (p := ⟨b, 1, none⟩) hb _).setCell (p := ⟨b, 2, none⟩) hb _).setCell (p := ⟨b, 3, none⟩) hb _).setCell (p := ⟨b, 4, none⟩) hb _).setCell (p := ⟨b, 5, none⟩) hb _).setCell (p := ⟨b, 6, none⟩) hb _
theorem FB.set1 {α : Type} {C : α → List Value} {c : Nat} {e : TypeId} {base : Nat} {w : World} {v : Value} {xs : List α} (h : FB C c e base w v xs) {b o : Nat} (ha : b < base) (u : Value) : FB C c e base (w.setCell ⟨b, o, none⟩ u) v xs :=
  h.keep fun d hd => Deep.blk_setCell_other _ ⟨b, o, none⟩ _ _ (by have := (h.own d hd).1; dsimp only; omega)
def sessC (x : Sess) (v : Value) : Array Value := #[.int .i64 x.client, .string x.tag, .string x.query, .int .i64 x.page, .int .i64 x.state, v, .int .i64 x.cursor]
def sessZ : Array Value := #[.int .i64 0, .string ⟨#[]⟩, .string ⟨#[]⟩, .int .i64 0, .int .i64 0, .slice none 0 0, .int .i64 0]
set_option maxRecDepth 100000 in
set_option maxHeartbeats 8000000 in
theorem copySess_any (x : Sess) (v : Value) (w : World) {lo : Nat} (hn : x.rows.length ≤ 100000) (hv : StrsAt lo w v x.rows) :
    Calls Tryz.prog 60 #[sessV x v] w fun e w' => ∃ u, e = .returned (sessV x u) ∧ FB tC 1 9 (w.heap.size + 2) w' u x.rows ∧ Below w.heap.size w w' := by
  obtain ⟨client, tag, query, page, state, rows, cursor⟩ := x
  unfold sessV
  dsimp only at hn hv ⊢
  obtain ⟨a, cap, rfl, hel⟩ := At.form hv
  obtain ⟨n, hnn⟩ : ∃ n, rows.length = n := ⟨_, rfl⟩
  have HN := hide hnn
  have HEL := hide hel
  rw [hnn] at hn ⊢
  obtain ⟨x1, hx1⟩ : ∃ x, w.alloc (Obj.cells #[.int .i64 client, .string tag, .string query, .int .i64 page, .int .i64 state, .slice a n cap, .int .i64 cursor] 51) = x := ⟨_, rfl⟩
  obtain ⟨x2, hx2⟩ : ∃ x, x1.alloc (Obj.cells #[.int .i64 0, .string ⟨#[]⟩, .string ⟨#[]⟩, .int .i64 0, .int .i64 0, .slice none 0 0, .int .i64 0] 51) = x := ⟨_, rfl⟩
  obtain ⟨x3, hx3⟩ : ∃ x, x2.alloc (Obj.cells #[] 9) = x := ⟨_, rfl⟩
  have s1 : x1.heap.size = w.heap.size + 1 := by rw [← hx1]; simp
  have s2 : x2.heap.size = w.heap.size + 2 := by rw [← hx2]; simp [s1]
  have b1 : Below w.heap.size w x1 := by rw [← hx1]; exact (Below.refl _ _).alloc (Nat.le_refl _) _
  have b2 : Below x1.heap.size x1 x2 := by rw [← hx2]; exact (Below.refl _ _).alloc (Nat.le_refl _) _
  have HB2 := hide (bjoin b2 b1)
  have HO1 : Hid (Box x2 w.heap.size 51 #[.int .i64 client, .string tag, .string query, .int .i64 page, .int .i64 state, .slice a n cap, .int .i64 cursor]) := by rw [← hx2, ← hx1]; exact (Box.new _ _ _).alloc _
  have HO2 : Hid (Box x2 (w.heap.size + 1) 51 #[.int .i64 0, .string ⟨#[]⟩, .string ⟨#[]⟩, .int .i64 0, .int .i64 0, .slice none 0 0, .int .i64 0]) := by rw [← s1, ← hx2]; exact Box.new _ _ _
  have HF3 : Hid (FB tC 1 9 (w.heap.size + 2) x3 (.slice (some ⟨w.heap.size + 2, 0, none⟩) 0 0) [] ∧ Below x2.heap.size x2 x3) := by
    rw [← hx3, ← s2]
    exact ⟨FB.lit _ _ _ _, (Below.refl _ _).alloc (Nat.le_refl _) _⟩
  have HX3 : Hid (((w.alloc (Obj.cells #[.int .i64 client, .string tag, .string query, .int .i64 page, .int .i64 state, .slice a n cap, .int .i64 cursor] 51)).alloc (Obj.cells #[.int .i64 0, .string ⟨#[]⟩, .string ⟨#[]⟩, .int .i64 0, .int .i64 0, .slice none 0 0, .int .i64 0] 51)).alloc (Obj.cells #[] 9) = x3) := by rw [hx1, hx2]; exact hx3
  have HS2 := hide s2
  clear hv hel hnn hx1 hx2 hx3 s1 s2 b1 b2
  go_enter Tryz.func60, Tryz.ntmps60
  go_wp2_with fail
  (try rw [HX3.out])
  go_loopg [3, 4] n (fun q s i wr => ∃ (k : Nat) (ar : Option Addr) (cr : Nat), k ≤ n ∧ q = n - k ∧ s = .slice ar k cr ∧ i = .int .i64 (k : Int) ∧ FB tC 1 9 (w.heap.size + 2) wr (.slice ar k cr) (rows.take k) ∧ Below x2.heap.size x2 wr)
  case atStart => exact ⟨0, _, _, Nat.zero_le _, rfl, rfl, rfl, HF3.out.1, HF3.out.2⟩
  case round =>
    obtain ⟨k, ar, cr, hk, rfl, rfl, rfl, hF, hB⟩ := hrel
    obtain ⟨Y, rfl⟩ : ∃ x, x = wr := ⟨_, rfl⟩
    have HF := hide hF
    have HB := hide hB
    have HOY := hide (HO1.out.below hB)
    have HWY := hide (bjoin hB HB2.out)
    clear hF hB
    have c5 : Y.cell? ⟨w.heap.size, 5, none⟩ = some (.slice a n cap) := HOY.out.cell 5 (by simp)
    by_cases hlt : k < n
    · have hki : (k : Int) < (n : Int) := by omega
      have hkl : k < rows.length := by rw [HN.out]; exact hlt
      obtain ⟨b, off, rfl, _, hbl, hcell, hz⟩ := HEL.out k hkl
      obtain ⟨t, ht⟩ : ∃ t, rows[k] = t := ⟨_, rfl⟩
      rw [ht] at hcell hz
      have d0 : Y.cell? ⟨b, off + k, none⟩ = some (.string t) := by rw [HWY.out.cell (p := ⟨b, off + k, none⟩) hbl]; simpa using hcell
      have HTK : Hid (rows.take (k + 1) = rows.take k ++ [t]) := by show _ = _; rw [List.take_succ_eq_append_getElem hkl, ht]
      have hlen : (rows.take k).length = k := by rw [List.length_take]; omega
      obtain ⟨a', c', w', hr1, hF', hO', _⟩ := row_more (C := tC) (c := 1) (bytes := 16) (e := 9) Tryz.underlying29 tinfo rfl (by decide) HF.out t rfl (fun z hz' => by rw [List.mem_singleton.1 hz']; rfl) (by have := HB.out.size; have := HS2.out; omega) hlen (by omega) (by decide)
      have HF' := hide hF'
      have HBZ : Hid (Below x2.heap.size x2 w') := HB.out.trans (hO'.below (by have := HB.out.size; omega) fun d hd => by have := (HF.out.own d hd).1; have := HS2.out; omega)
      have hr1' : (Builtin.append_ #[29, 29] 29 #[.slice ar k cr, .slice (some ⟨Y.heap.size, 0, none⟩) 1 1]).run Tryz.prog (Y.alloc (.cells #[.string t] 9)) = .ok (.slice a' (k + 1) c') w' := hr1
      clear hcell ht hF' hO' hr1 hlen
      go_wp2_with (first | (at_builtin; refine wpList_app rfl _ _ 29 rfl hr1' (by first | rfl | simp [Act.eval, Act.put]) (by first | rfl | simp [Act.eval, Act.put]) ?_))
      go_roundg (n - (k + 1))
      case measure => omega
      case rel => exact ⟨k + 1, _, _, by omega, rfl, rfl, by go_num, by rw [HTK.out]; exact HF'.out, HBZ.out⟩
    · have hki : ¬ (k : Int) < (n : Int) := by omega
      obtain rfl : k = n := by omega
      have HFE : Hid (FB tC 1 9 (w.heap.size + 2) Y (.slice ar k cr) rows) := by have := HF.out; rw [← HN.out, List.take_length] at this; rw [← HN.out]; exact this
      have f5 := HOY.out.frozen 5
      have l1 := HOY.out.lt
      obtain ⟨Y1, hY1⟩ : ∃ x, Y.setCell ⟨w.heap.size, 5, none⟩ (.slice ar k cr) = x := ⟨_, rfl⟩
      have o1 : Box Y1 w.heap.size 51 #[.int .i64 client, .string tag, .string query, .int .i64 page, .int .i64 state, .slice ar k cr, .int .i64 cursor] := by rw [← hY1]; have := HOY.out.set 5 (.slice ar k cr); simpa using this
      have o2 : Box Y1 (w.heap.size + 1) 51 #[.int .i64 0, .string ⟨#[]⟩, .string ⟨#[]⟩, .int .i64 0, .int .i64 0, .slice none 0 0, .int .i64 0] := by rw [← hY1]; exact (HO2.out.below HB.out).other (by simp) _
      have HFY1 : Hid (FB tC 1 9 (w.heap.size + 2) Y1 (.slice ar k cr) rows) := by rw [← hY1]; exact HFE.out.set1 (by omega) _
      have HBY1 : Hid (Below w.heap.size w Y1) := by rw [← hY1]; exact HWY.out.setCell (p := ⟨w.heap.size, 5, none⟩) (Nat.le_refl _) _
      go_upto_region 7 with fail
      (try rw [hY1])
      clear hY1 c5 f5 l1
      have c0 : Y1.cell? ⟨w.heap.size, 0, none⟩ = some (.int .i64 client) := o1.cell 0 (by simp)
      have c1 : Y1.cell? ⟨w.heap.size, 1, none⟩ = some (.string tag) := o1.cell 1 (by simp)
      have c2 : Y1.cell? ⟨w.heap.size, 2, none⟩ = some (.string query) := o1.cell 2 (by simp)
      have c3 : Y1.cell? ⟨w.heap.size, 3, none⟩ = some (.int .i64 page) := o1.cell 3 (by simp)
      have c4 : Y1.cell? ⟨w.heap.size, 4, none⟩ = some (.int .i64 state) := o1.cell 4 (by simp)
      have c5 : Y1.cell? ⟨w.heap.size, 5, none⟩ = some (.slice ar k cr) := o1.cell 5 (by simp)
      have c6 : Y1.cell? ⟨w.heap.size, 6, none⟩ = some (.int .i64 cursor) := o1.cell 6 (by simp)
      have z0 : Y1.cell? ⟨w.heap.size + 1, 0, none⟩ = some (.int .i64 0) := o2.cell 0 (by simp)
      have z1 : Y1.cell? ⟨w.heap.size + 1, 1, none⟩ = some (.string ⟨#[]⟩) := o2.cell 1 (by simp)
      have z2 : Y1.cell? ⟨w.heap.size + 1, 2, none⟩ = some (.string ⟨#[]⟩) := o2.cell 2 (by simp)
      have z3 : Y1.cell? ⟨w.heap.size + 1, 3, none⟩ = some (.int .i64 0) := o2.cell 3 (by simp)
      have z4 : Y1.cell? ⟨w.heap.size + 1, 4, none⟩ = some (.int .i64 0) := o2.cell 4 (by simp)
      have z5 : Y1.cell? ⟨w.heap.size + 1, 5, none⟩ = some (.slice none 0 0) := o2.cell 5 (by simp)
      have z6 : Y1.cell? ⟨w.heap.size + 1, 6, none⟩ = some (.int .i64 0) := o2.cell 6 (by simp)
      have f0 := o2.frozen 0
      have f1 := o2.frozen 1
      have f2 := o2.frozen 2
      have f3 := o2.frozen 3
      have f4 := o2.frozen 4
      have f5 := o2.frozen 5
      have f6 := o2.frozen 6
      have zl := o2.lt
      clear o1 o2
      go_wp2_with fail
      exact bodyPost_ret (v := .agg #[.int .i64 client, .string tag, .string query, .int .i64 page, .int .i64 state, .slice ar k cr, .int .i64 cursor]) (by simp [results, Tryz.results60, go_sem, z0, z1, z2, z3, z4, z5, z6, zl]) rfl
        ⟨_, rfl, ((((((HFY1.out.set1 (by omega) _).set1 (by omega) _).set1 (by omega) _).set1 (by omega) _).set1 (by omega) _).set1 (by omega) _).set1 (by omega) _, seven_below HBY1.out (Nat.le_succ _) _ _ _ _ _ _ _⟩
end Go.Proofs.YtpmnepalchgcbaaGreatDoor.Msg

namespace Go.Proofs.YtpmnepalchgcbaaGreatDoor.Msg
open Go.ChangeShapes Go.WideShapes Go.ChangeAt Go.RowKit
set_option linter.unusedVariables false
set_option linter.unusedSimpArgs false

/-! a table whose memory is its own: the row of sessions, and the rows of each in a block of its own -/
def tsC (p : Sess × Value) : List Value := [.int .i64 p.1.client, .string p.1.tag, .string p.1.query, .int .i64 p.1.page, .int .i64 p.1.state, p.2, .int .i64 p.1.cursor]
theorem tsC_len (p : Sess × Value) : (tsC p).length = 7 := rfl
def SmS (s : Sess) : Prop := s.tag.size ≤ 9223372036854775807 ∧ s.query.size ≤ 9223372036854775807 ∧ s.rows.length ≤ 100000 ∧ ∀ r ∈ s.rows, r.size ≤ 9223372036854775807
def rowA (L : Nat) (W : World) (u : Value) (s : Sess) : Prop := FB tC 1 9 L W u s.rows
def SessP (p : Sess × Value) (s : Sess) : Prop := p.1 = s ∧ SmS s
abbrev SessInds := Inds (α := Sess) (β := Sess × Value) rowA (fun p => p.2) SessP
structure TB (base : Nat) (X : World) (v : Value) (ps : List (Sess × Value)) (xs : List Sess) : Prop where
  row : FB tsC 7 51 base X v ps
  els : SessInds base X v ps xs
  nd : ((ps.map (·.2)).filterMap Value.ownBlock).Nodup
theorem TB.nil (base : Nat) (X : World) : TB base X (.slice none 0 0) [] [] := ⟨FB.nil _ _ _ _ _, Inds.nil _ _ _ _ _ _, by simp⟩
theorem TB.below {base : Nat} {X X' : World} {v : Value} {ps : List (Sess × Value)} {xs : List Sess} (h : TB base X v ps xs) (hb : Below X.heap.size X X') : TB base X' v ps xs := ⟨h.row.below hb, h.els.below hb, h.nd⟩
theorem TB.len {base : Nat} {X : World} {v : Value} {ps : List (Sess × Value)} {xs : List Sess} (h : TB base X v ps xs) : ps.length = xs.length := h.els.1
theorem TB.form {base : Nat} {X : World} {v : Value} {ps : List (Sess × Value)} {xs : List Sess} (h : TB base X v ps xs) : ∃ a c, v = .slice a xs.length c := by
  obtain ⟨a, c, e, _⟩ := h.row.form
  exact ⟨a, c, by rw [← h.len]; exact e⟩
theorem Ind.same {α : Type} {A : Nat → World → Value → α → Prop} {lo : Nat} {w w' : World} {v u : Value} {x : α} (h : Ind A lo w v u x) (hs : w.heap.size ≤ w'.heap.size) (hb : ∀ b, lo ≤ b → v.ownBlock ≠ some b → b < w.heap.size → w'.heap[b]? = w.heap[b]?) : Ind A lo w' v u x := by
  obtain ⟨L, W, h1, h2, h3, h4⟩ := h
  exact ⟨L, W, h1, h2, Nat.le_trans h3 hs, fun b g1 g2 => ⟨(hb b (by omega) (h4 b g1 g2).2 (by omega)).trans (h4 b g1 g2).1, (h4 b g1 g2).2⟩⟩
theorem Ind.swap {α : Type} {A : Nat → World → Value → α → Prop} {lo : Nat} {w w' : World} {v v' u : Value} {x : α} (h : Ind A lo w v u x) (hb : Below w.heap.size w w') (hv : ∀ b, v'.ownBlock = some b → w.heap.size ≤ b) : Ind A lo w' v' u x := by
  obtain ⟨L, W, h1, h2, h3, h4⟩ := h
  exact ⟨L, W, h1, h2, Nat.le_trans h3 hb.size, fun b g1 g2 => ⟨(hb.block b (by omega)).trans (h4 b g1 g2).1, fun e => by have := hv b e; omega⟩⟩
theorem FB.low {α : Type} {C : α → List Value} {c : Nat} {e : TypeId} {base base' : Nat} {w : World} {v : Value} {xs : List α} (h : FB C c e base w v xs) (hb : base' ≤ base) : FB C c e base' w v xs := by
  obtain ⟨hl, ⟨e1, h0⟩ | ⟨g, cap, cur, e1, hg, rest⟩⟩ := h
  · exact ⟨hl, .inl ⟨e1, h0⟩⟩
  · exact ⟨hl, .inr ⟨g, cap, cur, e1, by omega, rest⟩⟩
/-- the rows, now -/
theorem Ind.rows {lo : Nat} {w : World} {v u : Value} {x : Sess} (h : Ind rowA lo w v u x) : FB tC 1 9 lo w u x.rows ∧ ∀ b, u.ownBlock = some b → v.ownBlock ≠ some b := by
  obtain ⟨L, W, h1, h2, h3, h4⟩ := h
  have h2' : FB tC 1 9 L W u x.rows := h2
  refine ⟨?_, fun b hb => ?_⟩
  · have := h2'.keep (w' := w) fun b hb => (h4 b (h2'.own b hb).1 (h2'.own b hb).2).1
    exact this.low h1
  · have := h2'.own b (by rw [hb]; simp)
    exact (h4 b this.1 this.2).2
theorem TB.own {base : Nat} {X : World} {v : Value} {ps : List (Sess × Value)} {xs : List Sess} (h : TB base X v ps xs) : ∀ p ∈ ps, ∀ b, p.2.ownBlock = some b → base ≤ b ∧ b < X.heap.size := fun p hp b hb => by
  obtain ⟨i, hi, rfl⟩ := List.mem_iff_getElem.1 hp
  exact (h.els.2.2 i hi (by rw [← h.len]; exact hi)).2.rows.1.own b (by rw [hb]; simp)
theorem TB.setB {base : Nat} {X : World} {v : Value} {ps : List (Sess × Value)} {xs : List Sess} (h : TB base X v ps xs) {b o : Nat} (hb : b < base) (x : Value) : TB base (X.setCell ⟨b, o, none⟩ x) v ps xs :=
  ⟨h.row.set1 hb x, ⟨h.els.1, h.els.2.1, fun i h1 h2 => ⟨(h.els.2.2 i h1 h2).1, (h.els.2.2 i h1 h2).2.same (by rw [Deep.nblk_setCell]; exact Nat.le_refl _) fun d hd _ _ => Deep.blk_setCell_other _ ⟨b, o, none⟩ _ d (by dsimp only; omega)⟩⟩, h.nd⟩
theorem TB.mono {base base' : Nat} {X : World} {v : Value} {ps : List (Sess × Value)} {xs : List Sess} (h : TB base X v ps xs) (hb : base' ≤ base) : TB base' X v ps xs :=
  ⟨h.row.low hb, ⟨h.els.1, h.els.2.1, fun i h1 h2 => ⟨(h.els.2.2 i h1 h2).1, by obtain ⟨L, W, a, b, c, d⟩ := (h.els.2.2 i h1 h2).2; exact ⟨L, W, Nat.le_trans hb a, b, c, d⟩⟩⟩, h.nd⟩
/-- for reading -/
theorem TB.sesss {base : Nat} {X : World} {v : Value} {ps : List (Sess × Value)} {xs : List Sess} (h : TB base X v ps xs) (hz : xs.length ≤ 9223372036854775807) : SesssAt base X v xs := by
  obtain ⟨h0, hA⟩ := FB.at (C := tsC) (c := 7) (Z := fun _ => True) tsC_len h.row (by rw [h.len]; exact hz) (fun _ _ => trivial)
  refine ⟨hz, ?_⟩
  rcases hA with ⟨a, cap, e, rfl⟩ | ⟨b, off, cap, e, hbb, hA⟩
  · exact .inl ⟨a, cap, e, List.eq_nil_of_length_eq_zero (by rw [← h.len]; rfl)⟩
  · refine .inr ⟨b, off, cap, by rw [← h.len]; exact e, hbb, fun i hi => ?_⟩
    have hi1 : i < ps.length := by rw [h.len]; exact hi
    obtain ⟨⟨q1, z1, z2, z3, z4⟩, hI⟩ := h.els.2.2 i hi1 hi
    have c0 := (hA i hi1).1 0 (by simp [tsC])
    have c1 := (hA i hi1).1 1 (by simp [tsC])
    have c2 := (hA i hi1).1 2 (by simp [tsC])
    have c3 := (hA i hi1).1 3 (by simp [tsC])
    have c4 := (hA i hi1).1 4 (by simp [tsC])
    have c5 := (hA i hi1).1 5 (by simp [tsC])
    have c6 := (hA i hi1).1 6 (by simp [tsC])
    rw [← q1] at z1 z2 z3 z4 hI ⊢
    exact ⟨by simpa [tsC] using c0, by simpa [tsC] using c1, by simpa [tsC] using c2, by simpa [tsC] using c3, by simpa [tsC] using c4, by simpa [tsC] using c6, z1, z2, ps[i].2, by simpa [tsC] using c5, tC_strs hI.rows.1 (by omega) z4⟩
theorem nd_snoc {ps : List (Sess × Value)} {p : Sess × Value} (h : ((ps.map (·.2)).filterMap Value.ownBlock).Nodup) (hn : ∀ b, p.2.ownBlock = some b → ∀ q ∈ ps, q.2.ownBlock ≠ some b) : (((ps ++ [p]).map (·.2)).filterMap Value.ownBlock).Nodup := by
  rw [List.map_append, List.filterMap_append]
  refine List.nodup_append.2 ⟨h, ?_, ?_⟩
  · cases hp : p.2.ownBlock <;> simp [hp]
  · intro a ha b hb e
    subst e
    obtain ⟨x, hx, ea⟩ := List.mem_filterMap.1 ha
    obtain ⟨q, hq, rfl⟩ := List.mem_map.1 hx
    obtain ⟨y, hy, eb⟩ := List.mem_filterMap.1 hb
    simp at hy
    subst hy
    exact hn a eb q hq ea
/-- a session more -/
theorem TB.more {base n : Nat} {X : World} {v : Value} {ps : List (Sess × Value)} {xs : List Sess} (h : TB base X v ps xs) (s : Sess) (u : Value) (hs : SmS s) (hu : Ind rowA base X v u s) (h1 : OneV u) (hd : ∀ b, u.ownBlock = some b → ∀ q ∈ ps, q.2.ownBlock ≠ some b) (hb : base ≤ X.heap.size) (hn : xs.length = n) (hl : n ≤ 100000) :
    ∃ a' c' w', (Builtin.append_ #[22, 22] 22 #[v, .slice (some ⟨X.heap.size, 0, none⟩) 1 1]).run Tryz.prog (X.alloc (.cells #[.int .i64 s.client, .string s.tag, .string s.query, .int .i64 s.page, .int .i64 s.state, u, .int .i64 s.cursor] 51)) = .ok (.slice a' (n + 1) c') w' ∧
      TB base w' (.slice a' (n + 1) c') (ps ++ [(s, u)]) (xs ++ [s]) ∧ Only v.ownBlock.toList X w' ∧ (∀ b, (Value.slice a' (n + 1) c').ownBlock = some b → v.ownBlock = some b ∨ X.heap.size ≤ b) := by
  obtain ⟨a', c', w', hr, hF, ho, hv⟩ := row_more (C := tsC) (c := 7) (bytes := 88) (e := 51) Tryz.underlying22 info_Sess rfl (by decide) h.row (s, u) rfl (fun z hz => by
    obtain ⟨a, m, c, e⟩ := h1
    have hz' : z = .int .i64 s.client ∨ z = .string s.tag ∨ z = .string s.query ∨ z = .int .i64 s.page ∨ z = .int .i64 s.state ∨ z = u ∨ z = .int .i64 s.cursor := by simpa [tsC] using hz
    rcases hz' with rfl | rfl | rfl | rfl | rfl | rfl | rfl
    all_goals first | rfl | (rw [e]; rfl)) hb (by rw [h.len]; exact hn) hl (by decide)
  exact ⟨a', c', w', hr, ⟨hF, (h.els.snoc (y := (s, u)) h1 ⟨rfl, hs⟩ hu).app ho hv, nd_snoc h.nd hd⟩, ho, hv⟩
end Go.Proofs.YtpmnepalchgcbaaGreatDoor.Msg

namespace Go.Proofs.YtpmnepalchgcbaaGreatDoor.Msg
open Go.ChangeShapes Go.WideShapes Go.ChangeAt Go.RowKit
set_option linter.unusedVariables false
set_option linter.unusedSimpArgs false

/-! l5CopyTable -/
/-- the three boxes -/
structure CT (w : World) (v u : Value) (X : World) : Prop where
  arg : Box X w.heap.size 24 #[v]
  res : Box X (w.heap.size + 1) 24 #[.slice none 0 0]
  out : Box X (w.heap.size + 2) 24 #[u]
  bel : Below w.heap.size w X
theorem CT.lt {w : World} {v u : Value} {X : World} (h : CT w v u X) : w.heap.size + 2 < X.heap.size := h.out.lt
theorem CT.below {w : World} {v u : Value} {X Y : World} (h : CT w v u X) (hb : Below X.heap.size X Y) : CT w v u Y := ⟨h.arg.below hb, h.res.below hb, h.out.below hb, bjoin hb h.bel⟩
theorem CT.set {w : World} {v u : Value} {X : World} (h : CT w v u X) (u' : Value) : CT w v u' (X.setCell ⟨w.heap.size + 2, 0, none⟩ u') :=
  ⟨h.arg.other (by simp) _, h.res.other (by simp) _, by have := h.out.set 0 u'; simpa using this, h.bel.setCell (p := ⟨w.heap.size + 2, 0, none⟩) (by simp) _⟩
theorem CT.only {w : World} {v u : Value} {X Y : World} {bs : List Nat} (h : CT w v u X) (ho : Only bs X Y) (hb : ∀ b ∈ bs, w.heap.size + 3 ≤ b) : CT w v u Y :=
  ⟨h.arg.only ho fun hm => by have := hb _ hm; omega, h.res.only ho fun hm => by have := hb _ hm; omega, h.out.only ho fun hm => by have := hb _ hm; omega, h.bel.trans (ho.below h.bel.size fun d hd => by have := hb d hd; omega)⟩
set_option maxRecDepth 100000 in
set_option maxHeartbeats 16000000 in
theorem copyTbl_any (xs : List Sess) (v : Value) (w : World) {lo : Nat} (hv : SesssAt lo w v xs) (hn : xs.length ≤ 1000) (hsm : ∀ s ∈ xs, SmS s) :
    Calls Tryz.prog 29 #[.agg #[v]] w fun e w' => ∃ u, e = .returned (.agg #[u]) ∧ (∃ ps, TB (w.heap.size + 3) w' u ps xs) ∧ Below w.heap.size w w' := by
  have HV := hide hv
  obtain ⟨a, cap, rfl, _⟩ := At.form hv
  have HSM := hide hsm
  obtain ⟨n, hnn⟩ : ∃ n, xs.length = n := ⟨_, rfl⟩
  have HN := hide hnn
  rw [hnn] at hn ⊢
  obtain ⟨x3, hx3⟩ : ∃ x, ((w.alloc (Obj.cells #[.slice a n cap] 24)).alloc (Obj.cells #[.slice none 0 0] 24)).alloc (Obj.cells #[.slice none 0 0] 24) = x := ⟨_, rfl⟩
  have HC3 : Hid (CT w (.slice a n cap) (.slice none 0 0) x3) := by
    rw [← hx3]
    refine ⟨((Box.new w _ _).alloc _).alloc _, ?_, ?_, ?_⟩
    · have := (Box.new (w.alloc (Obj.cells #[.slice a n cap] 24)) 24 #[.slice none 0 0]).alloc (Obj.cells #[.slice none 0 0] 24)
      rw [Deep.nblk_alloc] at this
      exact this
    · have := Box.new ((w.alloc (Obj.cells #[.slice a n cap] 24)).alloc (Obj.cells #[.slice none 0 0] 24)) 24 #[.slice none 0 0]
      rw [Deep.nblk_alloc, Deep.nblk_alloc] at this
      exact this
    · have h1 := (Below.refl w.heap.size w).alloc (Nat.le_refl _) (Obj.cells #[.slice a n cap] 24)
      have h2 := h1.alloc h1.size (Obj.cells #[.slice none 0 0] 24)
      exact h2.alloc h2.size _
  have HX3 := hide hx3
  clear hv hnn hx3 hsm
  go_enter Tryz.func29, Tryz.ntmps29
  go_wp2_with fail
  (try rw [HX3.out])
  go_loopg [4] n (fun q i wr => ∃ (k : Nat) (ao : Option Addr) (co : Nat) (ps : List (Sess × Value)), k ≤ n ∧ q = n - k ∧ i = .int .i64 (k : Int) ∧ CT w (.slice a n cap) (.slice ao k co) wr ∧ TB (w.heap.size + 3) wr (.slice ao k co) ps (xs.take k))
  case atStart => exact ⟨0, none, 0, [], Nat.zero_le _, rfl, rfl, HC3.out, TB.nil _ _⟩
  case round =>
    obtain ⟨k, ao, co, ps, hk, rfl, rfl, hC, hT⟩ := hrel
    obtain ⟨Y, rfl⟩ : ∃ x, x = wr := ⟨_, rfl⟩
    have HC := hide hC
    have HT := hide hT
    have c0 : Y.cell? ⟨w.heap.size, 0, none⟩ = some (.slice a n cap) := hC.arg.cell 0 (by simp)
    clear hC hT
    by_cases hlt : k < n
    · have hki : (k : Int) < (n : Int) := by omega
      have hk0 : (0 : Int) ≤ (k : Int) := by omega
      have hkl : k < xs.length := by rw [HN.out]; exact hlt
      obtain ⟨a', cap', ea, hel⟩ := At.form HV.out
      injection ea with e1 _ e3
      subst e1 e3
      obtain ⟨b, off, rfl, _, hbl, g⟩ := hel k hkl
      obtain ⟨s, hs⟩ : ∃ s, xs[k] = s := ⟨_, rfl⟩
      have hss : SmS s := by rw [← hs]; exact HSM.out _ (List.getElem_mem hkl)
      have HTK : Hid (xs.take (k + 1) = xs.take k ++ [s]) := by show _ = _; rw [List.take_succ_eq_append_getElem hkl, hs]
      rw [hs] at g
      obtain ⟨p, hp⟩ : ∃ p, off + k * 7 = p := ⟨_, rfl⟩
      rw [hp] at g
      obtain ⟨g0, g1, g2, g3, g4, g6, z1, z2, ve, g5, hrows⟩ := g
      obtain ⟨ar, cr, rfl, _⟩ := At.form hrows
      have HROW := hide hrows
      have KW : Hid (∀ U, Below w.heap.size w U → U.cell? ⟨b, p, none⟩ = some (.int .i64 s.client) ∧ U.cell? ⟨b, p + 1, none⟩ = some (.string s.tag) ∧ U.cell? ⟨b, p + 2, none⟩ = some (.string s.query) ∧ U.cell? ⟨b, p + 3, none⟩ = some (.int .i64 s.page) ∧ U.cell? ⟨b, p + 4, none⟩ = some (.int .i64 s.state) ∧ U.cell? ⟨b, p + 5, none⟩ = some (.slice ar s.rows.length cr) ∧ U.cell? ⟨b, p + 6, none⟩ = some (.int .i64 s.cursor)) := fun U h =>
        ⟨(h.cell (p := ⟨b, p, none⟩) hbl).trans g0, (h.cell (p := ⟨b, p + 1, none⟩) hbl).trans g1, (h.cell (p := ⟨b, p + 2, none⟩) hbl).trans g2, (h.cell (p := ⟨b, p + 3, none⟩) hbl).trans g3, (h.cell (p := ⟨b, p + 4, none⟩) hbl).trans g4, (h.cell (p := ⟨b, p + 5, none⟩) hbl).trans g5, (h.cell (p := ⟨b, p + 6, none⟩) hbl).trans g6⟩
      obtain ⟨ko, hko⟩ : ∃ q, k = q := ⟨_, rfl⟩
      have KS : Hid (∀ U, CT w (.slice (some ⟨b, off, none⟩) n cap) (.slice ao ko co) U → (fun U : World => U.cell? ⟨w.heap.size + 2, 0, none⟩ = some (.slice ao ko co) ∧ U.cell? ⟨w.heap.size, 0, none⟩ = some (.slice (some ⟨b, off, none⟩) n cap) ∧ U.cell? ⟨b, p, none⟩ = some (.int .i64 s.client) ∧ U.cell? ⟨b, p + 1, none⟩ = some (.string s.tag) ∧ U.cell? ⟨b, p + 2, none⟩ = some (.string s.query) ∧ U.cell? ⟨b, p + 3, none⟩ = some (.int .i64 s.page) ∧ U.cell? ⟨b, p + 4, none⟩ = some (.int .i64 s.state) ∧ U.cell? ⟨b, p + 5, none⟩ = some (.slice ar s.rows.length cr) ∧ U.cell? ⟨b, p + 6, none⟩ = some (.int .i64 s.cursor)) U) := fun U h => ⟨h.out.cell 0 (by simp), h.arg.cell 0 (by simp), KW.out U h.bel⟩
      obtain ⟨D, hDe⟩ : ∃ D, Y.drew = D := ⟨_, rfl⟩
      have hD : Below Y.heap.size Y D := by rw [← hDe]; exact (Below.refl _ _).drew
      have HCO : Hid (CT w (.slice (some ⟨b, off, none⟩) n cap) (.slice ao ko co) Y) := by rw [← hko]; exact HC.out
      have HTO : Hid (TB (w.heap.size + 3) Y (.slice ao ko co) ps (xs.take k)) := by have := HT.out; rw [hko] at this ⊢; exact this
      have hCD := HCO.out.below hD
      have hTD := HTO.out.below hD
      have hSd : (fun U : World => U.cell? ⟨w.heap.size + 2, 0, none⟩ = some (.slice ao ko co) ∧ U.cell? ⟨w.heap.size, 0, none⟩ = some (.slice (some ⟨b, off, none⟩) n cap) ∧ U.cell? ⟨b, p, none⟩ = some (.int .i64 s.client) ∧ U.cell? ⟨b, p + 1, none⟩ = some (.string s.tag) ∧ U.cell? ⟨b, p + 2, none⟩ = some (.string s.query) ∧ U.cell? ⟨b, p + 3, none⟩ = some (.int .i64 s.page) ∧ U.cell? ⟨b, p + 4, none⟩ = some (.int .i64 s.state) ∧ U.cell? ⟨b, p + 5, none⟩ = some (.slice ar s.rows.length cr) ∧ U.cell? ⟨b, p + 6, none⟩ = some (.int .i64 s.cursor)) D := KS.out D hCD
      have HCS := hide (copySess_any s (.slice ar s.rows.length cr) D (by have := hss.2.2.1; omega) (At.kept kept_str HROW.out hCD.bel))
      unfold sessV at HCS
      have hlen : (xs.take k).length = ko := by rw [List.length_take, ← hko]; omega
      have HLT := hide (show w.heap.size + 2 < D.heap.size from hCD.lt)
      have HKO := hide hko
      clear g0 g1 g2 g3 g4 g5 g6 hel hrows hs hkl hko
      go_upto_region 5 with fail
      refine wp_region_two (fun U : World => U.cell? ⟨w.heap.size + 2, 0, none⟩ = some (.slice ao ko co) ∧ U.cell? ⟨w.heap.size, 0, none⟩ = some (.slice (some ⟨b, off, none⟩) n cap) ∧ U.cell? ⟨b, p, none⟩ = some (.int .i64 s.client) ∧ U.cell? ⟨b, p + 1, none⟩ = some (.string s.tag) ∧ U.cell? ⟨b, p + 2, none⟩ = some (.string s.query) ∧ U.cell? ⟨b, p + 3, none⟩ = some (.int .i64 s.page) ∧ U.cell? ⟨b, p + 4, none⟩ = some (.int .i64 s.state) ∧ U.cell? ⟨b, p + 5, none⟩ = some (.slice ar s.rows.length cr) ∧ U.cell? ⟨b, p + 6, none⟩ = some (.int .i64 s.cursor)) 10 (by kernel_rfl) ?_
      rw [hDe]
      clear hDe
      refine wpTwo_take (i := 0) (some 13) (v := ?v0_5) rfl rfl (by kernel_rfl) (by kernel_rfl) (by kernel_rfl) (by kernel_rfl) (fun _ _ _ h => h) hSd (Or.inl ⟨by rfl, ?hy0_5⟩) ?rest0_5
      case hy0_5 => (intro w hSw; (try dsimp only at hSw); go_simp; try with_reducible rfl)
      try simp only [Act.put, List.setIfInBounds_toArray, List.set_cons_zero, List.set_cons_succ]
      refine wpTwo_take (i := 1) (some 14) (v := ?v1_5) rfl rfl (by kernel_rfl) (by kernel_rfl) (by kernel_rfl) (by kernel_rfl) (fun _ _ _ h => h) hSd (Or.inl ⟨by rfl, ?hy1_5⟩) ?rest1_5
      case hy1_5 => (intro w hSw; (try dsimp only at hSw); go_simp; try with_reducible rfl)
      try simp only [Act.put, List.setIfInBounds_toArray, List.set_cons_zero, List.set_cons_succ]
      refine wpTwo_take (i := 2) (some 15) (v := ?v2_5) rfl rfl (by kernel_rfl) (by kernel_rfl) (by kernel_rfl) (by kernel_rfl) (fun _ _ _ h => h) hSd (Or.inl ⟨by rfl, ?hy2_5⟩) ?rest2_5
      case hy2_5 => (intro w hSw; (try dsimp only at hSw); go_simp; try with_reducible rfl)
      try simp only [Act.put, List.setIfInBounds_toArray, List.set_cons_zero, List.set_cons_succ]
      refine wpTwo_take (i := 3) (some 16) (v := ?v3_5) rfl rfl (by kernel_rfl) (by kernel_rfl) (by kernel_rfl) (by kernel_rfl) (fun _ _ _ h => h) hSd (Or.inl ⟨by rfl, ?hy3_5⟩) ?rest3_5
      case hy3_5 => (intro w hSw; (try dsimp only at hSw); go_simp; try with_reducible rfl)
      try simp only [Act.put, List.setIfInBounds_toArray, List.set_cons_zero, List.set_cons_succ]
      refine wpTwo_take (i := 4) (some 17) (v := ?v4_5) rfl rfl (by kernel_rfl) (by kernel_rfl) (by kernel_rfl) (by kernel_rfl) (fun _ _ _ h => h) hSd (Or.inl ⟨by rfl, ?hy4_5⟩) ?rest4_5
      case hy4_5 => (intro w hSw; (try dsimp only at hSw); go_simp; try with_reducible rfl)
      try simp only [Act.put, List.setIfInBounds_toArray, List.set_cons_zero, List.set_cons_succ]
      refine wpTwo_take (i := 5) (some 18) (v := ?v5_5) rfl rfl (by kernel_rfl) (by kernel_rfl) (by kernel_rfl) (by kernel_rfl) (fun _ _ _ h => h) hSd (Or.inl ⟨by rfl, ?hy5_5⟩) ?rest5_5
      case hy5_5 => (intro w hSw; (try dsimp only at hSw); go_simp; try with_reducible rfl)
      try simp only [Act.put, List.setIfInBounds_toArray, List.set_cons_zero, List.set_cons_succ]
      refine wpTwo_take (i := 6) (some 19) (v := ?v6_5) rfl rfl (by kernel_rfl) (by kernel_rfl) (by kernel_rfl) (by kernel_rfl) (fun _ _ _ h => h) hSd (Or.inl ⟨by rfl, ?hy6_5⟩) ?rest6_5
      case hy6_5 => (intro w hSw; (try dsimp only at hSw); go_simp; try with_reducible rfl)
      try simp only [Act.put, List.setIfInBounds_toArray, List.set_cons_zero, List.set_cons_succ]
      refine wpTwo_one (j := 7) (by kernel_rfl) rfl (fun K hK => ?_)
      go_simp
      refine HCS.out.mono ?_
      rintro e U ⟨u, rfl, hF, hbU⟩
      obtain ⟨au, cu, rfl, _⟩ := hF.form
      dsimp only
      have hCU := hCD.below hbU
      have hTU := hTD.below hbU
      refine hK.out _ _ (fun _ => KS.out _ hCU) ?_
      clear hK K
      try simp only [Act.put, List.setIfInBounds_toArray, List.set_cons_zero, List.set_cons_succ]
      have hun : Ind rowA (w.heap.size + 3) U (.slice ao ko co) (.slice au s.rows.length cu) s := Ind.new (A := rowA) (L := D.heap.size + 2) hF (by have := HLT.out; omega) fun b hb => by
        have := (hTD.row.own b (by rw [hb]; simp)).2
        exact .inl (by omega)
      obtain ⟨a8, c8, w8, hr8, hT8, ho8, hv8⟩ := hTU.more (n := ko) s (.slice au s.rows.length cu) hss hun ⟨_, _, _, rfl⟩ (fun b hb q hq e => by
        have h1 := (hF.own b (by rw [hb]; simp)).1
        have h2 := (hTD.own q hq b e).2
        omega) (by have := hCU.lt; omega) hlen (by have := HKO.out; omega)
      have hCA := hCU.below ((Below.refl _ _).alloc (Nat.le_refl _) (Obj.cells #[.int .i64 s.client, .string s.tag, .string s.query, .int .i64 s.page, .int .i64 s.state, .slice au s.rows.length cu, .int .i64 s.cursor] 51))
      have hC8 := hCU.only ho8 (fun b hb => (hTU.row.own b hb).1)
      refine wpTwo_one (j := 8) (by kernel_rfl) rfl (fun K hK => ?_)
      go_simp
      refine hK.out _ _ (fun _ => KS.out _ hCA) ?_
      clear hK K
      try simp only [Act.put, List.setIfInBounds_toArray, List.set_cons_zero, List.set_cons_succ]
      refine wpTwo_one (j := 9) (by kernel_rfl) rfl (fun K hK => ?_)
      refine step_app rfl _ _ 22 rfl hr8 (by first | rfl | simp [Act.eval, Act.put]) (by first | rfl | simp [Act.eval, Act.put]) ?_
      show K (Act.put _ (some 22) _) _
      refine hK.out _ _ (fun _ => KS.out _ hC8) ?_
      clear hK K
      try simp only [Act.put, List.setIfInBounds_toArray, List.set_cons_zero, List.set_cons_succ]
      have o0 : w8.cell? ⟨w.heap.size + 2, 0, none⟩ = some (.slice ao ko co) := hC8.out.cell 0 (by simp)
      have of : w8.frozen? ⟨w.heap.size + 2, 0, none⟩ = false := hC8.out.frozen 0
      have ol : w.heap.size + 2 < w8.heap.size := hC8.out.lt
      refine wpTwo_one (j := 10) (by kernel_rfl) rfl (fun K hK => ?_)
      go_simp
      refine hK.out _ _ (fun h => absurd h (by decide)) ?_
      clear hK K
      refine wpTwo_one (j := 11) (by kernel_rfl) rfl (fun K hK => ?_)
      go_simp
      refine hK.out _ _ (fun h => absurd h (by decide)) ?_
      clear hK K
      refine wpTwo_done (by kernel_rfl) ?_ _
      have HC9 := hide (hC8.set (.slice a8 (ko + 1) c8))
      have HT9 := hide (hT8.setB (b := w.heap.size + 2) (o := 0) (by omega) (.slice a8 (ko + 1) c8))
      clear hSd hCD hTD hCU hTU hCA hC8 hT8 hr8 ho8 hv8 hF hbU hun o0 of ol hD
      have hko := HKO.out
      subst hko
      go_wp2_with fail
      go_roundg (n - (k + 1))
      case measure => omega
      case rel => exact ⟨k + 1, _, _, _, by omega, rfl, by go_num, HC9.out, by rw [HTK.out]; exact HT9.out⟩
    · have hki : ¬ (k : Int) < (n : Int) := by omega
      obtain rfl : k = n := by omega
      have HTE : Hid (TB (w.heap.size + 3) Y (.slice ao k co) ps xs) := by have := HT.out; rw [← HN.out, List.take_length] at this; rw [← HN.out]; exact this
      have o0 : Y.cell? ⟨w.heap.size + 2, 0, none⟩ = some (.slice ao k co) := HC.out.out.cell 0 (by simp)
      have r0 : Y.cell? ⟨w.heap.size + 1, 0, none⟩ = some (.slice none 0 0) := HC.out.res.cell 0 (by simp)
      have rf : Y.frozen? ⟨w.heap.size + 1, 0, none⟩ = false := HC.out.res.frozen 0
      have rl : w.heap.size + 1 < Y.heap.size := HC.out.res.lt
      go_wp2_with fail
      exact bodyPost_ret (v := .agg #[.slice ao k co]) (by simp [results, Tryz.results29, go_sem, r0, rl]) rfl ⟨_, rfl, ⟨ps, HTE.out.setB (by omega) _⟩, HC.out.bel.setCell (p := ⟨w.heap.size + 1, 0, none⟩) (Nat.le_succ _) _⟩
end Go.Proofs.YtpmnepalchgcbaaGreatDoor.Msg
