import Derived.Test.YtpmnepalchgcbaaDoorFlatKitwithPhasewithTblOk2
import Derived.Test.YtpmnepalchgcbaaDoorTblTowithTblTo2withMarkStr
import Derived.Maps.AppendAt
import Derived.OwnWalk
import Derived.Laws.Rows
import Derived.Maps.Own
import Derived.Deep.LoopGhost
import Derived.Deep.DeepCutAuto
namespace Go.Proofs.YtpmnepalchgcbaaDoor.Msg
open Go.ChangeShapes Go.WideShapes Go.ChangeAt Go.RowKit
set_option linter.unusedVariables false
set_option linter.unusedSimpArgs false

/-! a block of plain cells -/
def Box (w : World) (b : Nat) (t : TypeId) (cs : Array Value) : Prop := w.heap[b]? = some (.cells cs t (0, 0))
theorem Box.lt {w : World} {b : Nat} {t : TypeId} {cs : Array Value} (h : Box w b t cs) : b < w.heap.size := by
  unfold Box at h
  rw [Array.getElem?_eq_some_iff] at h
  exact h.1
theorem Box.cell {w : World} {b : Nat} {t : TypeId} {cs : Array Value} (h : Box w b t cs) (i : Nat) (hi : i < cs.size) : w.cell? ⟨b, i, none⟩ = some cs[i] := by
  unfold Box at h
  simp [World.cell?, h, hi]
theorem Box.frozen {w : World} {b : Nat} {t : TypeId} {cs : Array Value} (h : Box w b t cs) (i : Nat) : w.frozen? ⟨b, i, none⟩ = false := by
  unfold Box at h
  simp [World.frozen?, h]
theorem Box.keep {w w' : World} {b : Nat} {t : TypeId} {cs : Array Value} (h : Box w b t cs) (e : w'.heap[b]? = w.heap[b]?) : Box w' b t cs := by
  unfold Box at *
  rw [e]
  exact h
theorem Box.set {w : World} {b : Nat} {t : TypeId} {cs : Array Value} (h : Box w b t cs) (i : Nat) (v : Value) : Box (w.setCell ⟨b, i, none⟩ v) b t (cs.setIfInBounds i v) :=
  heap_setCell_same w b i cs t v h
theorem Box.other {w : World} {b : Nat} {t : TypeId} {cs : Array Value} (h : Box w b t cs) {a : Addr} (ha : b ≠ a.block) (v : Value) : Box (w.setCell a v) b t cs :=
  h.keep (Deep.blk_setCell_other _ _ _ _ ha)
theorem Box.new (w : World) (t : TypeId) (cs : Array Value) : Box (w.alloc (.cells cs t)) w.heap.size t cs := by
  exact (MapKept.heap_alloc w _).1
theorem Box.alloc {w : World} {b : Nat} {t : TypeId} {cs : Array Value} (h : Box w b t cs) (o : Obj) : Box (w.alloc o) b t cs :=
  h.keep ((((Below.refl w.heap.size w).alloc (Nat.le_refl _) o)).block b h.lt)
theorem Box.below {w w' : World} {b : Nat} {t : TypeId} {cs : Array Value} (h : Box w b t cs) (hb : Below w.heap.size w w') : Box w' b t cs := h.keep (hb.block b h.lt)
theorem Box.only {bs : List Nat} {w w' : World} {b : Nat} {t : TypeId} {cs : Array Value} (h : Box w b t cs) (hb : Only bs w w') (hn : b ∉ bs) : Box w' b t cs := h.keep (hb.block b h.lt hn)

/-! an append whose run is known -/
theorem step_app {ops : Array Oper} {o : Oper} {a : Act} {K : Act → World → Prop} {Q : Exit → Act → World → Prop} {E : Prop} {w w' : World} {v y v' : Value} (hgd : o.guard = none) (s x : Operand) (t : TypeId)
    (ho : o.op = .call { callee := .builtin .append, args := #[s, x], argTypes := #[t, t] }) (hr : (Builtin.append_ #[t, t] o.type #[v, y]).run Tryd.prog w = .ok v' w') (hs : a.eval s = v) (hx : a.eval x = y) (h : K (a.put o.dst v') w') :
    if Region.wanted o (yielded ops a.tmps) = true then Oper.wp Tryd.prog o a w K Q else E := by
  have hw : Region.wanted o (yielded ops a.tmps) = true := by simp [Region.wanted, hgd]
  rw [if_pos hw]
  unfold Oper.wp execOp
  simp only [ho, resolve, invoke, builtin, Sem.run_bind, Sem.run_pure, Result.andThen_ok, List.map_toArray, List.map_cons, List.map_nil, hs, hx, hr]
  exact h
theorem wpList_app {ops : Array Oper} {rest : List Oper} {o : Oper} {a : Act} {Q : Exit → Act → World → Prop} {w w' : World} {v y v' : Value} (hgd : o.guard = none) (s x : Operand) (t : TypeId)
    (ho : o.op = .call { callee := .builtin .append, args := #[s, x], argTypes := #[t, t] }) (hr : (Builtin.append_ #[t, t] o.type #[v, y]).run Tryd.prog w = .ok v' w') (hs : a.eval s = v) (hx : a.eval x = y) (h : wpList Tryd.prog ops Q rest (a.put o.dst v') w') :
    wpList Tryd.prog ops Q (o :: rest) a w := by
  refine wpList_plain hgd fun K hK => ?_
  unfold Oper.wp execOp
  simp only [ho, resolve, invoke, builtin, Sem.run_bind, Sem.run_pure, Result.andThen_ok, List.map_toArray, List.map_cons, List.map_nil, hs, hx, hr]
  exact hK _ _ h

/-- a list of plain elements that is being built -/
def FB {α : Type} (C : α → List Value) (c : Nat) (e : TypeId) (base : Nat) (w : World) (v : Value) (xs : List α) : Prop := w.ownsRow base e c v xs.length (flat C xs)
theorem FB.nil {α : Type} (C : α → List Value) (c : Nat) (e : TypeId) (base : Nat) (w : World) : FB C c e base w (.slice none 0 0) [] := ⟨by simp [flat], .inl ⟨rfl, rfl⟩⟩
theorem FB.lit {α : Type} (C : α → List Value) (c : Nat) (e : TypeId) (w : World) : FB C c e w.heap.size (w.alloc (.cells #[] e)) (.slice (some ⟨w.heap.size, 0, none⟩) 0 0) [] :=
  World.ownsRow_lit (base := w.heap.size) (e := e) (size := c) w #[] 0 (Nat.le_refl _) (by unfold maxLen; omega) (by simp)
theorem FB.form {α : Type} {C : α → List Value} {c : Nat} {e : TypeId} {base : Nat} {w : World} {v : Value} {xs : List α} (h : FB C c e base w v xs) : ∃ a cap, v = .slice a xs.length cap ∧ xs.length ≤ cap ∧ cap ≤ 9223372036854775807 := by
  obtain ⟨_, ⟨rfl, h0⟩ | ⟨g, cap, cur, rfl, hg, _, hc, hm, _⟩⟩ := h
  · exact ⟨none, 0, by rw [h0], by omega, by omega⟩
  · exact ⟨_, _, rfl, hc, by unfold maxLen at hm; omega⟩
theorem FB.own {α : Type} {C : α → List Value} {c : Nat} {e : TypeId} {base : Nat} {w : World} {v : Value} {xs : List α} (h : FB C c e base w v xs) : ∀ b ∈ v.ownBlock.toList, base ≤ b ∧ b < w.heap.size := by
  obtain ⟨_, ⟨rfl, h0⟩ | ⟨g, cap, cur, rfl, hg, hs, _⟩⟩ := h
  · intro b hb; simp [Value.ownBlock] at hb
  · intro b hb
    simp [Value.ownBlock] at hb
    subst hb
    rw [Array.getElem?_eq_some_iff] at hs
    exact ⟨hg, hs.1⟩
theorem FB.keep {α : Type} {C : α → List Value} {c : Nat} {e : TypeId} {base : Nat} {w w' : World} {v : Value} {xs : List α} (h : FB C c e base w v xs) (hb : ∀ b ∈ v.ownBlock.toList, w'.heap[b]? = w.heap[b]?) : FB C c e base w' v xs := by
  unfold FB at *
  obtain ⟨h0, ⟨rfl, h1⟩ | ⟨g, cap, cur, rfl, hg, hh, rest⟩⟩ := h
  · exact ⟨h0, .inl ⟨rfl, h1⟩⟩
  · exact ⟨h0, .inr ⟨g, cap, cur, rfl, hg, by rw [hb g (by simp [Value.ownBlock])]; exact hh, rest⟩⟩
theorem FB.below {α : Type} {C : α → List Value} {c : Nat} {e : TypeId} {base : Nat} {w w' : World} {v : Value} {xs : List α} (h : FB C c e base w v xs) (hb : Below w.heap.size w w') : FB C c e base w' v xs :=
  h.keep fun b hb' => hb.block b (h.own b hb').2
theorem FB.only {α : Type} {C : α → List Value} {c : Nat} {e : TypeId} {base : Nat} {bs : List Nat} {w w' : World} {v : Value} {xs : List α} (h : FB C c e base w v xs) (hb : Only bs w w') (hn : ∀ b ∈ v.ownBlock.toList, b ∉ bs) : FB C c e base w' v xs :=
  h.keep fun b hb' => hb.block b (h.own b hb').2 (hn b hb')
theorem FB.at {α : Type} {C : α → List Value} {c : Nat} {e : TypeId} {Z : α → Prop} (hC : ∀ x, (C x).length = c) {base : Nat} {w : World} {v : Value} {xs : List α} (h : FB C c e base w v xs) (hl : xs.length ≤ 9223372036854775807) (hZ : ∀ i (h : i < xs.length), Z xs[i]) :
    At c (FR C Z) base w v xs := by
  obtain ⟨bs, h1, h2, _⟩ := FO.of_own hC h hl
  exact h1.at hC hZ fun b hb => (h2 b hb).1

/-- the element's cells, laid for an append -/
theorem news_cells {w : World} (cs : List Value) (e : TypeId) : ∀ j u, cs[j]? = some u → (w.alloc (.cells cs.toArray e)).cell? ((⟨w.heap.size, 0, none⟩ : Addr).add j) = some u := by
  intro j u hu
  have hj : j < cs.length := by
    by_cases hj : j < cs.length
    · exact hj
    · rw [List.getElem?_eq_none (by omega)] at hu; cases hu
  have := (Box.new w e cs.toArray).cell j (by simpa using hj)
  rw [List.getElem?_eq_getElem hj] at hu
  injection hu with hu
  subst hu
  have e2 : ((⟨w.heap.size, 0, none⟩ : Addr).add j) = ⟨w.heap.size, j, none⟩ := by
    simp only [Addr.add, Nat.zero_add]
    by_cases h0 : j = 0
    · subst h0; simp
    · rw [if_neg h0]
  rw [e2, this]
  simp
/-- one element more -/
theorem app1 {α : Type} {C : α → List Value} {c bytes : Nat} {t e : TypeId} {z : Value} (ht : Tryd.prog.underlying t = some (.slice e)) (hinfo : (Tryd.prog.info? e).map (fun i => (i.zero, i.size, i.bytes)) = some (some z, c, bytes)) (hz : z.cells.size = c) (hc : 0 < c)
    (hC : ∀ x, (C x).length = c) (h1 : ∀ x, ∀ u ∈ C x, u.oneCell' = true) {base : Nat} {w : World} {v : Value} {xs : List α} (h : FB C c e base w v xs) (ty : TypeId) (x : α) (hb : base ≤ w.heap.size) (hl : xs.length ≤ 1000000) (hby : bytes ≤ 1000) :
    ∃ v' w', (Builtin.append_ #[t, t] ty #[v, .slice (some ⟨w.heap.size, 0, none⟩) 1 1]).run Tryd.prog (w.alloc (.cells (C x).toArray e)) = .ok v' w' ∧ FB C c e base w' v' (xs ++ [x]) ∧ Only v.ownBlock.toList w w' ∧ (v'.ownBlock = v.ownBlock ∨ ∃ g, v'.ownBlock = some g ∧ w.heap.size ≤ g) := by
  obtain ⟨i0, hi, hz0, hz1, hz2⟩ := info_parts hinfo
  have hbl : (xs.length + 1) * bytes ≤ 1000001 * 1000 := Nat.mul_le_mul (by omega) hby
  obtain ⟨v', w', hr, ho, hg, _, hat⟩ := run_append_own_at (P := Tryd.prog) (w := w.alloc (.cells (C x).toArray e)) base t ty e i0 z c bytes ht hi hz0 hz1 hz2 hz hc v xs.length (flat C xs) (World.ownsRow.alloc h _) ⟨w.heap.size, 0, none⟩ 1 1 (C x) (by rw [hC]; omega) (news_cells _ _) (h1 x) (by unfold maxLen; omega) (by omega) (by rw [Deep.nblk_alloc]; omega)
  refine ⟨v', w', hr, ?_, ?_, ?_⟩
  · unfold FB
    rw [List.length_append, List.length_singleton, flat_snoc]
    exact ho
  · refine (Only.of_below ((Below.refl w.heap.size w).alloc (Nat.le_refl _) _)).trans ⟨hg.os, hg.tape, hg.output, hg.size, fun k hk hn => hg.block k hk fun e1 => hn ?_⟩
    rw [← e1]
    simp
  · rcases hat with hat | hat
    · exact .inl hat
    · exact .inr ⟨_, hat, by rw [Deep.nblk_alloc]; omega⟩
theorem wnC_one (x : Wn) : ∀ u ∈ wnC x, u.oneCell' = true := by
  intro u hu
  simp only [wnC, List.mem_cons, List.not_mem_nil, or_false] at hu
  rcases hu with rfl | rfl | rfl | rfl <;> rfl
theorem cnC_one (x : Cn) : ∀ u ∈ cnC x, u.oneCell' = true := by
  intro u hu
  simp only [cnC, List.mem_cons, List.not_mem_nil, or_false] at hu
  rcases hu with rfl | rfl | rfl | rfl | rfl | rfl | rfl <;> rfl
theorem stC_one (x : St) : ∀ u ∈ stC x, u.oneCell' = true := by
  intro u hu
  simp only [stC, List.mem_cons, List.not_mem_nil, or_false] at hu
  rcases hu with rfl | rfl | rfl | rfl | rfl | rfl <;> rfl
end Go.Proofs.YtpmnepalchgcbaaDoor.Msg

namespace Go.Proofs.YtpmnepalchgcbaaDoor.Msg
open Go.ChangeShapes Go.WideShapes Go.ChangeAt Go.RowKit
set_option linter.unusedVariables false
set_option linter.unusedSimpArgs false

/-! lists that are built by append, their parts read elsewhere -/
def OneV (v : Value) : Prop := ∃ a n c, v = .slice a n c
/-- a value that is read in blocks that are not the row's own -/
def Ind {α : Type} (A : Nat → World → Value → α → Prop) (lo : Nat) (w : World) (v u : Value) (x : α) : Prop :=
  ∃ L W, lo ≤ L ∧ A L W u x ∧ W.heap.size ≤ w.heap.size ∧ ∀ b, L ≤ b → b < W.heap.size → w.heap[b]? = W.heap[b]? ∧ v.ownBlock ≠ some b
theorem Ind.new {α : Type} {A : Nat → World → Value → α → Prop} {lo L : Nat} {w : World} {v u : Value} {x : α} (h : A L w u x) (hl : lo ≤ L) (hn : ∀ b, v.ownBlock = some b → b < L ∨ w.heap.size ≤ b) : Ind A lo w v u x :=
  ⟨L, w, hl, h, Nat.le_refl _, fun b h1 h2 => ⟨rfl, fun e => by rcases hn b e with h | h <;> omega⟩⟩
theorem Ind.below {α : Type} {A : Nat → World → Value → α → Prop} {lo : Nat} {w w' : World} {v u : Value} {x : α} (h : Ind A lo w v u x) (hb : Below w.heap.size w w') : Ind A lo w' v u x := by
  obtain ⟨L, W, h1, h2, h3, h4⟩ := h
  exact ⟨L, W, h1, h2, Nat.le_trans h3 hb.size, fun b g1 g2 => ⟨(hb.block b (by omega)).trans (h4 b g1 g2).1, (h4 b g1 g2).2⟩⟩
theorem Ind.app {α : Type} {A : Nat → World → Value → α → Prop} {lo : Nat} {w w' : World} {v v' u : Value} {x : α} (h : Ind A lo w v u x) (ho : Only v.ownBlock.toList w w') (hv : ∀ b, v'.ownBlock = some b → v.ownBlock = some b ∨ w.heap.size ≤ b) : Ind A lo w' v' u x := by
  obtain ⟨L, W, h1, h2, h3, h4⟩ := h
  refine ⟨L, W, h1, h2, Nat.le_trans h3 ho.size, fun b g1 g2 => ⟨(ho.block b (by omega) fun hm => ?_).trans (h4 b g1 g2).1, fun e => ?_⟩⟩
  · exact (h4 b g1 g2).2 (by simpa using hm)
  · rcases hv b e with e1 | e1
    · exact (h4 b g1 g2).2 e1
    · omega
/-- the pieces of a row tell of the elements -/
def Inds {α β : Type} (A : Nat → World → Value → α → Prop) (val : β → Value) (rel : β → α → Prop) (lo : Nat) (w : World) (v : Value) (ps : List β) (xs : List α) : Prop :=
  ps.length = xs.length ∧ (∀ y ∈ ps, OneV (val y)) ∧ ∀ i (h1 : i < ps.length) (h2 : i < xs.length), rel ps[i] xs[i] ∧ Ind A lo w v (val ps[i]) xs[i]
section
variable {α β : Type} {A : Nat → World → Value → α → Prop} {val : β → Value} {rel : β → α → Prop} {lo : Nat} {w w' : World} {v v' : Value} {ps : List β} {xs : List α}
theorem Inds.nil (A : Nat → World → Value → α → Prop) (val : β → Value) (rel : β → α → Prop) (lo : Nat) (w : World) (v : Value) : Inds A val rel lo w v [] [] := ⟨rfl, by simp, fun i h => absurd h (by simp)⟩
theorem Inds.below (h : Inds A val rel lo w v ps xs) (hb : Below w.heap.size w w') : Inds A val rel lo w' v ps xs :=
  ⟨h.1, h.2.1, fun i h1 h2 => ⟨(h.2.2 i h1 h2).1, (h.2.2 i h1 h2).2.below hb⟩⟩
theorem Inds.app (h : Inds A val rel lo w v ps xs) (ho : Only v.ownBlock.toList w w') (hv : ∀ b, v'.ownBlock = some b → v.ownBlock = some b ∨ w.heap.size ≤ b) : Inds A val rel lo w' v' ps xs :=
  ⟨h.1, h.2.1, fun i h1 h2 => ⟨(h.2.2 i h1 h2).1, (h.2.2 i h1 h2).2.app ho hv⟩⟩
theorem Inds.snoc (h : Inds A val rel lo w v ps xs) {y : β} {x : α} (h1 : OneV (val y)) (hr : rel y x) (hi : Ind A lo w v (val y) x) : Inds A val rel lo w v (ps ++ [y]) (xs ++ [x]) := by
  refine ⟨by simp [h.1], fun z hz => ?_, fun i g1 g2 => ?_⟩
  · rcases List.mem_append.1 hz with hz | hz
    · exact h.2.1 z hz
    · rw [List.mem_singleton.1 hz]; exact h1
  · by_cases hi1 : i < ps.length
    · have hi2 : i < xs.length := by rw [← h.1]; exact hi1
      rw [List.getElem_append_left hi1, List.getElem_append_left hi2]
      exact h.2.2 i hi1 hi2
    · have e : i = ps.length := by simp at g1; omega
      subst e
      have e2 : ps.length = xs.length := h.1
      rw [List.getElem_append_right (Nat.le_refl _), List.getElem_append_right (by omega)]
      simp only [e2, Nat.sub_self, List.getElem_cons_zero]
      exact ⟨hr, hi⟩
end
/-- one element more, whatever its cells -/
theorem row_more {β : Type} {C : β → List Value} {c bytes : Nat} {t e : TypeId} {z : Value} (ht : Tryd.prog.underlying t = some (.slice e)) (hinfo : (Tryd.prog.info? e).map (fun i => (i.zero, i.size, i.bytes)) = some (some z, c, bytes)) (hz : z.cells.size = c) (hc : 0 < c)
    {base n : Nat} {w : World} {v : Value} {ps : List β} (h : FB C c e base w v ps) (x : β) (hCx : (C x).length = c) (h1 : ∀ u ∈ C x, u.oneCell' = true) (hb : base ≤ w.heap.size) (hn : ps.length = n) (hl : n ≤ 100000) (hby : bytes ≤ 1000) :
    ∃ a' c' w', (Builtin.append_ #[t, t] t #[v, .slice (some ⟨w.heap.size, 0, none⟩) 1 1]).run Tryd.prog (w.alloc (.cells (C x).toArray e)) = .ok (.slice a' (n + 1) c') w' ∧
      FB C c e base w' (.slice a' (n + 1) c') (ps ++ [x]) ∧ Only v.ownBlock.toList w w' ∧ (∀ b, (Value.slice a' (n + 1) c').ownBlock = some b → v.ownBlock = some b ∨ w.heap.size ≤ b) := by
  subst hn
  obtain ⟨i0, hi, hz0, hz1, hz2⟩ := info_parts hinfo
  have hbl : (ps.length + 1) * bytes ≤ 100001 * 1000 := Nat.mul_le_mul (by omega) hby
  obtain ⟨v', w', hr, ho, hg, _, hat⟩ := run_append_own_at (P := Tryd.prog) (w := w.alloc (.cells (C x).toArray e)) base t t e i0 z c bytes ht hi hz0 hz1 hz2 hz hc v ps.length (flat C ps) (World.ownsRow.alloc h _) ⟨w.heap.size, 0, none⟩ 1 1 (C x) (by rw [hCx]; omega) (news_cells _ _) h1 (by unfold maxLen; omega) (by omega) (by rw [Deep.nblk_alloc]; omega)
  have hF : FB C c e base w' v' (ps ++ [x]) := by
    unfold FB
    rw [List.length_append, List.length_singleton, flat_snoc]
    exact ho
  obtain ⟨a8, c8, e8, _, _⟩ := hF.form
  rw [List.length_append, List.length_singleton] at e8
  subst e8
  refine ⟨a8, c8, w', hr, hF, ?_, fun b hb => ?_⟩
  · refine (Only.of_below ((Below.refl w.heap.size w).alloc (Nat.le_refl _) _)).trans ⟨hg.os, hg.tape, hg.output, hg.size, fun k hk hn => hg.block k hk fun e1 => hn ?_⟩
    rw [← e1]
    simp
  · rcases hat with hat | hat
    · exact .inl (by rw [← hat]; exact hb)
    · refine .inr ?_
      rw [hat] at hb
      injection hb with hb
      rw [Deep.nblk_alloc] at hb
      omega
/-! segments -/
def pvC (x : ByteArray × Value) : List Value := [.string x.1, x.2]
def SegP (x : ByteArray × Value) (s : Seg) : Prop := x.1 = s.name ∧ s.name.size ≤ 9223372036854775807
def FldA (L : Nat) (W : World) (u : Value) (s : Seg) : Prop := FieldsAt L W u s.fields
abbrev SegInds := Inds (α := Seg) (β := ByteArray × Value) FldA (fun x => x.2) SegP
end Go.Proofs.YtpmnepalchgcbaaDoor.Msg

namespace Go.Proofs.YtpmnepalchgcbaaDoor.Msg
open Go.ChangeShapes Go.WideShapes Go.ChangeAt Go.RowKit
set_option linter.unusedVariables false
set_option linter.unusedSimpArgs false

/-! l5Copy: a session whose rows lie in memory of its own -/
def tC (s : ByteArray) : List Value := [.string s]
theorem tinfo : (Tryd.prog.info? 9).map (fun i => (i.zero, i.size, i.bytes)) = some (some (.string ByteArray.empty), 1, 16) := by kernel_rfl
theorem tC_strs {base : Nat} {w : World} {v : Value} {xs : List ByteArray} (h : FB tC 1 9 base w v xs) (hl : xs.length ≤ 9223372036854775807) (hz : ∀ s ∈ xs, s.size ≤ 9223372036854775807) : StrsAt base w v xs := by
  obtain ⟨h0, hA⟩ := FB.at (C := tC) (c := 1) (Z := fun s => s.size ≤ 9223372036854775807) (fun _ => rfl) h hl (fun i hi => hz _ (List.getElem_mem hi))
  refine ⟨h0, ?_⟩
  rcases hA with ⟨a, cap, e, e2⟩ | ⟨b, off, cap, e, hb, hA⟩
  · exact .inl ⟨a, cap, e, e2⟩
  · refine .inr ⟨b, off, cap, e, hb, fun i hi => ?_⟩
    obtain ⟨h1, h2⟩ := hA i hi
    exact ⟨by simpa [tC] using h1 0 (by simp [tC]), h2⟩
theorem seven_below {B : Nat} {w X : World} {b : Nat} (h : Below B w X) (hb : B ≤ b) (x0 x1 x2 x3 x4 x5 x6 : Value) :
    Below B w (((((((X.setCell ⟨b, 0, none⟩ x0).setCell ⟨b, 1, none⟩ x1).setCell ⟨b, 2, none⟩ x2).setCell ⟨b, 3, none⟩ x3).setCell ⟨b, 4, none⟩ x4).setCell ⟨b, 5, none⟩ x5).setCell ⟨b, 6, none⟩ x6) :=
  ((((((h.setCell (p := ⟨b, 0, none⟩) hb _).setCell (p := ⟨b, 1, none⟩) hb _).setCell (p := ⟨b, 2, none⟩) hb _).setCell (p := ⟨b, 3, none⟩) hb _).setCell (p := ⟨b, 4, none⟩) hb _).setCell (p := ⟨b, 5, none⟩) hb _).setCell (p := ⟨b, 6, none⟩) hb _
theorem FB.set1 {α : Type} {C : α → List Value} {c : Nat} {e : TypeId} {base : Nat} {w : World} {v : Value} {xs : List α} (h : FB C c e base w v xs) {b o : Nat} (ha : b < base) (u : Value) : FB C c e base (w.setCell ⟨b, o, none⟩ u) v xs :=
  h.keep fun d hd => Deep.blk_setCell_other _ ⟨b, o, none⟩ _ _ (by have := (h.own d hd).1; dsimp only; omega)
def sessC (x : Sess) (v : Value) : Array Value := #[.int .i64 x.client, .string x.tag, .string x.query, .int .i64 x.page, .int .i64 x.state, v, .int .i64 x.cursor]
def sessZ : Array Value := #[.int .i64 0, .string ⟨#[]⟩, .string ⟨#[]⟩, .int .i64 0, .int .i64 0, .slice none 0 0, .int .i64 0]
end Go.Proofs.YtpmnepalchgcbaaDoor.Msg
