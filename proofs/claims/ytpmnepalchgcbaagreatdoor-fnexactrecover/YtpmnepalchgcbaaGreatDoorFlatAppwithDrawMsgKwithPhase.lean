import Derived.Test.YtpmnepalchgcbaaGreatDoorMarkStrwithMarkMsgwithFlatKit
import Derived.Maps.AppendAt
import Derived.OwnWalk
import Derived.Laws.Rows
import Derived.Maps.Own
import Derived.Deep.RegionHeld3
namespace Go.Proofs.YtpmnepalchgcbaaGreatDoor.Msg
open Go.ChangeShapes Go.WideShapes Go.ChangeAt Go.RowKit
set_option linter.unusedVariables false
set_option linter.unusedSimpArgs false

/-! a block of plain cells -/
def Box (w : World) (b : Nat) (t : TypeId) (cs : Array Value) : Prop := w.heap[b]? = some (.cells cs t (0, 0))
theorem Box.lt {w : World} {b : Nat} {t : TypeId} {cs : Array Value} (h : Box w b t cs) : b < w.heap.size := by
  unfold Box at h
  rw [Array.getElem?_eq_some_iff] at h
  exact h.1
theorem Box.cell {w : World} {b : Nat} {t : TypeId} {cs : Array Value} (h : Box w b t cs) (i : Nat) (hi : i < cs.size) : w.cell? ⟨b, i, none⟩ = some cs[i] := by
  unfold Box at h
  simp [World.cell?, h, hi]
theorem Box.frozen {w : World} {b : Nat} {t : TypeId} {cs : Array Value} (h : Box w b t cs) (i : Nat) : w.frozen? ⟨b, i, none⟩ = false := by
  unfold Box at h
  simp [World.frozen?, h]
theorem Box.keep {w w' : World} {b : Nat} {t : TypeId} {cs : Array Value} (h : Box w b t cs) (e : w'.heap[b]? = w.heap[b]?) : Box w' b t cs := by
  unfold Box at *
  rw [e]
  exact h
theorem Box.set {w : World} {b : Nat} {t : TypeId} {cs : Array Value} (h : Box w b t cs) (i : Nat) (v : Value) : Box (w.setCell ⟨b, i, none⟩ v) b t (cs.setIfInBounds i v) :=
  heap_setCell_same w b i cs t v h
theorem Box.other {w : World} {b : Nat} {t : TypeId} {cs : Array Value} (h : Box w b t cs) {a : Addr} (ha : b ≠ a.block) (v : Value) : Box (w.setCell a v) b t cs :=
  h.keep (Deep.blk_setCell_other _ _ _ _ ha)
theorem Box.new (w : World) (t : TypeId) (cs : Array Value) : Box (w.alloc (.cells cs t)) w.heap.size t cs := by
  exact (MapKept.heap_alloc w _).1
theorem Box.alloc {w : World} {b : Nat} {t : TypeId} {cs : Array Value} (h : Box w b t cs) (o : Obj) : Box (w.alloc o) b t cs :=
  h.keep ((((Below.refl w.heap.size w).alloc (Nat.le_refl _) o)).block b h.lt)
theorem Box.below {w w' : World} {b : Nat} {t : TypeId} {cs : Array Value} (h : Box w b t cs) (hb : Below w.heap.size w w') : Box w' b t cs := h.keep (hb.block b h.lt)
theorem Box.only {bs : List Nat} {w w' : World} {b : Nat} {t : TypeId} {cs : Array Value} (h : Box w b t cs) (hb : Only bs w w') (hn : b ∉ bs) : Box w' b t cs := h.keep (hb.block b h.lt hn)

/-! an append whose run is known -/
theorem step_app {ops : Array Oper} {o : Oper} {a : Act} {K : Act → World → Prop} {Q : Exit → Act → World → Prop} {E : Prop} {w w' : World} {v y v' : Value} (hgd : o.guard = none) (s x : Operand) (t : TypeId)
    (ho : o.op = .call { callee := .builtin .append, args := #[s, x], argTypes := #[t, t] }) (hr : (Builtin.append_ #[t, t] o.type #[v, y]).run Tryz.prog w = .ok v' w') (hs : a.eval s = v) (hx : a.eval x = y) (h : K (a.put o.dst v') w') :
    if Region.wanted o (yielded ops a.tmps) = true then Oper.wp Tryz.prog o a w K Q else E := by
  have hw : Region.wanted o (yielded ops a.tmps) = true := by simp [Region.wanted, hgd]
  rw [if_pos hw]
  unfold Oper.wp execOp
  simp only [ho, resolve, invoke, builtin, Sem.run_bind, Sem.run_pure, Result.andThen_ok, List.map_toArray, List.map_cons, List.map_nil, hs, hx, hr]
  exact h
theorem wpList_app {ops : Array Oper} {rest : List Oper} {o : Oper} {a : Act} {Q : Exit → Act → World → Prop} {w w' : World} {v y v' : Value} (hgd : o.guard = none) (s x : Operand) (t : TypeId)
    (ho : o.op = .call { callee := .builtin .append, args := #[s, x], argTypes := #[t, t] }) (hr : (Builtin.append_ #[t, t] o.type #[v, y]).run Tryz.prog w = .ok v' w') (hs : a.eval s = v) (hx : a.eval x = y) (h : wpList Tryz.prog ops Q rest (a.put o.dst v') w') :
    wpList Tryz.prog ops Q (o :: rest) a w := by
  refine wpList_plain hgd fun K hK => ?_
  unfold Oper.wp execOp
  simp only [ho, resolve, invoke, builtin, Sem.run_bind, Sem.run_pure, Result.andThen_ok, List.map_toArray, List.map_cons, List.map_nil, hs, hx, hr]
  exact hK _ _ h

/-- a list of plain elements that is being built -/
def FB {α : Type} (C : α → List Value) (c : Nat) (e : TypeId) (base : Nat) (w : World) (v : Value) (xs : List α) : Prop := w.ownsRow base e c v xs.length (flat C xs)
theorem FB.nil {α : Type} (C : α → List Value) (c : Nat) (e : TypeId) (base : Nat) (w : World) : FB C c e base w (.slice none 0 0) [] := ⟨by simp [flat], .inl ⟨rfl, rfl⟩⟩
theorem FB.lit {α : Type} (C : α → List Value) (c : Nat) (e : TypeId) (w : World) : FB C c e w.heap.size (w.alloc (.cells #[] e)) (.slice (some ⟨w.heap.size, 0, none⟩) 0 0) [] :=
  World.ownsRow_lit (base := w.heap.size) (e := e) (size := c) w #[] 0 (Nat.le_refl _) (by unfold maxLen; omega) (by simp)
theorem FB.form {α : Type} {C : α → List Value} {c : Nat} {e : TypeId} {base : Nat} {w : World} {v : Value} {xs : List α} (h : FB C c e base w v xs) : ∃ a cap, v = .slice a xs.length cap ∧ xs.length ≤ cap ∧ cap ≤ 9223372036854775807 := by
  obtain ⟨_, ⟨rfl, h0⟩ | ⟨g, cap, cur, rfl, hg, _, hc, hm, _⟩⟩ := h
  · exact ⟨none, 0, by rw [h0], by omega, by omega⟩
  · exact ⟨_, _, rfl, hc, by unfold maxLen at hm; omega⟩
theorem FB.own {α : Type} {C : α → List Value} {c : Nat} {e : TypeId} {base : Nat} {w : World} {v : Value} {xs : List α} (h : FB C c e base w v xs) : ∀ b ∈ v.ownBlock.toList, base ≤ b ∧ b < w.heap.size := by
  obtain ⟨_, ⟨rfl, h0⟩ | ⟨g, cap, cur, rfl, hg, hs, _⟩⟩ := h
  · intro b hb; simp [Value.ownBlock] at hb
  · intro b hb
    simp [Value.ownBlock] at hb
    subst hb
    rw [Array.getElem?_eq_some_iff] at hs
    exact ⟨hg, hs.1⟩
theorem FB.keep {α : Type} {C : α → List Value} {c : Nat} {e : TypeId} {base : Nat} {w w' : World} {v : Value} {xs : List α} (h : FB C c e base w v xs) (hb : ∀ b ∈ v.ownBlock.toList, w'.heap[b]? = w.heap[b]?) : FB C c e base w' v xs := by
  unfold FB at *
  obtain ⟨h0, ⟨rfl, h1⟩ | ⟨g, cap, cur, rfl, hg, hh, rest⟩⟩ := h
  · exact ⟨h0, .inl ⟨rfl, h1⟩⟩
  · exact ⟨h0, .inr ⟨g, cap, cur, rfl, hg, by rw [hb g (by simp [Value.ownBlock])]; exact hh, rest⟩⟩
theorem FB.below {α : Type} {C : α → List Value} {c : Nat} {e : TypeId} {base : Nat} {w w' : World} {v : Value} {xs : List α} (h : FB C c e base w v xs) (hb : Below w.heap.size w w') : FB C c e base w' v xs :=
  h.keep fun b hb' => hb.block b (h.own b hb').2
theorem FB.only {α : Type} {C : α → List Value} {c : Nat} {e : TypeId} {base : Nat} {bs : List Nat} {w w' : World} {v : Value} {xs : List α} (h : FB C c e base w v xs) (hb : Only bs w w') (hn : ∀ b ∈ v.ownBlock.toList, b ∉ bs) : FB C c e base w' v xs :=
  h.keep fun b hb' => hb.block b (h.own b hb').2 (hn b hb')
theorem FB.at {α : Type} {C : α → List Value} {c : Nat} {e : TypeId} {Z : α → Prop} (hC : ∀ x, (C x).length = c) {base : Nat} {w : World} {v : Value} {xs : List α} (h : FB C c e base w v xs) (hl : xs.length ≤ 9223372036854775807) (hZ : ∀ i (h : i < xs.length), Z xs[i]) :
    At c (FR C Z) base w v xs := by
  obtain ⟨bs, h1, h2, _⟩ := FO.of_own hC h hl
  exact h1.at hC hZ fun b hb => (h2 b hb).1

/-- the element's cells, laid for an append -/
theorem news_cells {w : World} (cs : List Value) (e : TypeId) : ∀ j u, cs[j]? = some u → (w.alloc (.cells cs.toArray e)).cell? ((⟨w.heap.size, 0, none⟩ : Addr).add j) = some u := by
  intro j u hu
  have hj : j < cs.length := by
    by_cases hj : j < cs.length
    · exact hj
    · rw [List.getElem?_eq_none (by omega)] at hu; cases hu
  have := (Box.new w e cs.toArray).cell j (by simpa using hj)
  rw [List.getElem?_eq_getElem hj] at hu
  injection hu with hu
  subst hu
  have e2 : ((⟨w.heap.size, 0, none⟩ : Addr).add j) = ⟨w.heap.size, j, none⟩ := by
    simp only [Addr.add, Nat.zero_add]
    by_cases h0 : j = 0
    · subst h0; simp
    · rw [if_neg h0]
  rw [e2, this]
  simp
/-- one element more -/
theorem app1 {α : Type} {C : α → List Value} {c bytes : Nat} {t e : TypeId} {z : Value} (ht : Tryz.prog.underlying t = some (.slice e)) (hinfo : (Tryz.prog.info? e).map (fun i => (i.zero, i.size, i.bytes)) = some (some z, c, bytes)) (hz : z.cells.size = c) (hc : 0 < c)
    (hC : ∀ x, (C x).length = c) (h1 : ∀ x, ∀ u ∈ C x, u.oneCell' = true) {base : Nat} {w : World} {v : Value} {xs : List α} (h : FB C c e base w v xs) (ty : TypeId) (x : α) (hb : base ≤ w.heap.size) (hl : xs.length ≤ 1000000) (hby : bytes ≤ 1000) :
    ∃ v' w', (Builtin.append_ #[t, t] ty #[v, .slice (some ⟨w.heap.size, 0, none⟩) 1 1]).run Tryz.prog (w.alloc (.cells (C x).toArray e)) = .ok v' w' ∧ FB C c e base w' v' (xs ++ [x]) ∧ Only v.ownBlock.toList w w' ∧ (v'.ownBlock = v.ownBlock ∨ ∃ g, v'.ownBlock = some g ∧ w.heap.size ≤ g) := by
  obtain ⟨i0, hi, hz0, hz1, hz2⟩ := info_parts hinfo
  have hbl : (xs.length + 1) * bytes ≤ 1000001 * 1000 := Nat.mul_le_mul (by omega) hby
  obtain ⟨v', w', hr, ho, hg, _, hat⟩ := run_append_own_at (P := Tryz.prog) (w := w.alloc (.cells (C x).toArray e)) base t ty e i0 z c bytes ht hi hz0 hz1 hz2 hz hc v xs.length (flat C xs) (World.ownsRow.alloc h _) ⟨w.heap.size, 0, none⟩ 1 1 (C x) (by rw [hC]; omega) (news_cells _ _) (h1 x) (by unfold maxLen; omega) (by omega) (by rw [Deep.nblk_alloc]; omega)
  refine ⟨v', w', hr, ?_, ?_, ?_⟩
  · unfold FB
    rw [List.length_append, List.length_singleton, flat_snoc]
    exact ho
  · refine (Only.of_below ((Below.refl w.heap.size w).alloc (Nat.le_refl _) _)).trans ⟨hg.os, hg.tape, hg.output, hg.size, fun k hk hn => hg.block k hk fun e1 => hn ?_⟩
    rw [← e1]
    simp
  · rcases hat with hat | hat
    · exact .inl hat
    · exact .inr ⟨_, hat, by rw [Deep.nblk_alloc]; omega⟩
theorem wnC_one (x : Wn) : ∀ u ∈ wnC x, u.oneCell' = true := by
  intro u hu
  simp only [wnC, List.mem_cons, List.not_mem_nil, or_false] at hu
  rcases hu with rfl | rfl | rfl | rfl <;> rfl
theorem cnC_one (x : Cn) : ∀ u ∈ cnC x, u.oneCell' = true := by
  intro u hu
  simp only [cnC, List.mem_cons, List.not_mem_nil, or_false] at hu
  rcases hu with rfl | rfl | rfl | rfl | rfl | rfl | rfl <;> rfl
theorem stC_one (x : St) : ∀ u ∈ stC x, u.oneCell' = true := by
  intro u hu
  simp only [stC, List.mem_cons, List.not_mem_nil, or_false] at hu
  rcases hu with rfl | rfl | rfl | rfl | rfl | rfl <;> rfl
end Go.Proofs.YtpmnepalchgcbaaGreatDoor.Msg

namespace Go.Proofs.YtpmnepalchgcbaaGreatDoor.Msg
open Go.ChangeShapes Go.WideShapes Go.ChangeAt Go.RowKit
set_option linter.unusedVariables false
set_option linter.unusedSimpArgs false

/-! lists that are built by append, their parts read elsewhere -/
def OneV (v : Value) : Prop := ∃ a n c, v = .slice a n c
/-- a value that is read in blocks that are not the row's own -/
def Ind {α : Type} (A : Nat → World → Value → α → Prop) (lo : Nat) (w : World) (v u : Value) (x : α) : Prop :=
  ∃ L W, lo ≤ L ∧ A L W u x ∧ W.heap.size ≤ w.heap.size ∧ ∀ b, L ≤ b → b < W.heap.size → w.heap[b]? = W.heap[b]? ∧ v.ownBlock ≠ some b
theorem Ind.new {α : Type} {A : Nat → World → Value → α → Prop} {lo L : Nat} {w : World} {v u : Value} {x : α} (h : A L w u x) (hl : lo ≤ L) (hn : ∀ b, v.ownBlock = some b → b < L ∨ w.heap.size ≤ b) : Ind A lo w v u x :=
  ⟨L, w, hl, h, Nat.le_refl _, fun b h1 h2 => ⟨rfl, fun e => by rcases hn b e with h | h <;> omega⟩⟩
theorem Ind.below {α : Type} {A : Nat → World → Value → α → Prop} {lo : Nat} {w w' : World} {v u : Value} {x : α} (h : Ind A lo w v u x) (hb : Below w.heap.size w w') : Ind A lo w' v u x := by
  obtain ⟨L, W, h1, h2, h3, h4⟩ := h
  exact ⟨L, W, h1, h2, Nat.le_trans h3 hb.size, fun b g1 g2 => ⟨(hb.block b (by omega)).trans (h4 b g1 g2).1, (h4 b g1 g2).2⟩⟩
theorem Ind.app {α : Type} {A : Nat → World → Value → α → Prop} {lo : Nat} {w w' : World} {v v' u : Value} {x : α} (h : Ind A lo w v u x) (ho : Only v.ownBlock.toList w w') (hv : ∀ b, v'.ownBlock = some b → v.ownBlock = some b ∨ w.heap.size ≤ b) : Ind A lo w' v' u x := by
  obtain ⟨L, W, h1, h2, h3, h4⟩ := h
  refine ⟨L, W, h1, h2, Nat.le_trans h3 ho.size, fun b g1 g2 => ⟨(ho.block b (by omega) fun hm => ?_).trans (h4 b g1 g2).1, fun e => ?_⟩⟩
  · exact (h4 b g1 g2).2 (by simpa using hm)
  · rcases hv b e with e1 | e1
    · exact (h4 b g1 g2).2 e1
    · omega
/-- the pieces of a row tell of the elements -/
def Inds {α β : Type} (A : Nat → World → Value → α → Prop) (val : β → Value) (rel : β → α → Prop) (lo : Nat) (w : World) (v : Value) (ps : List β) (xs : List α) : Prop :=
  ps.length = xs.length ∧ (∀ y ∈ ps, OneV (val y)) ∧ ∀ i (h1 : i < ps.length) (h2 : i < xs.length), rel ps[i] xs[i] ∧ Ind A lo w v (val ps[i]) xs[i]
section
variable {α β : Type} {A : Nat → World → Value → α → Prop} {val : β → Value} {rel : β → α → Prop} {lo : Nat} {w w' : World} {v v' : Value} {ps : List β} {xs : List α}
theorem Inds.nil (A : Nat → World → Value → α → Prop) (val : β → Value) (rel : β → α → Prop) (lo : Nat) (w : World) (v : Value) : Inds A val rel lo w v [] [] := ⟨rfl, by simp, fun i h => absurd h (by simp)⟩
theorem Inds.below (h : Inds A val rel lo w v ps xs) (hb : Below w.heap.size w w') : Inds A val rel lo w' v ps xs :=
  ⟨h.1, h.2.1, fun i h1 h2 => ⟨(h.2.2 i h1 h2).1, (h.2.2 i h1 h2).2.below hb⟩⟩
theorem Inds.app (h : Inds A val rel lo w v ps xs) (ho : Only v.ownBlock.toList w w') (hv : ∀ b, v'.ownBlock = some b → v.ownBlock = some b ∨ w.heap.size ≤ b) : Inds A val rel lo w' v' ps xs :=
  ⟨h.1, h.2.1, fun i h1 h2 => ⟨(h.2.2 i h1 h2).1, (h.2.2 i h1 h2).2.app ho hv⟩⟩
theorem Inds.snoc (h : Inds A val rel lo w v ps xs) {y : β} {x : α} (h1 : OneV (val y)) (hr : rel y x) (hi : Ind A lo w v (val y) x) : Inds A val rel lo w v (ps ++ [y]) (xs ++ [x]) := by
  refine ⟨by simp [h.1], fun z hz => ?_, fun i g1 g2 => ?_⟩
  · rcases List.mem_append.1 hz with hz | hz
    · exact h.2.1 z hz
    · rw [List.mem_singleton.1 hz]; exact h1
  · by_cases hi1 : i < ps.length
    · have hi2 : i < xs.length := by rw [← h.1]; exact hi1
      rw [List.getElem_append_left hi1, List.getElem_append_left hi2]
      exact h.2.2 i hi1 hi2
    · have e : i = ps.length := by simp at g1; omega
      subst e
      have e2 : ps.length = xs.length := h.1
      rw [List.getElem_append_right (Nat.le_refl _), List.getElem_append_right (by omega)]
      simp only [e2, Nat.sub_self, List.getElem_cons_zero]
      exact ⟨hr, hi⟩
end
/-- one element more, whatever its cells -/
theorem row_more {β : Type} {C : β → List Value} {c bytes : Nat} {t e : TypeId} {z : Value} (ht : Tryz.prog.underlying t = some (.slice e)) (hinfo : (Tryz.prog.info? e).map (fun i => (i.zero, i.size, i.bytes)) = some (some z, c, bytes)) (hz : z.cells.size = c) (hc : 0 < c)
    {base n : Nat} {w : World} {v : Value} {ps : List β} (h : FB C c e base w v ps) (x : β) (hCx : (C x).length = c) (h1 : ∀ u ∈ C x, u.oneCell' = true) (hb : base ≤ w.heap.size) (hn : ps.length = n) (hl : n ≤ 100000) (hby : bytes ≤ 1000) :
    ∃ a' c' w', (Builtin.append_ #[t, t] t #[v, .slice (some ⟨w.heap.size, 0, none⟩) 1 1]).run Tryz.prog (w.alloc (.cells (C x).toArray e)) = .ok (.slice a' (n + 1) c') w' ∧
      FB C c e base w' (.slice a' (n + 1) c') (ps ++ [x]) ∧ Only v.ownBlock.toList w w' ∧ (∀ b, (Value.slice a' (n + 1) c').ownBlock = some b → v.ownBlock = some b ∨ w.heap.size ≤ b) := by
  subst hn
  obtain ⟨i0, hi, hz0, hz1, hz2⟩ := info_parts hinfo
  have hbl : (ps.length + 1) * bytes ≤ 100001 * 1000 := Nat.mul_le_mul (by omega) hby
  obtain ⟨v', w', hr, ho, hg, _, hat⟩ := run_append_own_at (P := Tryz.prog) (w := w.alloc (.cells (C x).toArray e)) base t t e i0 z c bytes ht hi hz0 hz1 hz2 hz hc v ps.length (flat C ps) (World.ownsRow.alloc h _) ⟨w.heap.size, 0, none⟩ 1 1 (C x) (by rw [hCx]; omega) (news_cells _ _) h1 (by unfold maxLen; omega) (by omega) (by rw [Deep.nblk_alloc]; omega)
  have hF : FB C c e base w' v' (ps ++ [x]) := by
    unfold FB
    rw [List.length_append, List.length_singleton, flat_snoc]
    exact ho
  obtain ⟨a8, c8, e8, _, _⟩ := hF.form
  rw [List.length_append, List.length_singleton] at e8
  subst e8
  refine ⟨a8, c8, w', hr, hF, ?_, fun b hb => ?_⟩
  · refine (Only.of_below ((Below.refl w.heap.size w).alloc (Nat.le_refl _) _)).trans ⟨hg.os, hg.tape, hg.output, hg.size, fun k hk hn => hg.block k hk fun e1 => hn ?_⟩
    rw [← e1]
    simp
  · rcases hat with hat | hat
    · exact .inl (by rw [← hat]; exact hb)
    · refine .inr ?_
      rw [hat] at hb
      injection hb with hb
      rw [Deep.nblk_alloc] at hb
      omega
/-! segments -/
def pvC (x : ByteArray × Value) : List Value := [.string x.1, x.2]
def SegP (x : ByteArray × Value) (s : Seg) : Prop := x.1 = s.name ∧ s.name.size ≤ 9223372036854775807
def FldA (L : Nat) (W : World) (u : Value) (s : Seg) : Prop := FieldsAt L W u s.fields
abbrev SegInds := Inds (α := Seg) (β := ByteArray × Value) FldA (fun x => x.2) SegP
end Go.Proofs.YtpmnepalchgcbaaGreatDoor.Msg

namespace Go.Proofs.YtpmnepalchgcbaaGreatDoor.Msg
open Go
set_option linter.unusedVariables false
set_option linter.unusedSimpArgs false
section
variable {P : Program} {ops : Array Oper} {Q : Exit → Act → World → Prop} {md : Region.Mode} {S : World → Prop} {n1 : Nat}
/-- in any order, and S is there behind each of the operations ahead of number n1 -/
def wpTwo (P : Program) (md : Region.Mode) (ops : Array Oper) (Q : Exit → Act → World → Prop) (S : World → Prop) (n1 : Nat) : Nat → Array Bool → Act → World → Prop
  | 0, done, a, w => Region.ready md ops done = [] ∧ Q .normal a w
  | f + 1, done, a, w => (Region.ready md ops done = [] → Q .normal a w) ∧ ∀ j ∈ Region.ready md ops done, wpOp P ops Q j (fun b v => (j < n1 → S v) ∧ wpTwo P md ops Q S n1 f (done.setIfInBounds j true) b v) a w
theorem wpTwo_any : ∀ (f : Nat) (done : Array Bool) (a : Act) (w : World), wpTwo P md ops Q S n1 f done a w → wpAny P md ops Q f done a w
  | 0, _, _, _, h => h
  | f + 1, done, a, w, h => ⟨h.1, fun j hj => wpOp_mono (fun b v hv => wpTwo_any f (done.setIfInBounds j true) b v hv.2) (h.2 j hj)⟩
/-- each of the later operations waits for number i -/
def lateWait (md : Region.Mode) (ops : Array Oper) (n1 i : Nat) : Bool := (ops.toList.drop n1).all fun o => o.after.any fun e => Region.binds md e && e.on == i
theorem lateWait_of {i j : Nat} {o : Oper} (h : lateWait md ops n1 i = true) (hj : ops[j]? = some o) (hn : ¬ ∃ e ∈ o.after, Region.binds md e = true ∧ e.on = i) : j < n1 := by
  refine Nat.lt_of_not_le fun hle => hn ?_
  have hm : o ∈ ops.toList.drop n1 := by
    rw [List.mem_iff_getElem?]
    exact ⟨j - n1, by rw [List.getElem?_drop, show n1 + (j - n1) = j by omega, Array.getElem?_toList]; exact hj⟩
  have h1 := List.all_eq_true.1 h o hm
  rw [Array.any_eq_true'] at h1
  obtain ⟨e, he, hb⟩ := h1
  simp only [Bool.and_eq_true, beq_iff_eq] at hb
  exact ⟨e, he, hb.1, hb.2⟩
theorem wpTwo_first {i : Nat} {oi : Oper} {v : Value} (hi : ops[i]? = some oi) (hlate : lateWait md ops n1 i = true) (hsel : ∀ (j : Nat) (o : Oper) cs b, ops[j]? = some o → o.op ≠ .select cs b) (hQ : ∀ c a w, Q (.panic c) (a.put oi.dst v) w → Q (.panic c) a w) :
    ∀ (f : Nat) (done : Array Bool) (a : Act) (w : World),
      (∀ j oj, ops[j]? = some oj → j ≠ i → done.getD j true = false → (∀ e ∈ oj.after, Region.binds md e = true → e.on ≠ i) → oi.apart ops oj = true) →
      i ∈ Region.ready md ops done → YieldsIf P ops S oi v a → S w →
      wpTwo P md ops Q S n1 f (done.setIfInBounds i true) (a.put oi.dst v) w → wpTwo P md ops Q S n1 (f + 1) done a w
  | 0, done, a, w, _, hr, hy, hS, H => by
    refine ⟨fun h => (by rw [h] at hr; cases hr), fun j hj => ?_⟩
    by_cases hji : j = i
    · subst hji
      exact hy.wpOp hi hS ⟨fun _ => hS, H⟩
    · have h1 := ready_mono hj hji
      rw [H.1] at h1
      cases h1
  | f + 1, done, a, w, hfree, hr, hy, hS, H => by
    refine ⟨fun h => (by rw [h] at hr; cases hr), fun j hj => ?_⟩
    by_cases hji : j = i
    · subst hji
      exact hy.wpOp hi hS ⟨fun _ => hS, H⟩
    · have h1 := H.2 j (ready_mono hj hji)
      obtain ⟨hun, oj, hoj, hall⟩ := mem_ready.1 hj
      have hnot : ∀ e ∈ oj.after, Region.binds md e = true → e.on ≠ i := fun e he hb heq => by
        have hd := hall e he hb
        have h0 := (mem_ready.1 hr).1
        rw [heq] at hd
        rcases Nat.lt_or_ge i done.size with h' | h'
        · simp [h'] at h0 hd; rw [h0] at hd; cases hd
        · simp [Array.getElem?_eq_none h'] at hd
      have hjn : j < n1 := lateWait_of hlate hoj fun ⟨e, he, hb, hei⟩ => hnot e he hb hei
      have h2 := wpOp_putIf hoj (hfree j oj hoj hji hun hnot) (fun cs b => hsel i oi cs b hi) (fun cs b => hsel j oj cs b hoj) hQ hy h1
      refine wpOp_mono (fun b u h3 => ?_) h2
      obtain ⟨hyb, hSu, hK⟩ := h3
      refine ⟨hSu, wpTwo_first hi hlate hsel hQ f (done.setIfInBounds j true) b u (fun k ok hk hki hku hno => hfree k ok hk hki ?_ hno) (ready_mono hr (Ne.symm hji)) hyb (hSu hjn) ?_⟩
      · by_cases hjk : j = k
        · subst hjk; exact hun
        · rw [getD_set_ne true hjk] at hku; exact hku
      · rw [Array.setIfInBounds_comm _ _ hji]
        exact hK
theorem wpTwo_take {i : Nat} (d : Option Tmp) {oi : Oper} {v : Value} {f : Nat} {done : Array Bool} {a : Act} {w : World} (hi : ops[i]? = some oi) (hd : oi.dst = d) (hl : lateWait md ops n1 i = true) (hs : Region.noSelect ops = true) (hf : Region.free md ops done i = true) (hr : (Region.ready md ops done).contains i = true)
    (hQ : ∀ c a w, Q (.panic c) (a.put d v) w → Q (.panic c) a w) (hS : S w) (hy : YieldsIf P ops S oi v a)
    (h : wpTwo P md ops Q S n1 f (done.setIfInBounds i true) (a.put d v) w) : wpTwo P md ops Q S n1 (f + 1) done a w := by
  subst hd
  exact wpTwo_first hi hl (Region.noSelect_spec hs) hQ f done a w (Region.free_spec hi hf) (by simpa using hr) hy hS h
theorem wpTwo_one {j : Nat} {o : Oper} {f : Nat} {done : Array Bool} {a : Act} {w : World} (hr : Region.ready md ops done = [j]) (ho : ops[j]? = some o)
    (h : ∀ K : Act → World → Prop, Shut (∀ b v, (j < n1 → S v) → wpTwo P md ops Q S n1 f (done.setIfInBounds j true) b v → K b v) → if Region.wanted o (yielded ops a.tmps) = true then Oper.wp P o a w K Q else K (a.put o.dst undef) w) :
    wpTwo P md ops Q S n1 (f + 1) done a w :=
  ⟨fun h0 => (by rw [hr] at h0; cases h0), fun k hk => by
    rw [hr] at hk
    simp at hk
    subst hk
    exact wpOp_step ho fun K hK => h K fun b v h1 h2 => hK b v ⟨h1, h2⟩⟩
theorem wpTwo_done {done : Array Bool} {a : Act} {w : World} (hr : Region.ready md ops done = []) (h : Q .normal a w) : ∀ f, wpTwo P md ops Q S n1 f done a w
  | 0 => ⟨hr, h⟩
  | _ + 1 => ⟨fun _ => h, by rw [hr]; simp⟩
theorem wp_region_two {id : Nat} {a : Act} {w : World} (S : World → Prop) (n1 : Nat) (hm : P.follows .mixedOrders = true) (h : wpTwo P .any ops Q S n1 ops.size (Array.replicate ops.size false) a w.drew) : (Code.region id ops true).wp P Q a w :=
  wp_region_any hm (wpTwo_any _ _ _ _ h)
end
end Go.Proofs.YtpmnepalchgcbaaGreatDoor.Msg
