import Derived.Test.YtfdefjdogmhinaaDoorMarkDatawithFlatKit
import Derived.Test.YtfdefjdogmhinaaDoorMsgTowithMarkStr
import Derived.Maps.AppendAt
import Derived.OwnWalk
import Derived.Laws.Rows
import Derived.Maps.Own
import Derived.Maps.OwnSet
import Derived.DeepKeys4
namespace Go.Proofs.YtfdefjdogmhinaaDoor.Msg
open Go.ChangeShapes Go.WideShapes Go.ChangeAt Go.RowKit
set_option linter.unusedVariables false
set_option linter.unusedSimpArgs false

/-! a block of plain cells -/
def Box (w : World) (b : Nat) (t : TypeId) (cs : Array Value) : Prop := w.heap[b]? = some (.cells cs t (0, 0))
theorem Box.lt {w : World} {b : Nat} {t : TypeId} {cs : Array Value} (h : Box w b t cs) : b < w.heap.size := by
  unfold Box at h
  rw [Array.getElem?_eq_some_iff] at h
  exact h.1
theorem Box.cell {w : World} {b : Nat} {t : TypeId} {cs : Array Value} (h : Box w b t cs) (i : Nat) (hi : i < cs.size) : w.cell? ⟨b, i, none⟩ = some cs[i] := by
  unfold Box at h
  simp [World.cell?, h, hi]
theorem Box.frozen {w : World} {b : Nat} {t : TypeId} {cs : Array Value} (h : Box w b t cs) (i : Nat) : w.frozen? ⟨b, i, none⟩ = false := by
  unfold Box at h
  simp [World.frozen?, h]
theorem Box.keep {w w' : World} {b : Nat} {t : TypeId} {cs : Array Value} (h : Box w b t cs) (e : w'.heap[b]? = w.heap[b]?) : Box w' b t cs := by
  unfold Box at *
  rw [e]
  exact h
theorem Box.set {w : World} {b : Nat} {t : TypeId} {cs : Array Value} (h : Box w b t cs) (i : Nat) (v : Value) : Box (w.setCell ⟨b, i, none⟩ v) b t (cs.setIfInBounds i v) :=
  heap_setCell_same w b i cs t v h
theorem Box.other {w : World} {b : Nat} {t : TypeId} {cs : Array Value} (h : Box w b t cs) {a : Addr} (ha : b ≠ a.block) (v : Value) : Box (w.setCell a v) b t cs :=
  h.keep (Deep.blk_setCell_other _ _ _ _ ha)
theorem Box.new (w : World) (t : TypeId) (cs : Array Value) : Box (w.alloc (.cells cs t)) w.heap.size t cs := by
  exact (MapKept.heap_alloc w _).1
theorem Box.alloc {w : World} {b : Nat} {t : TypeId} {cs : Array Value} (h : Box w b t cs) (o : Obj) : Box (w.alloc o) b t cs :=
  h.keep ((((Below.refl w.heap.size w).alloc (Nat.le_refl _) o)).block b h.lt)
theorem Box.below {w w' : World} {b : Nat} {t : TypeId} {cs : Array Value} (h : Box w b t cs) (hb : Below w.heap.size w w') : Box w' b t cs := h.keep (hb.block b h.lt)
theorem Box.only {bs : List Nat} {w w' : World} {b : Nat} {t : TypeId} {cs : Array Value} (h : Box w b t cs) (hb : Only bs w w') (hn : b ∉ bs) : Box w' b t cs := h.keep (hb.block b h.lt hn)

/-! an append whose run is known -/
theorem step_app {ops : Array Oper} {o : Oper} {a : Act} {K : Act → World → Prop} {Q : Exit → Act → World → Prop} {E : Prop} {w w' : World} {v y v' : Value} (hgd : o.guard = none) (s x : Operand) (t : TypeId)
    (ho : o.op = .call { callee := .builtin .append, args := #[s, x], argTypes := #[t, t] }) (hr : (Builtin.append_ #[t, t] o.type #[v, y]).run Tryd.prog w = .ok v' w') (hs : a.eval s = v) (hx : a.eval x = y) (h : K (a.put o.dst v') w') :
    if Region.wanted o (yielded ops a.tmps) = true then Oper.wp Tryd.prog o a w K Q else E := by
  have hw : Region.wanted o (yielded ops a.tmps) = true := by simp [Region.wanted, hgd]
  rw [if_pos hw]
  unfold Oper.wp execOp
  simp only [ho, resolve, invoke, builtin, Sem.run_bind, Sem.run_pure, Result.andThen_ok, List.map_toArray, List.map_cons, List.map_nil, hs, hx, hr]
  exact h
theorem wpList_app {ops : Array Oper} {rest : List Oper} {o : Oper} {a : Act} {Q : Exit → Act → World → Prop} {w w' : World} {v y v' : Value} (hgd : o.guard = none) (s x : Operand) (t : TypeId)
    (ho : o.op = .call { callee := .builtin .append, args := #[s, x], argTypes := #[t, t] }) (hr : (Builtin.append_ #[t, t] o.type #[v, y]).run Tryd.prog w = .ok v' w') (hs : a.eval s = v) (hx : a.eval x = y) (h : wpList Tryd.prog ops Q rest (a.put o.dst v') w') :
    wpList Tryd.prog ops Q (o :: rest) a w := by
  refine wpList_plain hgd fun K hK => ?_
  unfold Oper.wp execOp
  simp only [ho, resolve, invoke, builtin, Sem.run_bind, Sem.run_pure, Result.andThen_ok, List.map_toArray, List.map_cons, List.map_nil, hs, hx, hr]
  exact hK _ _ h

/-- a list of plain elements that is being built -/
def FB {α : Type} (C : α → List Value) (c : Nat) (e : TypeId) (base : Nat) (w : World) (v : Value) (xs : List α) : Prop := w.ownsRow base e c v xs.length (flat C xs)
theorem FB.nil {α : Type} (C : α → List Value) (c : Nat) (e : TypeId) (base : Nat) (w : World) : FB C c e base w (.slice none 0 0) [] := ⟨by simp [flat], .inl ⟨rfl, rfl⟩⟩
theorem FB.lit {α : Type} (C : α → List Value) (c : Nat) (e : TypeId) (w : World) : FB C c e w.heap.size (w.alloc (.cells #[] e)) (.slice (some ⟨w.heap.size, 0, none⟩) 0 0) [] :=
  World.ownsRow_lit (base := w.heap.size) (e := e) (size := c) w #[] 0 (Nat.le_refl _) (by unfold maxLen; omega) (by simp)
theorem FB.form {α : Type} {C : α → List Value} {c : Nat} {e : TypeId} {base : Nat} {w : World} {v : Value} {xs : List α} (h : FB C c e base w v xs) : ∃ a cap, v = .slice a xs.length cap ∧ xs.length ≤ cap ∧ cap ≤ 9223372036854775807 := by
  obtain ⟨_, ⟨rfl, h0⟩ | ⟨g, cap, cur, rfl, hg, _, hc, hm, _⟩⟩ := h
  · exact ⟨none, 0, by rw [h0], by omega, by omega⟩
  · exact ⟨_, _, rfl, hc, by unfold maxLen at hm; omega⟩
theorem FB.own {α : Type} {C : α → List Value} {c : Nat} {e : TypeId} {base : Nat} {w : World} {v : Value} {xs : List α} (h : FB C c e base w v xs) : ∀ b ∈ v.ownBlock.toList, base ≤ b ∧ b < w.heap.size := by
  obtain ⟨_, ⟨rfl, h0⟩ | ⟨g, cap, cur, rfl, hg, hs, _⟩⟩ := h
  · intro b hb; simp [Value.ownBlock] at hb
  · intro b hb
    simp [Value.ownBlock] at hb
    subst hb
    rw [Array.getElem?_eq_some_iff] at hs
    exact ⟨hg, hs.1⟩
theorem FB.keep {α : Type} {C : α → List Value} {c : Nat} {e : TypeId} {base : Nat} {w w' : World} {v : Value} {xs : List α} (h : FB C c e base w v xs) (hb : ∀ b ∈ v.ownBlock.toList, w'.heap[b]? = w.heap[b]?) : FB C c e base w' v xs := by
  unfold FB at *
  obtain ⟨h0, ⟨rfl, h1⟩ | ⟨g, cap, cur, rfl, hg, hh, rest⟩⟩ := h
  · exact ⟨h0, .inl ⟨rfl, h1⟩⟩
  · exact ⟨h0, .inr ⟨g, cap, cur, rfl, hg, by rw [hb g (by simp [Value.ownBlock])]; exact hh, rest⟩⟩
theorem FB.below {α : Type} {C : α → List Value} {c : Nat} {e : TypeId} {base : Nat} {w w' : World} {v : Value} {xs : List α} (h : FB C c e base w v xs) (hb : Below w.heap.size w w') : FB C c e base w' v xs :=
  h.keep fun b hb' => hb.block b (h.own b hb').2
theorem FB.only {α : Type} {C : α → List Value} {c : Nat} {e : TypeId} {base : Nat} {bs : List Nat} {w w' : World} {v : Value} {xs : List α} (h : FB C c e base w v xs) (hb : Only bs w w') (hn : ∀ b ∈ v.ownBlock.toList, b ∉ bs) : FB C c e base w' v xs :=
  h.keep fun b hb' => hb.block b (h.own b hb').2 (hn b hb')
theorem FB.at {α : Type} {C : α → List Value} {c : Nat} {e : TypeId} {Z : α → Prop} (hC : ∀ x, (C x).length = c) {base : Nat} {w : World} {v : Value} {xs : List α} (h : FB C c e base w v xs) (hl : xs.length ≤ 9223372036854775807) (hZ : ∀ i (h : i < xs.length), Z xs[i]) :
    At c (FR C Z) base w v xs := by
  obtain ⟨bs, h1, h2, _⟩ := FO.of_own hC h hl
  exact h1.at hC hZ fun b hb => (h2 b hb).1

/-- the element's cells, laid for an append -/
theorem news_cells {w : World} (cs : List Value) (e : TypeId) : ∀ j u, cs[j]? = some u → (w.alloc (.cells cs.toArray e)).cell? ((⟨w.heap.size, 0, none⟩ : Addr).add j) = some u := by
  intro j u hu
  have hj : j < cs.length := by
    by_cases hj : j < cs.length
    · exact hj
    · rw [List.getElem?_eq_none (by omega)] at hu; cases hu
  have := (Box.new w e cs.toArray).cell j (by simpa using hj)
  rw [List.getElem?_eq_getElem hj] at hu
  injection hu with hu
  subst hu
  have e2 : ((⟨w.heap.size, 0, none⟩ : Addr).add j) = ⟨w.heap.size, j, none⟩ := by
    simp only [Addr.add, Nat.zero_add]
    by_cases h0 : j = 0
    · subst h0; simp
    · rw [if_neg h0]
  rw [e2, this]
  simp
/-- one element more -/
theorem app1 {α : Type} {C : α → List Value} {c bytes : Nat} {t e : TypeId} {z : Value} (ht : Tryd.prog.underlying t = some (.slice e)) (hinfo : (Tryd.prog.info? e).map (fun i => (i.zero, i.size, i.bytes)) = some (some z, c, bytes)) (hz : z.cells.size = c) (hc : 0 < c)
    (hC : ∀ x, (C x).length = c) (h1 : ∀ x, ∀ u ∈ C x, u.oneCell' = true) {base : Nat} {w : World} {v : Value} {xs : List α} (h : FB C c e base w v xs) (ty : TypeId) (x : α) (hb : base ≤ w.heap.size) (hl : xs.length ≤ 1000000) (hby : bytes ≤ 1000) :
    ∃ v' w', (Builtin.append_ #[t, t] ty #[v, .slice (some ⟨w.heap.size, 0, none⟩) 1 1]).run Tryd.prog (w.alloc (.cells (C x).toArray e)) = .ok v' w' ∧ FB C c e base w' v' (xs ++ [x]) ∧ Only v.ownBlock.toList w w' ∧ (v'.ownBlock = v.ownBlock ∨ ∃ g, v'.ownBlock = some g ∧ w.heap.size ≤ g) := by
  obtain ⟨i0, hi, hz0, hz1, hz2⟩ := info_parts hinfo
  have hbl : (xs.length + 1) * bytes ≤ 1000001 * 1000 := Nat.mul_le_mul (by omega) hby
  obtain ⟨v', w', hr, ho, hg, _, hat⟩ := run_append_own_at (P := Tryd.prog) (w := w.alloc (.cells (C x).toArray e)) base t ty e i0 z c bytes ht hi hz0 hz1 hz2 hz hc v xs.length (flat C xs) (World.ownsRow.alloc h _) ⟨w.heap.size, 0, none⟩ 1 1 (C x) (by rw [hC]; omega) (news_cells _ _) (h1 x) (by unfold maxLen; omega) (by omega) (by rw [Deep.nblk_alloc]; omega)
  refine ⟨v', w', hr, ?_, ?_, ?_⟩
  · unfold FB
    rw [List.length_append, List.length_singleton, flat_snoc]
    exact ho
  · refine (Only.of_below ((Below.refl w.heap.size w).alloc (Nat.le_refl _) _)).trans ⟨hg.os, hg.tape, hg.output, hg.size, fun k hk hn => hg.block k hk fun e1 => hn ?_⟩
    rw [← e1]
    simp
  · rcases hat with hat | hat
    · exact .inl hat
    · exact .inr ⟨_, hat, by rw [Deep.nblk_alloc]; omega⟩
theorem wnC_one (x : Wn) : ∀ u ∈ wnC x, u.oneCell' = true := by
  intro u hu
  simp only [wnC, List.mem_cons, List.not_mem_nil, or_false] at hu
  rcases hu with rfl | rfl | rfl | rfl <;> rfl
theorem cnC_one (x : Cn) : ∀ u ∈ cnC x, u.oneCell' = true := by
  intro u hu
  simp only [cnC, List.mem_cons, List.not_mem_nil, or_false] at hu
  rcases hu with rfl | rfl | rfl | rfl | rfl | rfl | rfl <;> rfl
theorem stC_one (x : St) : ∀ u ∈ stC x, u.oneCell' = true := by
  intro u hu
  simp only [stC, List.mem_cons, List.not_mem_nil, or_false] at hu
  rcases hu with rfl | rfl | rfl | rfl | rfl | rfl <;> rfl
theorem info_Want : (Tryd.prog.info? 33).map (fun i => (i.zero, i.size, i.bytes)) = some (some (.agg #[.int .i64 0, .string ByteArray.empty, .string ByteArray.empty, .string ByteArray.empty]), 4, 56) := by kernel_rfl
theorem info_Conn : (Tryd.prog.info? 37).map (fun i => (i.zero, i.size, i.bytes)) = some (some (.agg #[.bool false, .string ByteArray.empty, .int .i64 0, .string ByteArray.empty, .string ByteArray.empty, .string ByteArray.empty, .int .i64 0]), 7, 88) := by kernel_rfl
theorem info_Sent : (Tryd.prog.info? 48).map (fun i => (i.zero, i.size, i.bytes)) = some (some (.agg #[.int .i64 0, .string ByteArray.empty, .int .i64 0, .string ByteArray.empty, .string ByteArray.empty, .string ByteArray.empty]), 6, 80) := by kernel_rfl
end Go.Proofs.YtfdefjdogmhinaaDoor.Msg

namespace Go.Proofs.YtfdefjdogmhinaaDoor.Msg
open Go.ChangeShapes Go.WideShapes Go.ChangeAt Go.RowKit
open Go.Maps (Keyed)
set_option linter.unusedVariables false
set_option linter.unusedSimpArgs false

theorem laidOut6 : laidOutB Tryd.prog = true := by kernel_rfl
theorem nTy : Tryd.prog.types.size = 121 := by kernel_rfl
theorem keyRow : 66 < Tryd.prog.types.size := by rw [nTy]; decide
theorem keyDeep : Tryd.prog.keyTypeAt 2 66 = true := by kernel_rfl
theorem keyWide : (match Tryd.prog.underlying 66 with | some (.array _ _) | some (.struct _) => true | _ => false) = true := by kernel_rfl
theorem outKeyed : Keyed Tryd.prog 66 := Keyed.of_law (deep_law_laid laidOut6 (m := 2) (by omega) keyRow keyDeep (by simp only [Tryd.underlying66]))
theorem keyCells : Tryd.prog.cellsOf 66 = 2 := by kernel_rfl
theorem keyInt : Tryd.prog.cellsOf 3 = 1 := by kernel_rfl
theorem keyStr : Tryd.prog.cellsOf 9 = 1 := by kernel_rfl
theorem keyTy : Tryd.prog.keyType 66 = true := by kernel_rfl
theorem nTypes : ∃ m, Tryd.prog.types.size = m + 1 := ⟨121 - 1, by kernel_rfl⟩
theorem key_some (i : Int) (s : ByteArray) (hi : (Lit.int .i64 i).wf = true) (hs : s.size ≤ 9223372036854775807) : ∃ kl, keyOf Tryd.prog 66 (.agg #[.int .i64 i, .string s]) = some kl := by
  obtain ⟨m, hm⟩ := nTypes
  have hs' : s.size ≤ maxLen := by unfold maxLen; omega
  unfold keyOf
  simp only [Tryd.underlying66]
  rw [keyTy, hm]
  have hf : (Value.agg #[.int .i64 i, .string s]).formed Tryd.prog 66 = true := by
    simp [Value.formed, Tryd.underlying66, keyCells]
  rw [hf]
  simp [Value.cells, Program.keyLits, Tryd.underlying66, Tryd.underlying3, Tryd.underlying9, keyCells, keyInt, keyStr, hi, hs']
/-- how an element of the map is read: its block -/
def ptrElem (v : Value) : Option (DataW Unit × List MemPlace) := match v with
  | .pointer (some a) => some (.lit (.int .i64 a.block), [])
  | _ => none
/-- a map of pointers that a call owns -/
def MapO (w : World) (M n : Nat) : Prop := ∃ D, w.ownsMap (H := Unit) Tryd.prog 66 ptrElem M n D
theorem MapO.new (w : World) : MapO (w.alloc (.map #[] 0)) w.heap.size 0 := ⟨_, World.ownsMap_made w _ _ _⟩
theorem MapO.mono {w : World} {M n m : Nat} (h : MapO w M n) (hn : n ≤ m) : MapO w M m := let ⟨D, h⟩ := h; ⟨D, h.mono hn⟩
theorem MapO.lt {w : World} {M n : Nat} (h : MapO w M n) : M < w.heap.size := let ⟨_, h⟩ := h; h.lt
theorem MapO.keep {w w' : World} {M n : Nat} (h : MapO w M n) (hb : w'.heap[M]? = w.heap[M]?) : MapO w' M n := by
  obtain ⟨D, es, c, h1, h2⟩ := h
  exact ⟨D, es, c, by rw [hb]; exact h1, h2⟩
/-- a block of cells is no map -/
theorem MapO.ne {w : World} {M n b : Nat} {t : TypeId} {cs : Array Value} (h : MapO w M n) (hb : Box w b t cs) : b ≠ M := fun e => by
  obtain ⟨D, es, c, h1, h2⟩ := h
  unfold Box at hb
  rw [e, h1] at hb
  cases hb
theorem MapO.put {w : World} {M n : Nat} (h : MapO w M n) (hn : n ≤ 1000000) (i : Int) (s : ByteArray) (b : Nat) (hi : (Lit.int .i64 i).wf = true) (hs : s.size ≤ 9223372036854775807) :
    ∃ w', (Instr.mapUpdate 56 (.map (some M)) (.agg #[.int .i64 i, .string s]) (.pointer (some ⟨b, 0, none⟩))).run Tryd.prog w = .ok () w' ∧ MapO w' M (n + 1) ∧ Only [M] w w' := by
  obtain ⟨D, h⟩ := h
  obtain ⟨kl, hk⟩ := key_some i s hi hs
  obtain ⟨w', hr, ho, hg⟩ := h.update outKeyed Tryd.underlying56 (by unfold maxLen; omega) hk (show ptrElem (.pointer (some ⟨b, 0, none⟩)) = some (.lit (.int .i64 b), []) from rfl)
  exact ⟨w', hr, ⟨_, ho⟩, hg.os, hg.tape, hg.output, hg.size, fun k hk1 hk2 => hg.block k hk1 fun e => hk2 (by injection e with e; rw [e]; simp)⟩
theorem Box.ne {w : World} {b b' : Nat} {t t' : TypeId} {cs cs' : Array Value} (h : Box w b t cs) (h' : Box w b' t' cs') (ht : t ≠ t') : b ≠ b' := fun e => by
  unfold Box at *
  rw [e, h'] at h
  injection h with h
  injection h with _ h2
  exact ht h2.symm
end Go.Proofs.YtfdefjdogmhinaaDoor.Msg
