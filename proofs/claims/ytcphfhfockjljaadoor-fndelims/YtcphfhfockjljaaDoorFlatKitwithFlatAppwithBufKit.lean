import Derived.Test.YtcphfhfockjljaaDoorMarkDatawithParseCompswithMarkStr
import Derived.Laws.AppendOwn
import Derived.Maps.AppendAt
import Derived.OwnWalk
import Derived.Laws.Rows
import Derived.Maps.Own
import Derived.Test.YtcphfhfockjljaaDoorMsgOk4withBufPutwithBufEsc
import Derived.Laws.OwnMore
namespace Go.Proofs.YtcphfhfockjljaaDoor.Msg
open Go.ChangeShapes Go.WideShapes Go.ChangeAt Go.RowKit
set_option linter.unusedVariables false
set_option linter.unusedSimpArgs false

/-! lists whose elements are plain cells, so many each -/
def flat {α : Type} (C : α → List Value) (xs : List α) : List Value := (xs.map C).flatten
theorem flat_nil' {α : Type} (C : α → List Value) : flat C [] = [] := rfl
theorem flat_snoc {α : Type} (C : α → List Value) (xs : List α) (x : α) : flat C (xs ++ [x]) = flat C xs ++ C x := by simp [flat]
theorem flat_len {α : Type} {C : α → List Value} {c : Nat} (hC : ∀ x, (C x).length = c) : ∀ xs : List α, (flat C xs).length = xs.length * c
  | [] => by simp [flat]
  | x :: xs => by
    have := flat_len hC xs
    simp only [flat, List.map_cons, List.flatten_cons, List.length_append, List.length_cons, hC] at this ⊢
    rw [this, Nat.add_mul]
    omega
theorem flat_get {α : Type} {C : α → List Value} {c : Nat} (hC : ∀ x, (C x).length = c) : ∀ (xs : List α) (i j : Nat) (hi : i < xs.length) (hj : j < c), (flat C xs)[i * c + j]? = some ((C xs[i])[j]'(by rw [hC]; exact hj))
  | x :: xs, 0, j, _, hj => by
    simp only [flat, List.map_cons, List.flatten_cons, Nat.zero_mul, Nat.zero_add, List.getElem_cons_zero]
    rw [List.getElem?_append_left (by rw [hC]; exact hj), List.getElem?_eq_getElem (by rw [hC]; exact hj)]
  | x :: xs, i + 1, j, hi, hj => by
    have := flat_get hC xs i j (by simpa using hi) hj
    simp only [flat, List.map_cons, List.flatten_cons, List.getElem_cons_succ] at this ⊢
    rw [List.getElem?_append_right (by rw [hC, Nat.add_mul]; omega), hC, show (i + 1) * c + j - c = i * c + j by rw [Nat.add_mul]; omega]
    exact this

/-- an element's cells, and what is said of its texts -/
def FR {α : Type} (C : α → List Value) (Z : α → Prop) (_ : Nat) (w : World) (b off : Nat) (x : α) : Prop :=
  (∀ j (h : j < (C x).length), w.cell? ⟨b, off + j, none⟩ = some (C x)[j]) ∧ Z x
theorem kept_flat {α : Type} {C : α → List Value} {Z : α → Prop} : Kept (FR C Z) := fun lo w w' b off x h h1 h2 hb => ⟨fun j hj => by rw [hb.cell h1 h2]; exact h.1 j hj, h.2⟩
theorem mono_flat {α : Type} {C : α → List Value} {Z : α → Prop} : Mono (FR C Z) := fun _ _ _ _ _ _ h _ => h

/-- a row of cells that may be written: n elements of c cells, 'f' says them; bs: its block -/
def RowC (w : World) (v : Value) (n c : Nat) (f : Nat → Value) (bs : List Nat) : Prop :=
  n ≤ 9223372036854775807 ∧ ((∃ a cap, v = .slice a 0 cap ∧ n = 0 ∧ bs = []) ∨
    ∃ b off cap, v = .slice (some ⟨b, off, none⟩) n cap ∧ b < w.heap.size ∧ bs = [b] ∧ ∀ i, i < n * c → w.cell? ⟨b, off + i, none⟩ = some (f i) ∧ w.frozen? ⟨b, off + i, none⟩ = false)
theorem RowC.kept {w w' : World} {v : Value} {n c : Nat} {f : Nat → Value} {bs : List Nat} (h : RowC w v n c f bs) (hs : w.heap.size ≤ w'.heap.size) (hb : ∀ d ∈ bs, w'.heap[d]? = w.heap[d]?) : RowC w' v n c f bs := by
  obtain ⟨h0, h⟩ := h
  refine ⟨h0, ?_⟩
  rcases h with h | ⟨b, off, cap, rfl, hlt, rfl, h⟩
  · exact .inl h
  · exact .inr ⟨b, off, cap, rfl, Nat.lt_of_lt_of_le hlt hs, rfl, fun i hi => ⟨by rw [cellSame (hb b (by simp))]; exact (h i hi).1, by rw [frozenSame (hb b (by simp))]; exact (h i hi).2⟩⟩
theorem RowC.lt {w : World} {v : Value} {n c : Nat} {f : Nat → Value} {bs : List Nat} (h : RowC w v n c f bs) : ∀ d ∈ bs, d < w.heap.size := by
  obtain ⟨_, h⟩ := h
  rcases h with ⟨_, _, _, _, rfl⟩ | ⟨b, off, cap, rfl, hlt, rfl, h⟩
  · intro d hd; simp at hd
  · intro d hd; simp at hd; subst hd; exact hlt
theorem RowC.below {w w' : World} {v : Value} {n c : Nat} {f : Nat → Value} {bs : List Nat} (h : RowC w v n c f bs) (hb : Below w.heap.size w w') : RowC w' v n c f bs :=
  h.kept hb.size fun d hd => hb.block d (h.lt d hd)
theorem RowC.congr {w : World} {v : Value} {n c : Nat} {f g : Nat → Value} {bs : List Nat} (h : RowC w v n c f bs) (hg : ∀ i, i < n * c → f i = g i) : RowC w v n c g bs := by
  obtain ⟨h0, h⟩ := h
  refine ⟨h0, ?_⟩
  rcases h with h | ⟨b, off, cap, rfl, hlt, rfl, h⟩
  · exact .inl h
  · exact .inr ⟨b, off, cap, rfl, hlt, rfl, fun i hi => ⟨by rw [← hg i hi]; exact (h i hi).1, (h i hi).2⟩⟩
theorem RowC.form {w : World} {v : Value} {n c : Nat} {f : Nat → Value} {bs : List Nat} (h : RowC w v n c f bs) : ∃ a cap, v = .slice a n cap := by
  obtain ⟨_, h⟩ := h
  rcases h with ⟨a, cap, rfl, rfl, _⟩ | ⟨b, off, cap, rfl, hlt, rfl, h⟩
  · exact ⟨a, cap, rfl⟩
  · exact ⟨_, _, rfl⟩

/-- a list that may be written, in a block of its own -/
def FO {α : Type} (C : α → List Value) (c : Nat) (w : World) (v : Value) (xs : List α) (bs : List Nat) : Prop := RowC w v xs.length c (fun i => (flat C xs).getD i (.int .i64 0)) bs
theorem FO.at {α : Type} {C : α → List Value} {c : Nat} {Z : α → Prop} (hC : ∀ x, (C x).length = c) {w : World} {v : Value} {xs : List α} {bs : List Nat} (h : FO C c w v xs bs) (hZ : ∀ i (h : i < xs.length), Z xs[i]) {lo : Nat} (hlo : ∀ b ∈ bs, lo ≤ b) :
    At c (FR C Z) lo w v xs := by
  obtain ⟨h0, h⟩ := h
  refine ⟨h0, ?_⟩
  rcases h with ⟨a, cap, rfl, hn, _⟩ | ⟨b, off, cap, rfl, hlt, rfl, h⟩
  · exact .inl ⟨a, cap, rfl, List.length_eq_zero_iff.1 hn⟩
  · refine .inr ⟨b, off, cap, rfl, ⟨hlo b (by simp), hlt⟩, fun i hi => ⟨fun j hj => ?_, hZ i hi⟩⟩
    rw [hC] at hj
    have hij : i * c + j < xs.length * c := by
      have : (i + 1) * c ≤ xs.length * c := Nat.mul_le_mul_right c hi
      rw [Nat.add_mul] at this
      omega
    have := (h (i * c + j) hij).1
    simp only [List.getD_eq_getElem?_getD] at this
    rw [flat_get hC xs i j hi hj] at this
    rw [show off + i * c + j = off + (i * c + j) from Nat.add_assoc _ _ _]
    exact this
/-- a list that was built by appending -/
theorem FO.of_own {α : Type} {C : α → List Value} {c : Nat} (hC : ∀ x, (C x).length = c) {base : Nat} {e : TypeId} {w : World} {v : Value} {xs : List α} (h : w.ownsRow base e c v xs.length (flat C xs)) (hl : xs.length ≤ 9223372036854775807) :
    ∃ bs, FO C c w v xs bs ∧ (∀ b ∈ bs, base ≤ b ∧ v.ownBlock = some b) ∧ bs.Nodup := by
  obtain ⟨hlen, ⟨rfl, h0⟩ | ⟨g, cap, cur, rfl, hg, hs, hcap, hm, hsz, htk⟩⟩ := h
  · exact ⟨[], ⟨hl, .inl ⟨_, _, rfl, h0, rfl⟩⟩, by simp, by simp⟩
  · have hglt : g < w.heap.size := by rw [Array.getElem?_eq_some_iff] at hs; exact hs.1
    refine ⟨[g], ⟨hl, .inr ⟨g, 0, cap, rfl, hglt, rfl, fun i hi => ⟨?_, ?_⟩⟩⟩, by simp [Value.ownBlock, hg], by simp⟩
    · have hu : (flat C xs)[i]? = some ((flat C xs).getD i (.int .i64 0)) := by rw [List.getD_eq_getElem?_getD, List.getElem?_eq_getElem (by omega)]; rfl
      rw [← htk, List.getElem?_take, if_pos hi, htk] at hu
      simp only [World.cell?, hs, Nat.zero_add]
      rw [← Array.getElem?_toList]
      exact hu
    · simp [World.frozen?, hs]

/-! wants, connections, what was sent -/
structure Wn where
  client : Int
  tag : ByteArray
  query : ByteArray
  pointer : ByteArray
structure Cn where
  busy : Bool
  control : ByteArray
  want : Wn
  due : Int
structure St where
  conn : Int
  control : ByteArray
  want : Wn
def wnC (x : Wn) : List Value := [.int .i64 x.client, .string x.tag, .string x.query, .string x.pointer]
def cnC (x : Cn) : List Value := [.bool x.busy, .string x.control, .int .i64 x.want.client, .string x.want.tag, .string x.want.query, .string x.want.pointer, .int .i64 x.due]
def stC (x : St) : List Value := [.int .i64 x.conn, .string x.control, .int .i64 x.want.client, .string x.want.tag, .string x.want.query, .string x.want.pointer]
def wnV (x : Wn) : Value := .agg #[.int .i64 x.client, .string x.tag, .string x.query, .string x.pointer]
def cnV (x : Cn) : Value := .agg #[.bool x.busy, .string x.control, .int .i64 x.want.client, .string x.want.tag, .string x.want.query, .string x.want.pointer, .int .i64 x.due]
def stV (x : St) : Value := .agg #[.int .i64 x.conn, .string x.control, .int .i64 x.want.client, .string x.want.tag, .string x.want.query, .string x.want.pointer]
theorem wnC_len (x : Wn) : (wnC x).length = 4 := rfl
theorem cnC_len (x : Cn) : (cnC x).length = 7 := rfl
theorem stC_len (x : St) : (stC x).length = 6 := rfl
def wn0 : Wn := ⟨0, ⟨#[]⟩, ⟨#[]⟩, ⟨#[]⟩⟩
def cn0 : Cn := ⟨false, ⟨#[]⟩, wn0, 0⟩
def wnZ (x : Wn) : Prop := x.tag.size ≤ 9223372036854775807 ∧ x.query.size ≤ 9223372036854775807 ∧ x.pointer.size ≤ 9223372036854775807
def cnZ (x : Cn) : Prop := x.control.size ≤ 9223372036854775807 ∧ wnZ x.want
def stZ (x : St) : Prop := x.control.size ≤ 9223372036854775807 ∧ wnZ x.want
theorem wn0Z : wnZ wn0 := ⟨by decide, by decide, by decide⟩
theorem cn0Z : cnZ cn0 := ⟨by decide, wn0Z⟩
def WnsAt : Nat → World → Value → List Wn → Prop := At 4 (FR wnC wnZ)
def CnsAt : Nat → World → Value → List Cn → Prop := At 7 (FR cnC cnZ)
def StsAt : Nat → World → Value → List St → Prop := At 6 (FR stC stZ)
/-- a pool, its two lists as they lie -/
structure Pl where
  epoch : Int
  next : Int
  conns : List Cn
  queue : List Wn
def plV (x : Pl) (cv qv : Value) : Value := .agg #[.int .i64 x.epoch, .int .i64 x.next, cv, qv]
end Go.Proofs.YtcphfhfockjljaaDoor.Msg

namespace Go.Proofs.YtcphfhfockjljaaDoor.Msg
open Go.ChangeShapes Go.WideShapes Go.ChangeAt Go.RowKit
set_option linter.unusedVariables false
set_option linter.unusedSimpArgs false

/-! a block of plain cells -/
def Box (w : World) (b : Nat) (t : TypeId) (cs : Array Value) : Prop := w.heap[b]? = some (.cells cs t (0, 0))
theorem Box.lt {w : World} {b : Nat} {t : TypeId} {cs : Array Value} (h : Box w b t cs) : b < w.heap.size := by
  unfold Box at h
  rw [Array.getElem?_eq_some_iff] at h
  exact h.1
theorem Box.cell {w : World} {b : Nat} {t : TypeId} {cs : Array Value} (h : Box w b t cs) (i : Nat) (hi : i < cs.size) : w.cell? ⟨b, i, none⟩ = some cs[i] := by
  unfold Box at h
  simp [World.cell?, h, hi]
theorem Box.frozen {w : World} {b : Nat} {t : TypeId} {cs : Array Value} (h : Box w b t cs) (i : Nat) : w.frozen? ⟨b, i, none⟩ = false := by
  unfold Box at h
  simp [World.frozen?, h]
theorem Box.keep {w w' : World} {b : Nat} {t : TypeId} {cs : Array Value} (h : Box w b t cs) (e : w'.heap[b]? = w.heap[b]?) : Box w' b t cs := by
  unfold Box at *
  rw [e]
  exact h
theorem Box.set {w : World} {b : Nat} {t : TypeId} {cs : Array Value} (h : Box w b t cs) (i : Nat) (v : Value) : Box (w.setCell ⟨b, i, none⟩ v) b t (cs.setIfInBounds i v) :=
  heap_setCell_same w b i cs t v h
theorem Box.other {w : World} {b : Nat} {t : TypeId} {cs : Array Value} (h : Box w b t cs) {a : Addr} (ha : b ≠ a.block) (v : Value) : Box (w.setCell a v) b t cs :=
  h.keep (Deep.blk_setCell_other _ _ _ _ ha)
theorem Box.new (w : World) (t : TypeId) (cs : Array Value) : Box (w.alloc (.cells cs t)) w.heap.size t cs := by
  exact (MapKept.heap_alloc w _).1
theorem Box.alloc {w : World} {b : Nat} {t : TypeId} {cs : Array Value} (h : Box w b t cs) (o : Obj) : Box (w.alloc o) b t cs :=
  h.keep ((((Below.refl w.heap.size w).alloc (Nat.le_refl _) o)).block b h.lt)
theorem Box.below {w w' : World} {b : Nat} {t : TypeId} {cs : Array Value} (h : Box w b t cs) (hb : Below w.heap.size w w') : Box w' b t cs := h.keep (hb.block b h.lt)
theorem Box.only {bs : List Nat} {w w' : World} {b : Nat} {t : TypeId} {cs : Array Value} (h : Box w b t cs) (hb : Only bs w w') (hn : b ∉ bs) : Box w' b t cs := h.keep (hb.block b h.lt hn)

/-! an append whose run is known -/
theorem step_app {ops : Array Oper} {o : Oper} {a : Act} {K : Act → World → Prop} {Q : Exit → Act → World → Prop} {E : Prop} {w w' : World} {v y v' : Value} (hgd : o.guard = none) (s x : Operand) (t : TypeId)
    (ho : o.op = .call { callee := .builtin .append, args := #[s, x], argTypes := #[t, t] }) (hr : (Builtin.append_ #[t, t] o.type #[v, y]).run Tryd.prog w = .ok v' w') (hs : a.eval s = v) (hx : a.eval x = y) (h : K (a.put o.dst v') w') :
    if Region.wanted o (yielded ops a.tmps) = true then Oper.wp Tryd.prog o a w K Q else E := by
  have hw : Region.wanted o (yielded ops a.tmps) = true := by simp [Region.wanted, hgd]
  rw [if_pos hw]
  unfold Oper.wp execOp
  simp only [ho, resolve, invoke, builtin, Sem.run_bind, Sem.run_pure, Result.andThen_ok, List.map_toArray, List.map_cons, List.map_nil, hs, hx, hr]
  exact h
theorem wpList_app {ops : Array Oper} {rest : List Oper} {o : Oper} {a : Act} {Q : Exit → Act → World → Prop} {w w' : World} {v y v' : Value} (hgd : o.guard = none) (s x : Operand) (t : TypeId)
    (ho : o.op = .call { callee := .builtin .append, args := #[s, x], argTypes := #[t, t] }) (hr : (Builtin.append_ #[t, t] o.type #[v, y]).run Tryd.prog w = .ok v' w') (hs : a.eval s = v) (hx : a.eval x = y) (h : wpList Tryd.prog ops Q rest (a.put o.dst v') w') :
    wpList Tryd.prog ops Q (o :: rest) a w := by
  refine wpList_plain hgd fun K hK => ?_
  unfold Oper.wp execOp
  simp only [ho, resolve, invoke, builtin, Sem.run_bind, Sem.run_pure, Result.andThen_ok, List.map_toArray, List.map_cons, List.map_nil, hs, hx, hr]
  exact hK _ _ h

/-- a list of plain elements that is being built -/
def FB {α : Type} (C : α → List Value) (c : Nat) (e : TypeId) (base : Nat) (w : World) (v : Value) (xs : List α) : Prop := w.ownsRow base e c v xs.length (flat C xs)
theorem FB.nil {α : Type} (C : α → List Value) (c : Nat) (e : TypeId) (base : Nat) (w : World) : FB C c e base w (.slice none 0 0) [] := ⟨by simp [flat], .inl ⟨rfl, rfl⟩⟩
theorem FB.lit {α : Type} (C : α → List Value) (c : Nat) (e : TypeId) (w : World) : FB C c e w.heap.size (w.alloc (.cells #[] e)) (.slice (some ⟨w.heap.size, 0, none⟩) 0 0) [] :=
  World.ownsRow_lit (base := w.heap.size) (e := e) (size := c) w #[] 0 (Nat.le_refl _) (by unfold maxLen; omega) (by simp)
theorem FB.form {α : Type} {C : α → List Value} {c : Nat} {e : TypeId} {base : Nat} {w : World} {v : Value} {xs : List α} (h : FB C c e base w v xs) : ∃ a cap, v = .slice a xs.length cap ∧ xs.length ≤ cap ∧ cap ≤ 9223372036854775807 := by
  obtain ⟨_, ⟨rfl, h0⟩ | ⟨g, cap, cur, rfl, hg, _, hc, hm, _⟩⟩ := h
  · exact ⟨none, 0, by rw [h0], by omega, by omega⟩
  · exact ⟨_, _, rfl, hc, by unfold maxLen at hm; omega⟩
theorem FB.own {α : Type} {C : α → List Value} {c : Nat} {e : TypeId} {base : Nat} {w : World} {v : Value} {xs : List α} (h : FB C c e base w v xs) : ∀ b ∈ v.ownBlock.toList, base ≤ b ∧ b < w.heap.size := by
  obtain ⟨_, ⟨rfl, h0⟩ | ⟨g, cap, cur, rfl, hg, hs, _⟩⟩ := h
  · intro b hb; simp [Value.ownBlock] at hb
  · intro b hb
    simp [Value.ownBlock] at hb
    subst hb
    rw [Array.getElem?_eq_some_iff] at hs
    exact ⟨hg, hs.1⟩
theorem FB.keep {α : Type} {C : α → List Value} {c : Nat} {e : TypeId} {base : Nat} {w w' : World} {v : Value} {xs : List α} (h : FB C c e base w v xs) (hb : ∀ b ∈ v.ownBlock.toList, w'.heap[b]? = w.heap[b]?) : FB C c e base w' v xs := by
  unfold FB at *
  obtain ⟨h0, ⟨rfl, h1⟩ | ⟨g, cap, cur, rfl, hg, hh, rest⟩⟩ := h
  · exact ⟨h0, .inl ⟨rfl, h1⟩⟩
  · exact ⟨h0, .inr ⟨g, cap, cur, rfl, hg, by rw [hb g (by simp [Value.ownBlock])]; exact hh, rest⟩⟩
theorem FB.below {α : Type} {C : α → List Value} {c : Nat} {e : TypeId} {base : Nat} {w w' : World} {v : Value} {xs : List α} (h : FB C c e base w v xs) (hb : Below w.heap.size w w') : FB C c e base w' v xs :=
  h.keep fun b hb' => hb.block b (h.own b hb').2
theorem FB.only {α : Type} {C : α → List Value} {c : Nat} {e : TypeId} {base : Nat} {bs : List Nat} {w w' : World} {v : Value} {xs : List α} (h : FB C c e base w v xs) (hb : Only bs w w') (hn : ∀ b ∈ v.ownBlock.toList, b ∉ bs) : FB C c e base w' v xs :=
  h.keep fun b hb' => hb.block b (h.own b hb').2 (hn b hb')
theorem FB.at {α : Type} {C : α → List Value} {c : Nat} {e : TypeId} {Z : α → Prop} (hC : ∀ x, (C x).length = c) {base : Nat} {w : World} {v : Value} {xs : List α} (h : FB C c e base w v xs) (hl : xs.length ≤ 9223372036854775807) (hZ : ∀ i (h : i < xs.length), Z xs[i]) :
    At c (FR C Z) base w v xs := by
  obtain ⟨bs, h1, h2, _⟩ := FO.of_own hC h hl
  exact h1.at hC hZ fun b hb => (h2 b hb).1

/-- the element's cells, laid for an append -/
theorem news_cells {w : World} (cs : List Value) (e : TypeId) : ∀ j u, cs[j]? = some u → (w.alloc (.cells cs.toArray e)).cell? ((⟨w.heap.size, 0, none⟩ : Addr).add j) = some u := by
  intro j u hu
  have hj : j < cs.length := by
    by_cases hj : j < cs.length
    · exact hj
    · rw [List.getElem?_eq_none (by omega)] at hu; cases hu
  have := (Box.new w e cs.toArray).cell j (by simpa using hj)
  rw [List.getElem?_eq_getElem hj] at hu
  injection hu with hu
  subst hu
  have e2 : ((⟨w.heap.size, 0, none⟩ : Addr).add j) = ⟨w.heap.size, j, none⟩ := by
    simp only [Addr.add, Nat.zero_add]
    by_cases h0 : j = 0
    · subst h0; simp
    · rw [if_neg h0]
  rw [e2, this]
  simp
/-- one element more -/
theorem app1 {α : Type} {C : α → List Value} {c bytes : Nat} {t e : TypeId} {z : Value} (ht : Tryd.prog.underlying t = some (.slice e)) (hinfo : (Tryd.prog.info? e).map (fun i => (i.zero, i.size, i.bytes)) = some (some z, c, bytes)) (hz : z.cells.size = c) (hc : 0 < c)
    (hC : ∀ x, (C x).length = c) (h1 : ∀ x, ∀ u ∈ C x, u.oneCell' = true) {base : Nat} {w : World} {v : Value} {xs : List α} (h : FB C c e base w v xs) (ty : TypeId) (x : α) (hb : base ≤ w.heap.size) (hl : xs.length ≤ 1000000) (hby : bytes ≤ 1000) :
    ∃ v' w', (Builtin.append_ #[t, t] ty #[v, .slice (some ⟨w.heap.size, 0, none⟩) 1 1]).run Tryd.prog (w.alloc (.cells (C x).toArray e)) = .ok v' w' ∧ FB C c e base w' v' (xs ++ [x]) ∧ Only v.ownBlock.toList w w' ∧ (v'.ownBlock = v.ownBlock ∨ ∃ g, v'.ownBlock = some g ∧ w.heap.size ≤ g) := by
  obtain ⟨i0, hi, hz0, hz1, hz2⟩ := info_parts hinfo
  have hbl : (xs.length + 1) * bytes ≤ 1000001 * 1000 := Nat.mul_le_mul (by omega) hby
  obtain ⟨v', w', hr, ho, hg, _, hat⟩ := run_append_own_at (P := Tryd.prog) (w := w.alloc (.cells (C x).toArray e)) base t ty e i0 z c bytes ht hi hz0 hz1 hz2 hz hc v xs.length (flat C xs) (World.ownsRow.alloc h _) ⟨w.heap.size, 0, none⟩ 1 1 (C x) (by rw [hC]; omega) (news_cells _ _) (h1 x) (by unfold maxLen; omega) (by omega) (by rw [Deep.nblk_alloc]; omega)
  refine ⟨v', w', hr, ?_, ?_, ?_⟩
  · unfold FB
    rw [List.length_append, List.length_singleton, flat_snoc]
    exact ho
  · refine (Only.of_below ((Below.refl w.heap.size w).alloc (Nat.le_refl _) _)).trans ⟨hg.os, hg.tape, hg.output, hg.size, fun k hk hn => hg.block k hk fun e1 => hn ?_⟩
    rw [← e1]
    simp
  · rcases hat with hat | hat
    · exact .inl hat
    · exact .inr ⟨_, hat, by rw [Deep.nblk_alloc]; omega⟩
theorem wnC_one (x : Wn) : ∀ u ∈ wnC x, u.oneCell' = true := by
  intro u hu
  simp only [wnC, List.mem_cons, List.not_mem_nil, or_false] at hu
  rcases hu with rfl | rfl | rfl | rfl <;> rfl
theorem cnC_one (x : Cn) : ∀ u ∈ cnC x, u.oneCell' = true := by
  intro u hu
  simp only [cnC, List.mem_cons, List.not_mem_nil, or_false] at hu
  rcases hu with rfl | rfl | rfl | rfl | rfl | rfl | rfl <;> rfl
theorem stC_one (x : St) : ∀ u ∈ stC x, u.oneCell' = true := by
  intro u hu
  simp only [stC, List.mem_cons, List.not_mem_nil, or_false] at hu
  rcases hu with rfl | rfl | rfl | rfl | rfl | rfl <;> rfl
end Go.Proofs.YtcphfhfockjljaaDoor.Msg

namespace Go.Proofs.YtcphfhfockjljaaDoor.Msg
open Go.ChangeShapes Go.WideShapes Go.ChangeAt Go.RowKit
set_option linter.unusedVariables false
set_option linter.unusedSimpArgs false

theorem Buf.form {base : Nat} {w : World} {v : Value} {bs : List UInt8} (h : Buf base w v bs) : ∃ a c, v = .slice a bs.length c ∧ bs.length ≤ c ∧ c ≤ 9223372036854775807 := by
  obtain ⟨_, ⟨rfl, h0⟩ | ⟨g, cap, cur, rfl, hg, _, hc, hm, _⟩⟩ := h
  · exact ⟨none, 0, by rw [h0], by omega, by omega⟩
  · exact ⟨_, _, rfl, hc, by unfold maxLen at hm; omega⟩
theorem Buf.cells {base : Nat} {w : World} {v : Value} {bs : List UInt8} (h : Buf base w v bs) (h0 : 0 < bs.length) :
    ∃ g c, v = .slice (some ⟨g, 0, none⟩) bs.length c ∧ bs.length ≤ c ∧ c ≤ 9223372036854775807 ∧ base ≤ g ∧ g < w.heap.size ∧ ∀ j, j < bs.length → w.cell? ⟨g, j, none⟩ = some (.int .u8 ((bs.getD j 0).toNat : Int)) := by
  have h' := h
  obtain ⟨_, ⟨rfl, h1⟩ | ⟨g, cap, cur, rfl, hg, hh, hc, hm, _⟩⟩ := h
  · omega
  · refine ⟨g, cap, rfl, hc, by unfold maxLen at hm; omega, hg, by rw [Array.getElem?_eq_some_iff] at hh; exact hh.1, fun j hj => ?_⟩
    have := World.ownsRow.cellAt h' j (by omega)
    rw [this]
    simp [u8s, hj, List.getD_eq_getElem?_getD]
theorem Buf.keep {base : Nat} {w w' : World} {v : Value} {bs : List UInt8} (h : Buf base w v bs) (hb : Below w.heap.size w w') : Buf base w' v bs := by
  unfold Buf at *
  obtain ⟨h0, ⟨rfl, h1⟩ | ⟨g, cap, cur, rfl, hg, hh, rest⟩⟩ := h
  · exact ⟨h0, .inl ⟨rfl, h1⟩⟩
  · exact ⟨h0, .inr ⟨g, cap, cur, rfl, hg, by rw [hb.block g (by rw [Array.getElem?_eq_some_iff] at hh; exact hh.1)]; exact hh, rest⟩⟩
theorem Buf.empty_lit (w : World) : Buf w.heap.size (w.alloc (Obj.cells #[] 5)) (.slice (some ⟨w.heap.size, 0, none⟩) 0 0) [] :=
  World.ownsRow_lit w #[] 0 (Nat.le_refl _) (by unfold maxLen; omega) rfl
/-- one byte more -/
theorem Buf.more {base : Nat} {w w' : World} {v v' : Value} {bs : List UInt8} {c : UInt8} {o : Obj} (hv : Buf base w v bs) (hbase : base ≤ w.heap.size) {n : Nat} (hl : n = bs.length) (h : w'.ownsRow base 5 1 v' (n + 1) (u8s bs ++ [.int .u8 c.toNat])) (hg : (w.alloc o).grownBy w' v.ownBlock) :
    Buf base w' v' (bs ++ [c]) ∧ Below base w w' := by
  subst hl
  refine ⟨by unfold Buf; simpa [u8s] using h, ((Below.refl base w).alloc hbase o).trans ⟨hg.os, hg.tape, hg.output, hg.size, fun k hk => hg.block k (by rw [Deep.nblk_alloc]; omega) ?_⟩⟩
  have := hv.own
  intro e
  rw [← e] at this
  simp at this
  omega
theorem Buf.string {base : Nat} {w : World} {v : Value} {bs : List UInt8} (h : Buf base w v bs) : Sem.run Tryd.prog (convert 22 9 v) w = .ok (.string ⟨bs.toArray⟩) w := by
  by_cases h0 : 0 < bs.length
  · obtain ⟨g, c, rfl, _, _, _, _, hc⟩ := h.cells h0
    rw [run_convert_bytes_arg w 22 5 Tryd.underlying22 Tryd.underlying5 g 0 bs.length c (bs.map fun c => (c.toNat : Int)) (by simp) ?_ 9 Tryd.underlying9]
    · congr 2
      unfold strOfNums
      congr 2
      rw [List.map_map]
      conv => rhs; rw [← List.map_id bs]
      apply List.map_congr_left
      intro c _
      simp
    · intro i hi
      have hi' : i < bs.length := by simpa using hi
      rw [Nat.zero_add, hc i hi']
      simp [hi', List.getD_eq_getElem?_getD]
  · obtain rfl : bs = [] := List.length_eq_zero_iff.1 (by omega)
    obtain ⟨_, ⟨rfl, h1⟩ | ⟨g, cap, cur, rfl, hg, hh, hc, hm, _⟩⟩ := h
    · rw [run_convert_bytes_nil w 22 5 Tryd.underlying22 Tryd.underlying5 0 0 9 Tryd.underlying9]
      rfl
    · rw [run_convert_bytes_arg w 22 5 Tryd.underlying22 Tryd.underlying5 g 0 ([] : List UInt8).length cap [] rfl (fun i hi => absurd hi (by simp)) 9 Tryd.underlying9]
      rfl
end Go.Proofs.YtcphfhfockjljaaDoor.Msg
