import Derived.Test.YtfdefjdogmhinaaDoorMsgDatawithMarkText
import Derived.Laws.AppendOwn
namespace Go.Proofs.YtfdefjdogmhinaaDoor.Msg
open Go.ChangeShapes Go.WideShapes Go.ChangeAt Go.RowKit
set_option linter.unusedVariables false
set_option linter.unusedSimpArgs false

/-- a list in memory, each list in blocks of its own: 'bs' are all its blocks -/
def OAt {α : Type} (n : Nat) (R : World → Nat → Nat → α → List Nat → Prop) (w : World) (v : Value) (xs : List α) (bs : List Nat) : Prop :=
  xs.length ≤ 9223372036854775807 ∧ ((∃ a cap, v = .slice a 0 cap ∧ xs = [] ∧ bs = []) ∨
    ∃ (b off cap : Nat) (bss : List (List Nat)), v = .slice (some ⟨b, off, none⟩) xs.length cap ∧ b < w.heap.size ∧ bs = b :: bss.flatten ∧ bss.length = xs.length ∧
      ∀ i (h : i < xs.length) (h2 : i < bss.length), R w b (off + i * n) xs[i] bss[i])

def StrO (w : World) (b off : Nat) (x : ByteArray) (bs : List Nat) : Prop := w.cell? ⟨b, off, none⟩ = some (.string x) ∧ w.frozen? ⟨b, off, none⟩ = false ∧ x.size ≤ 9223372036854775807 ∧ bs = []
def OStrs : World → Value → List ByteArray → List Nat → Prop := OAt 1 StrO
def RepO (w : World) (b off : Nat) (x : Rep) (bs : List Nat) : Prop := ∃ v, w.cell? ⟨b, off, none⟩ = some v ∧ OStrs w v x bs
def OReps : World → Value → List Rep → List Nat → Prop := OAt 1 RepO
def FieldO (w : World) (b off : Nat) (x : Field) (bs : List Nat) : Prop := ∃ v, w.cell? ⟨b, off, none⟩ = some v ∧ OReps w v x bs
def OFields : World → Value → List Field → List Nat → Prop := OAt 1 FieldO
def SegO (w : World) (b off : Nat) (x : Seg) (bs : List Nat) : Prop :=
  w.cell? ⟨b, off, none⟩ = some (.string x.name) ∧ w.frozen? ⟨b, off, none⟩ = false ∧ x.name.size ≤ 9223372036854775807 ∧ ∃ v, w.cell? ⟨b, off + 1, none⟩ = some v ∧ OFields w v x.fields bs
def OSegs : World → Value → List Seg → List Nat → Prop := OAt 2 SegO

/-- nothing but the blocks of a list has turned -/
structure Only (bs : List Nat) (w w' : World) : Prop where
  os : w'.os = w.os
  tape : w'.tape = w.tape
  output : w'.output = w.output
  size : w.heap.size ≤ w'.heap.size
  block : ∀ b, b < w.heap.size → b ∉ bs → w'.heap[b]? = w.heap[b]?
theorem Only.refl (bs : List Nat) (w : World) : Only bs w w := ⟨rfl, rfl, rfl, Nat.le_refl _, fun _ _ _ => rfl⟩
theorem Only.trans {bs : List Nat} {a b c : World} (h : Only bs a b) (k : Only bs b c) : Only bs a c :=
  ⟨k.os.trans h.os, k.tape.trans h.tape, k.output.trans h.output, Nat.le_trans h.size k.size, fun x h1 h2 => (k.block x (Nat.lt_of_lt_of_le h1 h.size) h2).trans (h.block x h1 h2)⟩
theorem Only.mono {bs cs : List Nat} {w w' : World} (h : Only bs w w') (hs : ∀ b ∈ bs, b ∈ cs) : Only cs w w' := ⟨h.os, h.tape, h.output, h.size, fun b h1 h2 => h.block b h1 fun hb => h2 (hs b hb)⟩
theorem Only.of_below {bs : List Nat} {w w' : World} (h : Below w.heap.size w w') : Only bs w w' := ⟨h.os, h.tape, h.output, h.size, fun b h1 _ => h.block b h1⟩
theorem Only.below {bs : List Nat} {w w' : World} {B : Nat} (h : Only bs w w') (hB : B ≤ w.heap.size) (hb : ∀ b ∈ bs, B ≤ b) : Below B w w' :=
  ⟨h.os, h.tape, h.output, h.size, fun k hk => h.block k (by omega) fun hm => by have := hb k hm; omega⟩

def KeptO {α : Type} (R : World → Nat → Nat → α → List Nat → Prop) : Prop := ∀ w w' b off x bs, R w b off x bs → w'.heap[b]? = w.heap[b]? → w.heap.size ≤ w'.heap.size → (∀ c ∈ bs, w'.heap[c]? = w.heap[c]?) → R w' b off x bs
def LtO {α : Type} (R : World → Nat → Nat → α → List Nat → Prop) : Prop := ∀ w b off x bs, R w b off x bs → ∀ c ∈ bs, c < w.heap.size

theorem OAt.kept {α : Type} {n : Nat} {R : World → Nat → Nat → α → List Nat → Prop} (K : KeptO R) {w w' : World} {v : Value} {xs : List α} {bs : List Nat} (h : OAt n R w v xs bs) (hs : w.heap.size ≤ w'.heap.size) (hb : ∀ c ∈ bs, w'.heap[c]? = w.heap[c]?) : OAt n R w' v xs bs := by
  obtain ⟨hl, h⟩ := h
  refine ⟨hl, ?_⟩
  rcases h with h | ⟨b, off, cap, bss, rfl, hlt, rfl, hlen, h⟩
  · exact .inl h
  · exact .inr ⟨b, off, cap, bss, rfl, Nat.lt_of_lt_of_le hlt hs, rfl, hlen, fun i hi h2 => K _ _ _ _ _ _ (h i hi h2) (hb b (by simp)) hs fun c hc => hb c (by
      simp only [List.mem_cons, List.mem_flatten]
      exact .inr ⟨bss[i], List.getElem_mem h2, hc⟩)⟩
theorem OAt.lt {α : Type} {n : Nat} {R : World → Nat → Nat → α → List Nat → Prop} (L : LtO R) {w : World} {v : Value} {xs : List α} {bs : List Nat} (h : OAt n R w v xs bs) : ∀ c ∈ bs, c < w.heap.size := by
  obtain ⟨_, h⟩ := h
  rcases h with ⟨_, _, _, _, rfl⟩ | ⟨b, off, cap, bss, rfl, hlt, rfl, hlen, h⟩
  · intro c hc; simp at hc
  · intro c hc
    simp only [List.mem_cons, List.mem_flatten] at hc
    rcases hc with rfl | ⟨l, hl, hc⟩
    · exact hlt
    · obtain ⟨i, hi, rfl⟩ := List.getElem_of_mem hl
      exact L _ _ _ _ _ (h i (by omega) hi) c hc

theorem cellSame {w w' : World} {b o : Nat} (h : w'.heap[b]? = w.heap[b]?) : w'.cell? ⟨b, o, none⟩ = w.cell? ⟨b, o, none⟩ := World.cell?_of_block h
theorem frozenSame {w w' : World} {b o : Nat} (h : w'.heap[b]? = w.heap[b]?) : w'.frozen? ⟨b, o, none⟩ = w.frozen? ⟨b, o, none⟩ := World.frozen?_of_block h
theorem keptO_str : KeptO StrO := fun w w' b off x bs h hb hs _ => ⟨by rw [cellSame hb]; exact h.1, by rw [frozenSame hb]; exact h.2.1, h.2.2⟩
theorem ltO_str : LtO StrO := fun w b off x bs h c hc => by rw [h.2.2.2] at hc; simp at hc
theorem keptO_rep : KeptO RepO := fun w w' b off x bs h hb hs hc => let ⟨v, h1, h2⟩ := h; ⟨v, by rw [cellSame hb]; exact h1, OAt.kept keptO_str h2 hs hc⟩
theorem ltO_rep : LtO RepO := fun w b off x bs h => let ⟨v, h1, h2⟩ := h; OAt.lt ltO_str h2
theorem keptO_field : KeptO FieldO := fun w w' b off x bs h hb hs hc => let ⟨v, h1, h2⟩ := h; ⟨v, by rw [cellSame hb]; exact h1, OAt.kept keptO_rep h2 hs hc⟩
theorem ltO_field : LtO FieldO := fun w b off x bs h => let ⟨v, h1, h2⟩ := h; OAt.lt ltO_rep h2
theorem keptO_seg : KeptO SegO := fun w w' b off x bs h hb hs hc => let ⟨h0, hf, hz, v, h1, h2⟩ := h; ⟨by rw [cellSame hb]; exact h0, by rw [frozenSame hb]; exact hf, hz, v, by rw [cellSame hb]; exact h1, OAt.kept keptO_field h2 hs hc⟩
theorem ltO_seg : LtO SegO := fun w b off x bs h => let ⟨h0, hf, hz, v, h1, h2⟩ := h; OAt.lt ltO_field h2

/-! an owned list is a list -/
def ToAt {α : Type} (R : World → Nat → Nat → α → List Nat → Prop) (S : Nat → World → Nat → Nat → α → Prop) : Prop := ∀ lo w b off x bs, R w b off x bs → (∀ c ∈ bs, lo ≤ c) → S lo w b off x
theorem OAt.toAt {α : Type} {n : Nat} {R : World → Nat → Nat → α → List Nat → Prop} {S : Nat → World → Nat → Nat → α → Prop} (T : ToAt R S) {w : World} {v : Value} {xs : List α} {bs : List Nat} (h : OAt n R w v xs bs) {lo : Nat} (hlo : ∀ c ∈ bs, lo ≤ c) : At n S lo w v xs := by
  obtain ⟨hl, h⟩ := h
  refine ⟨hl, ?_⟩
  rcases h with ⟨a, cap, rfl, rfl, rfl⟩ | ⟨b, off, cap, bss, rfl, hlt, rfl, hlen, h⟩
  · exact .inl ⟨a, cap, rfl, rfl⟩
  · exact .inr ⟨b, off, cap, rfl, ⟨hlo b (by simp), hlt⟩, fun i hi => T _ _ _ _ _ _ (h i hi (by omega)) fun c hc => hlo c (by
      simp only [List.mem_cons, List.mem_flatten]
      exact .inr ⟨bss[i], List.getElem_mem (by omega), hc⟩)⟩
theorem toAt_str : ToAt StrO StrR := fun lo w b off x bs h _ => ⟨h.1, h.2.2.1⟩
theorem toAt_rep : ToAt RepO RepR := fun lo w b off x bs h hlo => let ⟨v, h1, h2⟩ := h; ⟨v, h1, OAt.toAt toAt_str h2 hlo⟩
theorem toAt_field : ToAt FieldO FieldR := fun lo w b off x bs h hlo => let ⟨v, h1, h2⟩ := h; ⟨v, h1, OAt.toAt toAt_rep h2 hlo⟩
theorem toAt_seg : ToAt SegO SegR := fun lo w b off x bs h hlo => let ⟨h0, hf, hz, v, h1, h2⟩ := h; ⟨h0, hz, v, h1, OAt.toAt toAt_field h2 hlo⟩

/-! marks -/
def mkL {α : Type} (mk : Nat → α → α) (c : α → Nat) (d : α) (k : Nat) (xs : List α) : List α := (List.range xs.length).map fun j => mk (k + sumOf c (xs.take j)) (xs.getD j d)
theorem mkL_len {α : Type} (mk : Nat → α → α) (c : α → Nat) (d : α) (k : Nat) (xs : List α) : (mkL mk c d k xs).length = xs.length := by simp [mkL]
theorem mkL_get {α : Type} (mk : Nat → α → α) (c : α → Nat) (d : α) (k : Nat) (xs : List α) (j : Nat) (h : j < xs.length) (h2 : j < (mkL mk c d k xs).length) : (mkL mk c d k xs)[j] = mk (k + sumOf c (xs.take j)) xs[j] := by
  simp [mkL, List.getD_eq_getElem?_getD, h]
def oneC (_ : ByteArray) : Nat := 1
def mkStr (k : Nat) (_ : ByteArray) : ByteArray := markT k
def mkRep : Nat → Rep → Rep := mkL mkStr oneC ⟨#[]⟩
def cRep (r : Rep) : Nat := sumOf oneC r
def mkField : Nat → Field → Field := mkL mkRep cRep []
def cField (f : Field) : Nat := sumOf cRep f
def mkFields : Nat → List Field → List Field := mkL mkField cField []
def cFields (f : List Field) : Nat := sumOf cField f
def mkSeg (k : Nat) (s : Seg) : Seg := ⟨markT k, mkFields (k + 1) s.fields⟩
def cSeg (s : Seg) : Nat := 1 + cFields s.fields
def mkMsg : Nat → List Seg → List Seg := mkL mkSeg cSeg ⟨⟨#[]⟩, []⟩
def cMsg (m : List Seg) : Nat := sumOf cSeg m
theorem cRep_len (r : Rep) : cRep r = r.length := by
  unfold cRep sumOf
  induction r with
  | nil => rfl
  | cons x r ih => simp only [List.map_cons, List.sum_cons, List.length_cons, ih, oneC]; omega
theorem one_take (r : Rep) (j : Nat) (h : j ≤ r.length) : sumOf oneC (r.take j) = j := by
  have := cRep_len (r.take j)
  unfold cRep at this
  rw [this, List.length_take]
  omega
theorem markT_size (k : Nat) (h : k < 18446744073709551616) : (markT k).size ≤ 21 := by
  have := digs_len k k (Nat.le_refl _) h
  simp only [markT, ByteArray.size_append]
  have h2 : (⟨(digs k).toArray⟩ : ByteArray).size = (digs k).length := by simp [ByteArray.size]
  have h3 : (⟨#[109]⟩ : ByteArray).size = 1 := rfl
  omega
end Go.Proofs.YtfdefjdogmhinaaDoor.Msg

namespace Go.Proofs.YtfdefjdogmhinaaDoor.Msg
open Go.ChangeShapes Go.WideShapes Go.ChangeAt Go.RowKit
set_option linter.unusedVariables false
set_option linter.unusedSimpArgs false

/-! lists whose elements are plain cells, so many each -/
def flat {α : Type} (C : α → List Value) (xs : List α) : List Value := (xs.map C).flatten
theorem flat_nil' {α : Type} (C : α → List Value) : flat C [] = [] := rfl
theorem flat_snoc {α : Type} (C : α → List Value) (xs : List α) (x : α) : flat C (xs ++ [x]) = flat C xs ++ C x := by simp [flat]
theorem flat_len {α : Type} {C : α → List Value} {c : Nat} (hC : ∀ x, (C x).length = c) : ∀ xs : List α, (flat C xs).length = xs.length * c
  | [] => by simp [flat]
  | x :: xs => by
    have := flat_len hC xs
    simp only [flat, List.map_cons, List.flatten_cons, List.length_append, List.length_cons, hC] at this ⊢
    rw [this, Nat.add_mul]
    omega
theorem flat_get {α : Type} {C : α → List Value} {c : Nat} (hC : ∀ x, (C x).length = c) : ∀ (xs : List α) (i j : Nat) (hi : i < xs.length) (hj : j < c), (flat C xs)[i * c + j]? = some ((C xs[i])[j]'(by rw [hC]; exact hj))
  | x :: xs, 0, j, _, hj => by
    simp only [flat, List.map_cons, List.flatten_cons, Nat.zero_mul, Nat.zero_add, List.getElem_cons_zero]
    rw [List.getElem?_append_left (by rw [hC]; exact hj), List.getElem?_eq_getElem (by rw [hC]; exact hj)]
  | x :: xs, i + 1, j, hi, hj => by
    have := flat_get hC xs i j (by simpa using hi) hj
    simp only [flat, List.map_cons, List.flatten_cons, List.getElem_cons_succ] at this ⊢
    rw [List.getElem?_append_right (by rw [hC, Nat.add_mul]; omega), hC, show (i + 1) * c + j - c = i * c + j by rw [Nat.add_mul]; omega]
    exact this

/-- an element's cells, and what is said of its texts -/
def FR {α : Type} (C : α → List Value) (Z : α → Prop) (_ : Nat) (w : World) (b off : Nat) (x : α) : Prop :=
  (∀ j (h : j < (C x).length), w.cell? ⟨b, off + j, none⟩ = some (C x)[j]) ∧ Z x
theorem kept_flat {α : Type} {C : α → List Value} {Z : α → Prop} : Kept (FR C Z) := fun lo w w' b off x h h1 h2 hb => ⟨fun j hj => by rw [hb.cell h1 h2]; exact h.1 j hj, h.2⟩
theorem mono_flat {α : Type} {C : α → List Value} {Z : α → Prop} : Mono (FR C Z) := fun _ _ _ _ _ _ h _ => h

/-- a row of cells that may be written: n elements of c cells, 'f' says them; bs: its block -/
def RowC (w : World) (v : Value) (n c : Nat) (f : Nat → Value) (bs : List Nat) : Prop :=
  n ≤ 9223372036854775807 ∧ ((∃ a cap, v = .slice a 0 cap ∧ n = 0 ∧ bs = []) ∨
    ∃ b off cap, v = .slice (some ⟨b, off, none⟩) n cap ∧ b < w.heap.size ∧ bs = [b] ∧ ∀ i, i < n * c → w.cell? ⟨b, off + i, none⟩ = some (f i) ∧ w.frozen? ⟨b, off + i, none⟩ = false)
theorem RowC.kept {w w' : World} {v : Value} {n c : Nat} {f : Nat → Value} {bs : List Nat} (h : RowC w v n c f bs) (hs : w.heap.size ≤ w'.heap.size) (hb : ∀ d ∈ bs, w'.heap[d]? = w.heap[d]?) : RowC w' v n c f bs := by
  obtain ⟨h0, h⟩ := h
  refine ⟨h0, ?_⟩
  rcases h with h | ⟨b, off, cap, rfl, hlt, rfl, h⟩
  · exact .inl h
  · exact .inr ⟨b, off, cap, rfl, Nat.lt_of_lt_of_le hlt hs, rfl, fun i hi => ⟨by rw [cellSame (hb b (by simp))]; exact (h i hi).1, by rw [frozenSame (hb b (by simp))]; exact (h i hi).2⟩⟩
theorem RowC.lt {w : World} {v : Value} {n c : Nat} {f : Nat → Value} {bs : List Nat} (h : RowC w v n c f bs) : ∀ d ∈ bs, d < w.heap.size := by
  obtain ⟨_, h⟩ := h
  rcases h with ⟨_, _, _, _, rfl⟩ | ⟨b, off, cap, rfl, hlt, rfl, h⟩
  · intro d hd; simp at hd
  · intro d hd; simp at hd; subst hd; exact hlt
theorem RowC.below {w w' : World} {v : Value} {n c : Nat} {f : Nat → Value} {bs : List Nat} (h : RowC w v n c f bs) (hb : Below w.heap.size w w') : RowC w' v n c f bs :=
  h.kept hb.size fun d hd => hb.block d (h.lt d hd)
theorem RowC.congr {w : World} {v : Value} {n c : Nat} {f g : Nat → Value} {bs : List Nat} (h : RowC w v n c f bs) (hg : ∀ i, i < n * c → f i = g i) : RowC w v n c g bs := by
  obtain ⟨h0, h⟩ := h
  refine ⟨h0, ?_⟩
  rcases h with h | ⟨b, off, cap, rfl, hlt, rfl, h⟩
  · exact .inl h
  · exact .inr ⟨b, off, cap, rfl, hlt, rfl, fun i hi => ⟨by rw [← hg i hi]; exact (h i hi).1, (h i hi).2⟩⟩
theorem RowC.form {w : World} {v : Value} {n c : Nat} {f : Nat → Value} {bs : List Nat} (h : RowC w v n c f bs) : ∃ a cap, v = .slice a n cap := by
  obtain ⟨_, h⟩ := h
  rcases h with ⟨a, cap, rfl, rfl, _⟩ | ⟨b, off, cap, rfl, hlt, rfl, h⟩
  · exact ⟨a, cap, rfl⟩
  · exact ⟨_, _, rfl⟩

/-- a list that may be written, in a block of its own -/
def FO {α : Type} (C : α → List Value) (c : Nat) (w : World) (v : Value) (xs : List α) (bs : List Nat) : Prop := RowC w v xs.length c (fun i => (flat C xs).getD i (.int .i64 0)) bs
theorem FO.at {α : Type} {C : α → List Value} {c : Nat} {Z : α → Prop} (hC : ∀ x, (C x).length = c) {w : World} {v : Value} {xs : List α} {bs : List Nat} (h : FO C c w v xs bs) (hZ : ∀ i (h : i < xs.length), Z xs[i]) {lo : Nat} (hlo : ∀ b ∈ bs, lo ≤ b) :
    At c (FR C Z) lo w v xs := by
  obtain ⟨h0, h⟩ := h
  refine ⟨h0, ?_⟩
  rcases h with ⟨a, cap, rfl, hn, _⟩ | ⟨b, off, cap, rfl, hlt, rfl, h⟩
  · exact .inl ⟨a, cap, rfl, List.length_eq_zero_iff.1 hn⟩
  · refine .inr ⟨b, off, cap, rfl, ⟨hlo b (by simp), hlt⟩, fun i hi => ⟨fun j hj => ?_, hZ i hi⟩⟩
    rw [hC] at hj
    have hij : i * c + j < xs.length * c := by
      have : (i + 1) * c ≤ xs.length * c := Nat.mul_le_mul_right c hi
      rw [Nat.add_mul] at this
      omega
    have := (h (i * c + j) hij).1
    simp only [List.getD_eq_getElem?_getD] at this
    rw [flat_get hC xs i j hi hj] at this
    rw [show off + i * c + j = off + (i * c + j) from Nat.add_assoc _ _ _]
    exact this
/-- a list that was built by appending -/
theorem FO.of_own {α : Type} {C : α → List Value} {c : Nat} (hC : ∀ x, (C x).length = c) {base : Nat} {e : TypeId} {w : World} {v : Value} {xs : List α} (h : w.ownsRow base e c v xs.length (flat C xs)) (hl : xs.length ≤ 9223372036854775807) :
    ∃ bs, FO C c w v xs bs ∧ (∀ b ∈ bs, base ≤ b ∧ v.ownBlock = some b) ∧ bs.Nodup := by
  obtain ⟨hlen, ⟨rfl, h0⟩ | ⟨g, cap, cur, rfl, hg, hs, hcap, hm, hsz, htk⟩⟩ := h
  · exact ⟨[], ⟨hl, .inl ⟨_, _, rfl, h0, rfl⟩⟩, by simp, by simp⟩
  · have hglt : g < w.heap.size := by rw [Array.getElem?_eq_some_iff] at hs; exact hs.1
    refine ⟨[g], ⟨hl, .inr ⟨g, 0, cap, rfl, hglt, rfl, fun i hi => ⟨?_, ?_⟩⟩⟩, by simp [Value.ownBlock, hg], by simp⟩
    · have hu : (flat C xs)[i]? = some ((flat C xs).getD i (.int .i64 0)) := by rw [List.getD_eq_getElem?_getD, List.getElem?_eq_getElem (by omega)]; rfl
      rw [← htk, List.getElem?_take, if_pos hi, htk] at hu
      simp only [World.cell?, hs, Nat.zero_add]
      rw [← Array.getElem?_toList]
      exact hu
    · simp [World.frozen?, hs]

/-! wants, connections, what was sent -/
structure Wn where
  client : Int
  tag : ByteArray
  query : ByteArray
  pointer : ByteArray
structure Cn where
  busy : Bool
  control : ByteArray
  want : Wn
  due : Int
structure St where
  conn : Int
  control : ByteArray
  want : Wn
def wnC (x : Wn) : List Value := [.int .i64 x.client, .string x.tag, .string x.query, .string x.pointer]
def cnC (x : Cn) : List Value := [.bool x.busy, .string x.control, .int .i64 x.want.client, .string x.want.tag, .string x.want.query, .string x.want.pointer, .int .i64 x.due]
def stC (x : St) : List Value := [.int .i64 x.conn, .string x.control, .int .i64 x.want.client, .string x.want.tag, .string x.want.query, .string x.want.pointer]
def wnV (x : Wn) : Value := .agg #[.int .i64 x.client, .string x.tag, .string x.query, .string x.pointer]
def cnV (x : Cn) : Value := .agg #[.bool x.busy, .string x.control, .int .i64 x.want.client, .string x.want.tag, .string x.want.query, .string x.want.pointer, .int .i64 x.due]
def stV (x : St) : Value := .agg #[.int .i64 x.conn, .string x.control, .int .i64 x.want.client, .string x.want.tag, .string x.want.query, .string x.want.pointer]
theorem wnC_len (x : Wn) : (wnC x).length = 4 := rfl
theorem cnC_len (x : Cn) : (cnC x).length = 7 := rfl
theorem stC_len (x : St) : (stC x).length = 6 := rfl
def wn0 : Wn := ⟨0, ⟨#[]⟩, ⟨#[]⟩, ⟨#[]⟩⟩
def cn0 : Cn := ⟨false, ⟨#[]⟩, wn0, 0⟩
def wnZ (x : Wn) : Prop := x.tag.size ≤ 9223372036854775807 ∧ x.query.size ≤ 9223372036854775807 ∧ x.pointer.size ≤ 9223372036854775807
def cnZ (x : Cn) : Prop := x.control.size ≤ 9223372036854775807 ∧ wnZ x.want
def stZ (x : St) : Prop := x.control.size ≤ 9223372036854775807 ∧ wnZ x.want
theorem wn0Z : wnZ wn0 := ⟨by decide, by decide, by decide⟩
theorem cn0Z : cnZ cn0 := ⟨by decide, wn0Z⟩
def WnsAt : Nat → World → Value → List Wn → Prop := At 4 (FR wnC wnZ)
def CnsAt : Nat → World → Value → List Cn → Prop := At 7 (FR cnC cnZ)
def StsAt : Nat → World → Value → List St → Prop := At 6 (FR stC stZ)
/-- a pool, its two lists as they lie -/
structure Pl where
  epoch : Int
  next : Int
  conns : List Cn
  queue : List Wn
def plV (x : Pl) (cv qv : Value) : Value := .agg #[.int .i64 x.epoch, .int .i64 x.next, cv, qv]
end Go.Proofs.YtfdefjdogmhinaaDoor.Msg
