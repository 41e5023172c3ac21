import Derived.Test.YtcphfhfockjljaaDoorParseCutwithMsgTo2withMarkText
import Derived.Test.YtcphfhfockjljaaDoorMsgEqwithMsgEq2withMsgTo
namespace Go.Proofs.YtcphfhfockjljaaDoor.Msg
open Go.ChangeShapes Go.WideShapes Go.ChangeAt Go.RowKit
set_option linter.unusedVariables false
set_option linter.unusedSimpArgs false

/-- a list in memory, each list in blocks of its own: 'bs' are all its blocks -/
def OAt {α : Type} (n : Nat) (R : World → Nat → Nat → α → List Nat → Prop) (w : World) (v : Value) (xs : List α) (bs : List Nat) : Prop :=
  xs.length ≤ 9223372036854775807 ∧ ((∃ a cap, v = .slice a 0 cap ∧ xs = [] ∧ bs = []) ∨
    ∃ (b off cap : Nat) (bss : List (List Nat)), v = .slice (some ⟨b, off, none⟩) xs.length cap ∧ b < w.heap.size ∧ bs = b :: bss.flatten ∧ bss.length = xs.length ∧
      ∀ i (h : i < xs.length) (h2 : i < bss.length), R w b (off + i * n) xs[i] bss[i])

def StrO (w : World) (b off : Nat) (x : ByteArray) (bs : List Nat) : Prop := w.cell? ⟨b, off, none⟩ = some (.string x) ∧ w.frozen? ⟨b, off, none⟩ = false ∧ x.size ≤ 9223372036854775807 ∧ bs = []
def OStrs : World → Value → List ByteArray → List Nat → Prop := OAt 1 StrO
def RepO (w : World) (b off : Nat) (x : Rep) (bs : List Nat) : Prop := ∃ v, w.cell? ⟨b, off, none⟩ = some v ∧ OStrs w v x bs
def OReps : World → Value → List Rep → List Nat → Prop := OAt 1 RepO
def FieldO (w : World) (b off : Nat) (x : Field) (bs : List Nat) : Prop := ∃ v, w.cell? ⟨b, off, none⟩ = some v ∧ OReps w v x bs
def OFields : World → Value → List Field → List Nat → Prop := OAt 1 FieldO
def SegO (w : World) (b off : Nat) (x : Seg) (bs : List Nat) : Prop :=
  w.cell? ⟨b, off, none⟩ = some (.string x.name) ∧ w.frozen? ⟨b, off, none⟩ = false ∧ x.name.size ≤ 9223372036854775807 ∧ ∃ v, w.cell? ⟨b, off + 1, none⟩ = some v ∧ OFields w v x.fields bs
def OSegs : World → Value → List Seg → List Nat → Prop := OAt 2 SegO

/-- nothing but the blocks of a list has turned -/
structure Only (bs : List Nat) (w w' : World) : Prop where
  os : w'.os = w.os
  tape : w'.tape = w.tape
  output : w'.output = w.output
  size : w.heap.size ≤ w'.heap.size
  block : ∀ b, b < w.heap.size → b ∉ bs → w'.heap[b]? = w.heap[b]?
theorem Only.refl (bs : List Nat) (w : World) : Only bs w w := ⟨rfl, rfl, rfl, Nat.le_refl _, fun _ _ _ => rfl⟩
theorem Only.trans {bs : List Nat} {a b c : World} (h : Only bs a b) (k : Only bs b c) : Only bs a c :=
  ⟨k.os.trans h.os, k.tape.trans h.tape, k.output.trans h.output, Nat.le_trans h.size k.size, fun x h1 h2 => (k.block x (Nat.lt_of_lt_of_le h1 h.size) h2).trans (h.block x h1 h2)⟩
theorem Only.mono {bs cs : List Nat} {w w' : World} (h : Only bs w w') (hs : ∀ b ∈ bs, b ∈ cs) : Only cs w w' := ⟨h.os, h.tape, h.output, h.size, fun b h1 h2 => h.block b h1 fun hb => h2 (hs b hb)⟩
theorem Only.of_below {bs : List Nat} {w w' : World} (h : Below w.heap.size w w') : Only bs w w' := ⟨h.os, h.tape, h.output, h.size, fun b h1 _ => h.block b h1⟩
theorem Only.below {bs : List Nat} {w w' : World} {B : Nat} (h : Only bs w w') (hB : B ≤ w.heap.size) (hb : ∀ b ∈ bs, B ≤ b) : Below B w w' :=
  ⟨h.os, h.tape, h.output, h.size, fun k hk => h.block k (by omega) fun hm => by have := hb k hm; omega⟩

def KeptO {α : Type} (R : World → Nat → Nat → α → List Nat → Prop) : Prop := ∀ w w' b off x bs, R w b off x bs → w'.heap[b]? = w.heap[b]? → w.heap.size ≤ w'.heap.size → (∀ c ∈ bs, w'.heap[c]? = w.heap[c]?) → R w' b off x bs
def LtO {α : Type} (R : World → Nat → Nat → α → List Nat → Prop) : Prop := ∀ w b off x bs, R w b off x bs → ∀ c ∈ bs, c < w.heap.size

theorem OAt.kept {α : Type} {n : Nat} {R : World → Nat → Nat → α → List Nat → Prop} (K : KeptO R) {w w' : World} {v : Value} {xs : List α} {bs : List Nat} (h : OAt n R w v xs bs) (hs : w.heap.size ≤ w'.heap.size) (hb : ∀ c ∈ bs, w'.heap[c]? = w.heap[c]?) : OAt n R w' v xs bs := by
  obtain ⟨hl, h⟩ := h
  refine ⟨hl, ?_⟩
  rcases h with h | ⟨b, off, cap, bss, rfl, hlt, rfl, hlen, h⟩
  · exact .inl h
  · exact .inr ⟨b, off, cap, bss, rfl, Nat.lt_of_lt_of_le hlt hs, rfl, hlen, fun i hi h2 => K _ _ _ _ _ _ (h i hi h2) (hb b (by simp)) hs fun c hc => hb c (by
      simp only [List.mem_cons, List.mem_flatten]
      exact .inr ⟨bss[i], List.getElem_mem h2, hc⟩)⟩
theorem OAt.lt {α : Type} {n : Nat} {R : World → Nat → Nat → α → List Nat → Prop} (L : LtO R) {w : World} {v : Value} {xs : List α} {bs : List Nat} (h : OAt n R w v xs bs) : ∀ c ∈ bs, c < w.heap.size := by
  obtain ⟨_, h⟩ := h
  rcases h with ⟨_, _, _, _, rfl⟩ | ⟨b, off, cap, bss, rfl, hlt, rfl, hlen, h⟩
  · intro c hc; simp at hc
  · intro c hc
    simp only [List.mem_cons, List.mem_flatten] at hc
    rcases hc with rfl | ⟨l, hl, hc⟩
    · exact hlt
    · obtain ⟨i, hi, rfl⟩ := List.getElem_of_mem hl
      exact L _ _ _ _ _ (h i (by omega) hi) c hc

theorem cellSame {w w' : World} {b o : Nat} (h : w'.heap[b]? = w.heap[b]?) : w'.cell? ⟨b, o, none⟩ = w.cell? ⟨b, o, none⟩ := World.cell?_of_block h
theorem frozenSame {w w' : World} {b o : Nat} (h : w'.heap[b]? = w.heap[b]?) : w'.frozen? ⟨b, o, none⟩ = w.frozen? ⟨b, o, none⟩ := World.frozen?_of_block h
theorem keptO_str : KeptO StrO := fun w w' b off x bs h hb hs _ => ⟨by rw [cellSame hb]; exact h.1, by rw [frozenSame hb]; exact h.2.1, h.2.2⟩
theorem ltO_str : LtO StrO := fun w b off x bs h c hc => by rw [h.2.2.2] at hc; simp at hc
theorem keptO_rep : KeptO RepO := fun w w' b off x bs h hb hs hc => let ⟨v, h1, h2⟩ := h; ⟨v, by rw [cellSame hb]; exact h1, OAt.kept keptO_str h2 hs hc⟩
theorem ltO_rep : LtO RepO := fun w b off x bs h => let ⟨v, h1, h2⟩ := h; OAt.lt ltO_str h2
theorem keptO_field : KeptO FieldO := fun w w' b off x bs h hb hs hc => let ⟨v, h1, h2⟩ := h; ⟨v, by rw [cellSame hb]; exact h1, OAt.kept keptO_rep h2 hs hc⟩
theorem ltO_field : LtO FieldO := fun w b off x bs h => let ⟨v, h1, h2⟩ := h; OAt.lt ltO_rep h2
theorem keptO_seg : KeptO SegO := fun w w' b off x bs h hb hs hc => let ⟨h0, hf, hz, v, h1, h2⟩ := h; ⟨by rw [cellSame hb]; exact h0, by rw [frozenSame hb]; exact hf, hz, v, by rw [cellSame hb]; exact h1, OAt.kept keptO_field h2 hs hc⟩
theorem ltO_seg : LtO SegO := fun w b off x bs h => let ⟨h0, hf, hz, v, h1, h2⟩ := h; OAt.lt ltO_field h2

/-! an owned list is a list -/
def ToAt {α : Type} (R : World → Nat → Nat → α → List Nat → Prop) (S : Nat → World → Nat → Nat → α → Prop) : Prop := ∀ lo w b off x bs, R w b off x bs → (∀ c ∈ bs, lo ≤ c) → S lo w b off x
theorem OAt.toAt {α : Type} {n : Nat} {R : World → Nat → Nat → α → List Nat → Prop} {S : Nat → World → Nat → Nat → α → Prop} (T : ToAt R S) {w : World} {v : Value} {xs : List α} {bs : List Nat} (h : OAt n R w v xs bs) {lo : Nat} (hlo : ∀ c ∈ bs, lo ≤ c) : At n S lo w v xs := by
  obtain ⟨hl, h⟩ := h
  refine ⟨hl, ?_⟩
  rcases h with ⟨a, cap, rfl, rfl, rfl⟩ | ⟨b, off, cap, bss, rfl, hlt, rfl, hlen, h⟩
  · exact .inl ⟨a, cap, rfl, rfl⟩
  · exact .inr ⟨b, off, cap, rfl, ⟨hlo b (by simp), hlt⟩, fun i hi => T _ _ _ _ _ _ (h i hi (by omega)) fun c hc => hlo c (by
      simp only [List.mem_cons, List.mem_flatten]
      exact .inr ⟨bss[i], List.getElem_mem (by omega), hc⟩)⟩
theorem toAt_str : ToAt StrO StrR := fun lo w b off x bs h _ => ⟨h.1, h.2.2.1⟩
theorem toAt_rep : ToAt RepO RepR := fun lo w b off x bs h hlo => let ⟨v, h1, h2⟩ := h; ⟨v, h1, OAt.toAt toAt_str h2 hlo⟩
theorem toAt_field : ToAt FieldO FieldR := fun lo w b off x bs h hlo => let ⟨v, h1, h2⟩ := h; ⟨v, h1, OAt.toAt toAt_rep h2 hlo⟩
theorem toAt_seg : ToAt SegO SegR := fun lo w b off x bs h hlo => let ⟨h0, hf, hz, v, h1, h2⟩ := h; ⟨h0, hz, v, h1, OAt.toAt toAt_field h2 hlo⟩

/-! marks -/
def mkL {α : Type} (mk : Nat → α → α) (c : α → Nat) (d : α) (k : Nat) (xs : List α) : List α := (List.range xs.length).map fun j => mk (k + sumOf c (xs.take j)) (xs.getD j d)
theorem mkL_len {α : Type} (mk : Nat → α → α) (c : α → Nat) (d : α) (k : Nat) (xs : List α) : (mkL mk c d k xs).length = xs.length := by simp [mkL]
theorem mkL_get {α : Type} (mk : Nat → α → α) (c : α → Nat) (d : α) (k : Nat) (xs : List α) (j : Nat) (h : j < xs.length) (h2 : j < (mkL mk c d k xs).length) : (mkL mk c d k xs)[j] = mk (k + sumOf c (xs.take j)) xs[j] := by
  simp [mkL, List.getD_eq_getElem?_getD, h]
def oneC (_ : ByteArray) : Nat := 1
def mkStr (k : Nat) (_ : ByteArray) : ByteArray := markT k
def mkRep : Nat → Rep → Rep := mkL mkStr oneC ⟨#[]⟩
def cRep (r : Rep) : Nat := sumOf oneC r
def mkField : Nat → Field → Field := mkL mkRep cRep []
def cField (f : Field) : Nat := sumOf cRep f
def mkFields : Nat → List Field → List Field := mkL mkField cField []
def cFields (f : List Field) : Nat := sumOf cField f
def mkSeg (k : Nat) (s : Seg) : Seg := ⟨markT k, mkFields (k + 1) s.fields⟩
def cSeg (s : Seg) : Nat := 1 + cFields s.fields
def mkMsg : Nat → List Seg → List Seg := mkL mkSeg cSeg ⟨⟨#[]⟩, []⟩
def cMsg (m : List Seg) : Nat := sumOf cSeg m
theorem cRep_len (r : Rep) : cRep r = r.length := by
  unfold cRep sumOf
  induction r with
  | nil => rfl
  | cons x r ih => simp only [List.map_cons, List.sum_cons, List.length_cons, ih, oneC]; omega
theorem one_take (r : Rep) (j : Nat) (h : j ≤ r.length) : sumOf oneC (r.take j) = j := by
  have := cRep_len (r.take j)
  unfold cRep at this
  rw [this, List.length_take]
  omega
theorem markT_size (k : Nat) (h : k < 18446744073709551616) : (markT k).size ≤ 21 := by
  have := digs_len k k (Nat.le_refl _) h
  simp only [markT, ByteArray.size_append]
  have h2 : (⟨(digs k).toArray⟩ : ByteArray).size = (digs k).length := by simp [ByteArray.size]
  have h3 : (⟨#[109]⟩ : ByteArray).size = 1 := rfl
  omega
end Go.Proofs.YtcphfhfockjljaaDoor.Msg

namespace Go.Proofs.YtcphfhfockjljaaDoor.Msg
open Go.ChangeShapes Go.WideShapes Go.ChangeAt Go.RowKit
set_option linter.unusedVariables false
set_option linter.unusedSimpArgs false

/-- how long a list is when what is empty at its end is left out -/
def keepN {α : Type} (p : α → Bool) : List α → Nat
  | [] => 0
  | x :: xs => match keepN p xs with
    | 0 => if p x then 0 else 1
    | n + 1 => n + 2
def trimE {α : Type} (p : α → Bool) (xs : List α) : List α := xs.take (keepN p xs)
theorem keepN_le {α : Type} (p : α → Bool) : ∀ xs : List α, keepN p xs ≤ xs.length
  | [] => Nat.le_refl _
  | x :: xs => by
    have := keepN_le p xs
    simp only [keepN, List.length_cons]
    split
    · split <;> omega
    · omega
theorem keepN_is {α : Type} (p : α → Bool) : ∀ (xs : List α) (n : Nat), n ≤ xs.length → (∀ j (h : j < xs.length), n ≤ j → p xs[j] = true) → (∀ h : n - 1 < xs.length, 0 < n → p xs[n - 1] = false) → keepN p xs = n
  | [], n, h1, _, _ => by simp at h1; simp [keepN, h1]
  | x :: xs, n, h1, h2, h3 => by
    simp only [keepN]
    cases n with
    | zero =>
      have e : keepN p xs = 0 := keepN_is p xs 0 (Nat.zero_le _) (fun j hj _ => h2 (j + 1) (by simp; omega) (Nat.zero_le _)) (fun _ h => absurd h (by omega))
      rw [e]
      have := h2 0 (by simp) (Nat.le_refl _)
      simp at this
      simp [this]
    | succ m =>
      have e : keepN p xs = m := keepN_is p xs m (by simp at h1; omega) (fun j hj hm => h2 (j + 1) (by simp; omega) (by omega)) (fun hj hp => by
        have := h3 (by simp at h1 ⊢; omega) (by omega)
        obtain ⟨q, rfl⟩ : ∃ q, m = q + 1 := ⟨m - 1, by omega⟩
        simpa using this)
      rw [e]
      cases m with
      | zero =>
        have := h3 (by simp) (by omega)
        simp at this
        simp [this]
      | succ q => rfl

def compsL (c1 : UInt8) (l : List UInt8) : List (List UInt8) := trimE List.isEmpty (cutL c1 l)

theorem cutGo_len (c : UInt8) : ∀ (l cur : List UInt8), (cutGo c cur l).length ≤ l.length + 1
  | [], cur => by simp [cutGo]
  | x :: xs, cur => by
    unfold cutGo
    split
    · have := cutGo_len c xs []
      simp only [List.length_cons]; omega
    · have := cutGo_len c xs (cur ++ [x])
      simp only [List.length_cons]; omega
theorem cutGo_sz (c : UInt8) : ∀ (l cur : List UInt8), ∀ p ∈ cutGo c cur l, p.length ≤ cur.length + l.length
  | [], cur => by intro p hp; simp [cutGo] at hp; subst hp; simp
  | x :: xs, cur => by
    intro p hp
    unfold cutGo at hp
    split at hp
    · rw [List.mem_cons] at hp
      rcases hp with rfl | hp
      · omega
      · have := cutGo_sz c xs [] p hp; simp only [List.length_cons, List.length_nil] at *; omega
    · have := cutGo_sz c xs (cur ++ [x]) p hp
      simp only [List.length_append, List.length_cons, List.length_nil] at *; omega
theorem cutL_len (c : UInt8) (l : List UInt8) : (cutL c l).length ≤ l.length + 1 := cutGo_len c l []
theorem cutL_sz (c : UInt8) (l : List UInt8) : ∀ p ∈ cutL c l, p.length ≤ l.length := fun p hp => by have := cutGo_sz c l [] p hp; simpa using this

theorem bjoin' {w W c : World} (h2 : Below W.heap.size W c) (h1 : Below w.heap.size w W) : Below w.heap.size w c := h1.trans (h2.mono h1.size)
theorem cutGo_pos (c : UInt8) : ∀ (l cur : List UInt8), 0 < (cutGo c cur l).length
  | [], cur => by simp [cutGo]
  | x :: xs, cur => by
    unfold cutGo
    split
    · simp
    · exact cutGo_pos c xs _
theorem cutL_pos (c : UInt8) (l : List UInt8) : 0 < (cutL c l).length := cutGo_pos c l []

/-- a slice of pieces, written out -/
theorem pieces_form {base : Nat} {w : World} {v : Value} {ps : List (List UInt8)} (h : SBuf base w v (ps.map txt)) (hp : 0 < ps.length) :
    ∃ g cap, v = .slice (some ⟨g, 0, none⟩) ps.length cap ∧ base ≤ g ∧ g < w.heap.size ∧ ps.length ≤ cap ∧ cap ≤ 9223372036854775807 ∧ ∀ i (hi : i < ps.length), w.cell? ⟨g, i, none⟩ = some (.string (txt ps[i])) ∧ w.frozen? ⟨g, i, none⟩ = false := by
  have h' : w.ownsRow base 9 1 v ((ps.map txt).map Value.string).length ((ps.map txt).map Value.string) := by rw [List.length_map]; exact h
  have hlen : ((ps.map txt).map Value.string).length = ps.length := by simp
  rcases own_cells h' with ⟨h0, _⟩ | ⟨g, cap, rfl, hg, hlt, hc⟩
  · simp at h0; subst h0; simp at hp
  · have hcap : ps.length ≤ cap ∧ cap ≤ 9223372036854775807 := by
      obtain ⟨_, ⟨e, _⟩ | ⟨g', cap', cur, e, _, _, hcap, hm, _⟩⟩ := h
      · cases e
      · injection e with e1 e2 e3
        subst e3
        rw [List.length_map] at hcap
        unfold maxLen at hm
        exact ⟨hcap, by omega⟩
    refine ⟨g, cap, by rw [hlen], hg, hlt, hcap.1, hcap.2, fun i hi => ?_⟩
    have := hc i (by rw [hlen]; exact hi)
    rw [List.getElem_map, List.getElem_map] at this
    exact this
/-- its first n -/
theorem pieces_take {base g cap n : Nat} {w : World} {ps : List (List UInt8)} (hg : base ≤ g) (hlt : g < w.heap.size) (hc : ∀ i (hi : i < ps.length), w.cell? ⟨g, i, none⟩ = some (.string (txt ps[i])) ∧ w.frozen? ⟨g, i, none⟩ = false) (hl : ps.length ≤ 1048577) (hz : ∀ p ∈ ps, p.length ≤ 1048576) (hn : n ≤ ps.length) :
    ∃ bs, OStrs w (.slice (some ⟨g, 0, none⟩) n cap) ((ps.take n).map txt) bs ∧ bs.Nodup ∧ ∀ b ∈ bs, base ≤ b := by
  have hln : ((ps.take n).map txt).length = n := by rw [List.length_map, List.length_take]; omega
  refine ⟨[g], ⟨by rw [hln]; omega, .inr ⟨g, 0, cap, List.replicate n [], by rw [hln], hlt, by simp, by rw [hln]; simp, fun i hi h2 => ?_⟩⟩, by simp, by simp [hg]⟩
  have hi' : i < ps.length := by rw [hln] at hi; omega
  rw [List.getElem_map, List.getElem_take]
  exact ⟨by simpa using (hc i hi').1, by simpa using (hc i hi').2, by rw [txt_size]; have := hz ps[i] (List.getElem_mem hi'); omega, by simp⟩

end Go.Proofs.YtcphfhfockjljaaDoor.Msg

namespace Go.Proofs.YtcphfhfockjljaaDoor.Msg
open Go.ChangeShapes Go.WideShapes Go.ChangeAt Go.RowKit
set_option linter.unusedVariables false
set_option linter.unusedSimpArgs false

/-- the row of strings, the first j of them marked -/
def RowM (w : World) (b off k : Nat) (xs : List ByteArray) (j : Nat) : Prop :=
  ∀ i (h : i < xs.length), w.cell? ⟨b, off + i, none⟩ = some (.string (if i < j then markT (k + i) else xs[i])) ∧ w.frozen? ⟨b, off + i, none⟩ = false
theorem RowM.step {w w2 : World} {b off k : Nat} {xs : List ByteArray} {j : Nat} (h : RowM w b off k xs j) (hb : w2.heap[b]? = w.heap[b]?) (hj : j < xs.length) : RowM (w2.setCell ⟨b, off + j, none⟩ (.string (markT (k + j)))) b off k xs (j + 1) := by
  intro i hi
  obtain ⟨h1, h2⟩ := h i hi
  refine ⟨?_, ?_⟩
  · by_cases e : i = j
    · subst e
      rw [if_pos (by omega)]
      obtain ⟨v, hv⟩ : ∃ v, w2.cell? ⟨b, off + i, none⟩ = some v := ⟨_, by rw [cellSame hb]; exact h1⟩
      rw [World.cell?_setCell_same _ _ _ hv]
    · rw [World.cell?_setCell_other _ _ _ _ (by intro h; injection h with _ h2 _; omega), cellSame hb, h1]
      by_cases e2 : i < j
      · rw [if_pos e2, if_pos (by omega)]
      · rw [if_neg e2, if_neg (by omega)]
  · rw [World.frozen?_setCell, frozenSame hb]
    exact h2

theorem Only.setCell {bs : List Nat} {w w1 : World} (h : Only bs w w1) {b o : Nat} (hb : b ∈ bs) (v : Value) : Only bs w (w1.setCell ⟨b, o, none⟩ v) :=
  ⟨h.os, h.tape, h.output, by rw [Deep.nblk_setCell]; exact h.size, fun k h1 h2 => by rw [Deep.blk_setCell_other _ _ _ _ (fun e => h2 (by rw [e]; exact hb))]; exact h.block k h1 h2⟩

theorem flat_nil {bss : List (List Nat)} (h : ∀ i (h : i < bss.length), bss[i] = []) : bss.flatten = [] := by
  rw [List.flatten_eq_nil_iff]
  intro l hl
  obtain ⟨i, hi, rfl⟩ := List.getElem_of_mem hl
  exact h i hi

end Go.Proofs.YtcphfhfockjljaaDoor.Msg
