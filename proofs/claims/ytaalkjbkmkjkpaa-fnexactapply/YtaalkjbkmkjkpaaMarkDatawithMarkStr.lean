import Derived.Test.YtaalkjbkmkjkpaaTblSzwithMarkText
import Derived.Test.YtaalkjbkmkjkpaaMsgEq2withMsgTo
namespace Go.Proofs.Ytaalkjbkmkjkpaa.Msg
open Go.ChangeShapes Go.WideShapes Go.ChangeAt Go.RowKit
set_option linter.unusedVariables false
set_option linter.unusedSimpArgs false

/-- a list in memory, each list in blocks of its own: 'bs' are all its blocks -/
def OAt {α : Type} (n : Nat) (R : World → Nat → Nat → α → List Nat → Prop) (w : World) (v : Value) (xs : List α) (bs : List Nat) : Prop :=
  xs.length ≤ 9223372036854775807 ∧ ((∃ a cap, v = .slice a 0 cap ∧ xs = [] ∧ bs = []) ∨
    ∃ (b off cap : Nat) (bss : List (List Nat)), v = .slice (some ⟨b, off, none⟩) xs.length cap ∧ b < w.heap.size ∧ bs = b :: bss.flatten ∧ bss.length = xs.length ∧
      ∀ i (h : i < xs.length) (h2 : i < bss.length), R w b (off + i * n) xs[i] bss[i])

def StrO (w : World) (b off : Nat) (x : ByteArray) (bs : List Nat) : Prop := w.cell? ⟨b, off, none⟩ = some (.string x) ∧ w.frozen? ⟨b, off, none⟩ = false ∧ x.size ≤ 9223372036854775807 ∧ bs = []
def OStrs : World → Value → List ByteArray → List Nat → Prop := OAt 1 StrO
def RepO (w : World) (b off : Nat) (x : Rep) (bs : List Nat) : Prop := ∃ v, w.cell? ⟨b, off, none⟩ = some v ∧ OStrs w v x bs
def OReps : World → Value → List Rep → List Nat → Prop := OAt 1 RepO
def FieldO (w : World) (b off : Nat) (x : Field) (bs : List Nat) : Prop := ∃ v, w.cell? ⟨b, off, none⟩ = some v ∧ OReps w v x bs
def OFields : World → Value → List Field → List Nat → Prop := OAt 1 FieldO
def SegO (w : World) (b off : Nat) (x : Seg) (bs : List Nat) : Prop :=
  w.cell? ⟨b, off, none⟩ = some (.string x.name) ∧ w.frozen? ⟨b, off, none⟩ = false ∧ x.name.size ≤ 9223372036854775807 ∧ ∃ v, w.cell? ⟨b, off + 1, none⟩ = some v ∧ OFields w v x.fields bs
def OSegs : World → Value → List Seg → List Nat → Prop := OAt 2 SegO

/-- nothing but the blocks of a list has turned -/
structure Only (bs : List Nat) (w w' : World) : Prop where
  os : w'.os = w.os
  tape : w'.tape = w.tape
  output : w'.output = w.output
  size : w.heap.size ≤ w'.heap.size
  block : ∀ b, b < w.heap.size → b ∉ bs → w'.heap[b]? = w.heap[b]?
theorem Only.refl (bs : List Nat) (w : World) : Only bs w w := ⟨rfl, rfl, rfl, Nat.le_refl _, fun _ _ _ => rfl⟩
theorem Only.trans {bs : List Nat} {a b c : World} (h : Only bs a b) (k : Only bs b c) : Only bs a c :=
  ⟨k.os.trans h.os, k.tape.trans h.tape, k.output.trans h.output, Nat.le_trans h.size k.size, fun x h1 h2 => (k.block x (Nat.lt_of_lt_of_le h1 h.size) h2).trans (h.block x h1 h2)⟩
theorem Only.mono {bs cs : List Nat} {w w' : World} (h : Only bs w w') (hs : ∀ b ∈ bs, b ∈ cs) : Only cs w w' := ⟨h.os, h.tape, h.output, h.size, fun b h1 h2 => h.block b h1 fun hb => h2 (hs b hb)⟩
theorem Only.of_below {bs : List Nat} {w w' : World} (h : Below w.heap.size w w') : Only bs w w' := ⟨h.os, h.tape, h.output, h.size, fun b h1 _ => h.block b h1⟩
theorem Only.below {bs : List Nat} {w w' : World} {B : Nat} (h : Only bs w w') (hB : B ≤ w.heap.size) (hb : ∀ b ∈ bs, B ≤ b) : Below B w w' :=
  ⟨h.os, h.tape, h.output, h.size, fun k hk => h.block k (by omega) fun hm => by have := hb k hm; omega⟩

def KeptO {α : Type} (R : World → Nat → Nat → α → List Nat → Prop) : Prop := ∀ w w' b off x bs, R w b off x bs → w'.heap[b]? = w.heap[b]? → w.heap.size ≤ w'.heap.size → (∀ c ∈ bs, w'.heap[c]? = w.heap[c]?) → R w' b off x bs
def LtO {α : Type} (R : World → Nat → Nat → α → List Nat → Prop) : Prop := ∀ w b off x bs, R w b off x bs → ∀ c ∈ bs, c < w.heap.size

theorem OAt.kept {α : Type} {n : Nat} {R : World → Nat → Nat → α → List Nat → Prop} (K : KeptO R) {w w' : World} {v : Value} {xs : List α} {bs : List Nat} (h : OAt n R w v xs bs) (hs : w.heap.size ≤ w'.heap.size) (hb : ∀ c ∈ bs, w'.heap[c]? = w.heap[c]?) : OAt n R w' v xs bs := by
  obtain ⟨hl, h⟩ := h
  refine ⟨hl, ?_⟩
  rcases h with h | ⟨b, off, cap, bss, rfl, hlt, rfl, hlen, h⟩
  · exact .inl h
  · exact .inr ⟨b, off, cap, bss, rfl, Nat.lt_of_lt_of_le hlt hs, rfl, hlen, fun i hi h2 => K _ _ _ _ _ _ (h i hi h2) (hb b (by simp)) hs fun c hc => hb c (by
      simp only [List.mem_cons, List.mem_flatten]
      exact .inr ⟨bss[i], List.getElem_mem h2, hc⟩)⟩
theorem OAt.lt {α : Type} {n : Nat} {R : World → Nat → Nat → α → List Nat → Prop} (L : LtO R) {w : World} {v : Value} {xs : List α} {bs : List Nat} (h : OAt n R w v xs bs) : ∀ c ∈ bs, c < w.heap.size := by
  obtain ⟨_, h⟩ := h
  rcases h with ⟨_, _, _, _, rfl⟩ | ⟨b, off, cap, bss, rfl, hlt, rfl, hlen, h⟩
  · intro c hc; simp at hc
  · intro c hc
    simp only [List.mem_cons, List.mem_flatten] at hc
    rcases hc with rfl | ⟨l, hl, hc⟩
    · exact hlt
    · obtain ⟨i, hi, rfl⟩ := List.getElem_of_mem hl
      exact L _ _ _ _ _ (h i (by omega) hi) c hc

theorem cellSame {w w' : World} {b o : Nat} (h : w'.heap[b]? = w.heap[b]?) : w'.cell? ⟨b, o, none⟩ = w.cell? ⟨b, o, none⟩ := World.cell?_of_block h
theorem frozenSame {w w' : World} {b o : Nat} (h : w'.heap[b]? = w.heap[b]?) : w'.frozen? ⟨b, o, none⟩ = w.frozen? ⟨b, o, none⟩ := World.frozen?_of_block h
theorem keptO_str : KeptO StrO := fun w w' b off x bs h hb hs _ => ⟨by rw [cellSame hb]; exact h.1, by rw [frozenSame hb]; exact h.2.1, h.2.2⟩
theorem ltO_str : LtO StrO := fun w b off x bs h c hc => by rw [h.2.2.2] at hc; simp at hc
theorem keptO_rep : KeptO RepO := fun w w' b off x bs h hb hs hc => let ⟨v, h1, h2⟩ := h; ⟨v, by rw [cellSame hb]; exact h1, OAt.kept keptO_str h2 hs hc⟩
theorem ltO_rep : LtO RepO := fun w b off x bs h => let ⟨v, h1, h2⟩ := h; OAt.lt ltO_str h2
theorem keptO_field : KeptO FieldO := fun w w' b off x bs h hb hs hc => let ⟨v, h1, h2⟩ := h; ⟨v, by rw [cellSame hb]; exact h1, OAt.kept keptO_rep h2 hs hc⟩
theorem ltO_field : LtO FieldO := fun w b off x bs h => let ⟨v, h1, h2⟩ := h; OAt.lt ltO_rep h2
theorem keptO_seg : KeptO SegO := fun w w' b off x bs h hb hs hc => let ⟨h0, hf, hz, v, h1, h2⟩ := h; ⟨by rw [cellSame hb]; exact h0, by rw [frozenSame hb]; exact hf, hz, v, by rw [cellSame hb]; exact h1, OAt.kept keptO_field h2 hs hc⟩
theorem ltO_seg : LtO SegO := fun w b off x bs h => let ⟨h0, hf, hz, v, h1, h2⟩ := h; OAt.lt ltO_field h2

/-! an owned list is a list -/
def ToAt {α : Type} (R : World → Nat → Nat → α → List Nat → Prop) (S : Nat → World → Nat → Nat → α → Prop) : Prop := ∀ lo w b off x bs, R w b off x bs → (∀ c ∈ bs, lo ≤ c) → S lo w b off x
theorem OAt.toAt {α : Type} {n : Nat} {R : World → Nat → Nat → α → List Nat → Prop} {S : Nat → World → Nat → Nat → α → Prop} (T : ToAt R S) {w : World} {v : Value} {xs : List α} {bs : List Nat} (h : OAt n R w v xs bs) {lo : Nat} (hlo : ∀ c ∈ bs, lo ≤ c) : At n S lo w v xs := by
  obtain ⟨hl, h⟩ := h
  refine ⟨hl, ?_⟩
  rcases h with ⟨a, cap, rfl, rfl, rfl⟩ | ⟨b, off, cap, bss, rfl, hlt, rfl, hlen, h⟩
  · exact .inl ⟨a, cap, rfl, rfl⟩
  · exact .inr ⟨b, off, cap, rfl, ⟨hlo b (by simp), hlt⟩, fun i hi => T _ _ _ _ _ _ (h i hi (by omega)) fun c hc => hlo c (by
      simp only [List.mem_cons, List.mem_flatten]
      exact .inr ⟨bss[i], List.getElem_mem (by omega), hc⟩)⟩
theorem toAt_str : ToAt StrO StrR := fun lo w b off x bs h _ => ⟨h.1, h.2.2.1⟩
theorem toAt_rep : ToAt RepO RepR := fun lo w b off x bs h hlo => let ⟨v, h1, h2⟩ := h; ⟨v, h1, OAt.toAt toAt_str h2 hlo⟩
theorem toAt_field : ToAt FieldO FieldR := fun lo w b off x bs h hlo => let ⟨v, h1, h2⟩ := h; ⟨v, h1, OAt.toAt toAt_rep h2 hlo⟩
theorem toAt_seg : ToAt SegO SegR := fun lo w b off x bs h hlo => let ⟨h0, hf, hz, v, h1, h2⟩ := h; ⟨h0, hz, v, h1, OAt.toAt toAt_field h2 hlo⟩

/-! marks -/
def mkL {α : Type} (mk : Nat → α → α) (c : α → Nat) (d : α) (k : Nat) (xs : List α) : List α := (List.range xs.length).map fun j => mk (k + sumOf c (xs.take j)) (xs.getD j d)
theorem mkL_len {α : Type} (mk : Nat → α → α) (c : α → Nat) (d : α) (k : Nat) (xs : List α) : (mkL mk c d k xs).length = xs.length := by simp [mkL]
theorem mkL_get {α : Type} (mk : Nat → α → α) (c : α → Nat) (d : α) (k : Nat) (xs : List α) (j : Nat) (h : j < xs.length) (h2 : j < (mkL mk c d k xs).length) : (mkL mk c d k xs)[j] = mk (k + sumOf c (xs.take j)) xs[j] := by
  simp [mkL, List.getD_eq_getElem?_getD, h]
def oneC (_ : ByteArray) : Nat := 1
def mkStr (k : Nat) (_ : ByteArray) : ByteArray := markT k
def mkRep : Nat → Rep → Rep := mkL mkStr oneC ⟨#[]⟩
def cRep (r : Rep) : Nat := sumOf oneC r
def mkField : Nat → Field → Field := mkL mkRep cRep []
def cField (f : Field) : Nat := sumOf cRep f
def mkFields : Nat → List Field → List Field := mkL mkField cField []
def cFields (f : List Field) : Nat := sumOf cField f
def mkSeg (k : Nat) (s : Seg) : Seg := ⟨markT k, mkFields (k + 1) s.fields⟩
def cSeg (s : Seg) : Nat := 1 + cFields s.fields
def mkMsg : Nat → List Seg → List Seg := mkL mkSeg cSeg ⟨⟨#[]⟩, []⟩
def cMsg (m : List Seg) : Nat := sumOf cSeg m
theorem cRep_len (r : Rep) : cRep r = r.length := by
  unfold cRep sumOf
  induction r with
  | nil => rfl
  | cons x r ih => simp only [List.map_cons, List.sum_cons, List.length_cons, ih, oneC]; omega
theorem one_take (r : Rep) (j : Nat) (h : j ≤ r.length) : sumOf oneC (r.take j) = j := by
  have := cRep_len (r.take j)
  unfold cRep at this
  rw [this, List.length_take]
  omega
theorem markT_size (k : Nat) (h : k < 18446744073709551616) : (markT k).size ≤ 21 := by
  have := digs_len k k (Nat.le_refl _) h
  simp only [markT, ByteArray.size_append]
  have h2 : (⟨(digs k).toArray⟩ : ByteArray).size = (digs k).length := by simp [ByteArray.size]
  have h3 : (⟨#[109]⟩ : ByteArray).size = 1 := rfl
  omega
end Go.Proofs.Ytaalkjbkmkjkpaa.Msg

namespace Go.Proofs.Ytaalkjbkmkjkpaa.Msg
open Go.ChangeShapes Go.WideShapes Go.ChangeAt Go.RowKit
set_option linter.unusedVariables false
set_option linter.unusedSimpArgs false

/-- the row of strings, the first j of them marked -/
def RowM (w : World) (b off k : Nat) (xs : List ByteArray) (j : Nat) : Prop :=
  ∀ i (h : i < xs.length), w.cell? ⟨b, off + i, none⟩ = some (.string (if i < j then markT (k + i) else xs[i])) ∧ w.frozen? ⟨b, off + i, none⟩ = false
theorem RowM.step {w w2 : World} {b off k : Nat} {xs : List ByteArray} {j : Nat} (h : RowM w b off k xs j) (hb : w2.heap[b]? = w.heap[b]?) (hj : j < xs.length) : RowM (w2.setCell ⟨b, off + j, none⟩ (.string (markT (k + j)))) b off k xs (j + 1) := by
  intro i hi
  obtain ⟨h1, h2⟩ := h i hi
  refine ⟨?_, ?_⟩
  · by_cases e : i = j
    · subst e
      rw [if_pos (by omega)]
      obtain ⟨v, hv⟩ : ∃ v, w2.cell? ⟨b, off + i, none⟩ = some v := ⟨_, by rw [cellSame hb]; exact h1⟩
      rw [World.cell?_setCell_same _ _ _ hv]
    · rw [World.cell?_setCell_other _ _ _ _ (by intro h; injection h with _ h2 _; omega), cellSame hb, h1]
      by_cases e2 : i < j
      · rw [if_pos e2, if_pos (by omega)]
      · rw [if_neg e2, if_neg (by omega)]
  · rw [World.frozen?_setCell, frozenSame hb]
    exact h2

theorem Only.setCell {bs : List Nat} {w w1 : World} (h : Only bs w w1) {b o : Nat} (hb : b ∈ bs) (v : Value) : Only bs w (w1.setCell ⟨b, o, none⟩ v) :=
  ⟨h.os, h.tape, h.output, by rw [Deep.nblk_setCell]; exact h.size, fun k h1 h2 => by rw [Deep.blk_setCell_other _ _ _ _ (fun e => h2 (by rw [e]; exact hb))]; exact h.block k h1 h2⟩

theorem flat_nil {bss : List (List Nat)} (h : ∀ i (h : i < bss.length), bss[i] = []) : bss.flatten = [] := by
  rw [List.flatten_eq_nil_iff]
  intro l hl
  obtain ⟨i, hi, rfl⟩ := List.getElem_of_mem hl
  exact h i hi

set_option maxHeartbeats 1000000 in
theorem markStrs_any (xs : List ByteArray) (v : Value) (bs : List Nat) (k : Nat) (w : World) (hk : 1 ≤ k) (hkb : k + cRep xs ≤ 4611686018427387904) (hv : OStrs w v xs bs) :
    Calls Try.prog 32 #[v, .int .i64 (k : Int)] w fun e w' => e = .returned (.int .i64 ((k + cRep xs : Nat) : Int)) ∧ Only bs w w' ∧ OStrs w' v (mkRep k xs) bs := by
  have HCL := hide (cRep_len xs)
  rw [HCL.out] at hkb ⊢
  obtain ⟨hl, hv⟩ := hv
  rcases hv with ⟨a0, c0, rfl, rfl, rfl⟩ | ⟨b, off, cap, bss, rfl, hlt, rfl, hlen, hc⟩
  · go_enter Try.func32, Try.ntmps32
    go_wp2
    go_loop [1, 5] (fun r i => r = .int .i64 (k : Int) ∧ i = .int .i64 0) (fun _ _ => 0)
    case atStart => exact ⟨rfl, rfl⟩
    case round =>
      obtain ⟨rfl, rfl⟩ := hrel
      go_wp2
      go_ret
      exact ⟨ret_int (by simp), Only.refl _ _, ⟨by simp [mkRep, mkL], .inl ⟨_, _, rfl, rfl, rfl⟩⟩⟩
  · have hfl : bss.flatten = [] := flat_nil fun i hi => (hc i (by omega) hi).2.2.2
    have hrow0 : RowM w b off k xs 0 := fun i hi => ⟨by rw [if_neg (by omega)]; simpa using (hc i hi (by omega)).1, by simpa using (hc i hi (by omega)).2.1⟩
    have HE : Hid (∀ i (h : i < bss.length), bss[i] = []) := fun i hi => (hc i (by omega) hi).2.2.2
    clear hc
    go_enter Try.func32, Try.ntmps32
    go_wp2
    go_loopw [1, 5] (fun r i w1 => ∃ j : Nat, j ≤ xs.length ∧ i = .int .i64 j ∧ r = .int .i64 ((k : Int) + (j : Int)) ∧ RowM w1 b off k xs j ∧ Only (b :: bss.flatten) w w1) (fun _ i _ => xs.length - (intOf i).toNat)
    case atStart => exact ⟨0, Nat.zero_le _, rfl, by simp, hrow0, Only.refl _ _⟩
    case round =>
      obtain ⟨j, hj, rfl, rfl, hrow, ho⟩ := hrel
      by_cases hj2 : j < xs.length
      · have hbl : b < wr.heap.size := Nat.lt_of_lt_of_le hlt ho.size
        obtain ⟨hcell, hfz⟩ := hrow j hj2
        have HR := hide hrow
        have HO := hide ho
        clear hrow ho
        have ecast : ((k : Int) + (j : Int)) = ((k + j : Nat) : Int) := by omega
        have HEC := hide ecast
        clear ecast
        go_wp2_with fail
        rw [HEC.out]
        refine (markText_any (k + j) _ (by omega) (by omega)).mono ?_
        rintro e w2 ⟨rfl, hb2⟩
        have hcell2 : w2.cell? ⟨b, off + j, none⟩ = some (.string (if j < j then markT (k + j) else xs[j])) := by rw [hb2.cell (p := ⟨b, off + j, none⟩) hbl]; exact hcell
        have hfz2 : w2.frozen? ⟨b, off + j, none⟩ = false := by rw [hb2.frozen (p := ⟨b, off + j, none⟩) hbl]; exact hfz
        have HN := hide (HR.out.step (hb2.block b hbl) hj2)
        have HN2 := hide ((HO.out.trans (Only.of_below hb2)).setCell (b := b) (o := off + j) (by simp) (.string (markT (k + j))))
        clear hcell hfz hb2
        rw [← HEC.out]
        go_wp2_with fail
        go_roundw
        case rel => exact ⟨j + 1, by omega, by go_num, by go_num, HN.out, HN2.out⟩
        case measure => simp [intOf]; omega
      · obtain rfl : j = xs.length := by omega
        go_wp2_with fail
        go_ret
        refine ⟨ret_int (by omega), ho, ⟨by unfold mkRep; rw [mkL_len]; exact hl, .inr ⟨b, off, cap, bss, by unfold mkRep; rw [mkL_len], Nat.lt_of_lt_of_le hlt ho.size, rfl, by unfold mkRep; rw [mkL_len]; exact hlen, fun i hi h2 => ?_⟩⟩⟩
        have hi' : i < xs.length := by unfold mkRep at hi; rw [mkL_len] at hi; exact hi
        obtain ⟨h1, h3⟩ := hrow i hi'
        rw [if_pos hi'] at h1
        have e1 : (mkRep k xs)[i] = markT (k + i) := (mkL_get mkStr oneC ⟨#[]⟩ k xs i hi' hi).trans (by rw [one_take xs i (by omega)]; rfl)
        rw [e1]
        exact ⟨by simpa using h1, by simpa using h3, by have := markT_size (k + i) (by omega); omega, HE.out i h2⟩
end Go.Proofs.Ytaalkjbkmkjkpaa.Msg
