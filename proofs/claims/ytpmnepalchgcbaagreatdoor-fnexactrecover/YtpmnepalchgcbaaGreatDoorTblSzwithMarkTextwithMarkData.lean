import Derived.Test.YtpmnepalchgcbaaGreatDoorMsgDatawithMsgSzwithMsgSz2
import Derived.Test.YtpmnepalchgcbaaGreatDoorMsgTo2withChgLawwithMsgSz3
import Derived.Test.YtpmnepalchgcbaaGreatDoorMsgEqwithMsgEq2withMsgTo
import Derived.Laws.BytesArg
namespace Go.Proofs.YtpmnepalchgcbaaGreatDoor.Msg
open Go.ChangeShapes Go.WideShapes Go.ChangeAt Go.RowKit
set_option linter.unusedVariables false
set_option linter.unusedSimpArgs false

/-! sessions and tables -/
structure Sess where
  client : Int
  tag : ByteArray
  query : ByteArray
  page : Int
  state : Int
  rows : List ByteArray
  cursor : Int
def sessV (x : Sess) (v : Value) : Value := .agg #[.int .i64 x.client, .string x.tag, .string x.query, .int .i64 x.page, .int .i64 x.state, v, .int .i64 x.cursor]
def SessR (lo : Nat) (w : World) (b off : Nat) (x : Sess) : Prop :=
  w.cell? ⟨b, off, none⟩ = some (.int .i64 x.client) ∧ w.cell? ⟨b, off + 1, none⟩ = some (.string x.tag) ∧ w.cell? ⟨b, off + 2, none⟩ = some (.string x.query) ∧ w.cell? ⟨b, off + 3, none⟩ = some (.int .i64 x.page) ∧ w.cell? ⟨b, off + 4, none⟩ = some (.int .i64 x.state) ∧ w.cell? ⟨b, off + 6, none⟩ = some (.int .i64 x.cursor) ∧
    x.tag.size ≤ 9223372036854775807 ∧ x.query.size ≤ 9223372036854775807 ∧ ∃ v, w.cell? ⟨b, off + 5, none⟩ = some v ∧ StrsAt lo w v x.rows
def SesssAt : Nat → World → Value → List Sess → Prop := At 7 SessR
theorem kept_sess : Kept SessR := fun lo w w' b off x h h1 h2 hb => by
  obtain ⟨g0, g1, g2, g3, g4, g6, z1, z2, v, g5, gs⟩ := h
  exact ⟨by rw [hb.cell h1 h2]; exact g0, by rw [hb.cell h1 h2]; exact g1, by rw [hb.cell h1 h2]; exact g2, by rw [hb.cell h1 h2]; exact g3, by rw [hb.cell h1 h2]; exact g4, by rw [hb.cell h1 h2]; exact g6, z1, z2, v, by rw [hb.cell h1 h2]; exact g5, At.same kept_str gs hb⟩
theorem mono_sess : Mono SessR := fun _ _ _ _ _ _ h hl => let ⟨g0, g1, g2, g3, g4, g6, z1, z2, v, g5, gs⟩ := h; ⟨g0, g1, g2, g3, g4, g6, z1, z2, v, g5, At.mono mono_str gs hl⟩
def sessSz (x : Sess) : Nat := x.tag.size + x.query.size + repSz x.rows
def tblSz (xs : List Sess) : Nat := lenSum sessSz xs

end Go.Proofs.YtpmnepalchgcbaaGreatDoor.Msg

namespace Go.Proofs.YtpmnepalchgcbaaGreatDoor.Msg
open Go.ChangeShapes Go.WideShapes Go.ChangeAt Go.RowKit
set_option linter.unusedVariables false
set_option linter.unusedSimpArgs false

def digsF : Nat → Nat → List UInt8
  | 0, _ => []
  | f + 1, n => if n = 0 then [] else digsF f (n / 10) ++ [UInt8.ofNat (48 + n % 10)]
def digs (n : Nat) : List UInt8 := digsF n n
theorem digsF_fuel : ∀ (f g n : Nat), n ≤ f → n ≤ g → digsF f n = digsF g n
  | 0, g, n, h1, h2 => by
    obtain rfl : n = 0 := by omega
    cases g <;> simp [digsF]
  | f + 1, 0, n, h1, h2 => by
    obtain rfl : n = 0 := by omega
    simp [digsF]
  | f + 1, g + 1, n, h1, h2 => by
    unfold digsF
    by_cases h : n = 0
    · simp [h]
    · rw [if_neg h, if_neg h, digsF_fuel f g (n / 10) (by omega) (by omega)]
theorem digs_zero : digs 0 = [] := rfl
theorem digs_step (n : Nat) (h : n ≠ 0) : digs n = digs (n / 10) ++ [UInt8.ofNat (48 + n % 10)] := by
  unfold digs
  obtain ⟨m, rfl⟩ : ∃ m, n = m + 1 := ⟨n - 1, by omega⟩
  conv => lhs; unfold digsF
  rw [if_neg h, digsF_fuel m ((m + 1) / 10) ((m + 1) / 10) (by omega) (by omega)]
/-- the mark of number k (from 1) -/
def markT (k : Nat) : ByteArray := ⟨#[109]⟩ ++ ⟨(digs k).toArray⟩
theorem bytes_ext {a b : ByteArray} (h : a.data.toList = b.data.toList) : a = b := by
  cases a; cases b
  simp only [ByteArray.mk.injEq]
  exact Array.toList_inj.1 h
theorem digs_len : ∀ (f n : Nat), n ≤ f → n < 18446744073709551616 → (digs n).length ≤ 20 := by
  intro f n _ h
  have key : ∀ (j n : Nat), n < 10 ^ j → (digs n).length ≤ j := by
    intro j
    induction j with
    | zero => intro n hn; obtain rfl : n = 0 := by omega
              simp [digs_zero]
    | succ j ih =>
      intro n hn
      by_cases h0 : n = 0
      · subst h0; simp [digs_zero]
      · rw [digs_step n h0, List.length_append, List.length_singleton]
        have := ih (n / 10) (by rw [Nat.pow_succ] at hn; omega)
        omega
  exact key 20 n (by omega)

set_option maxRecDepth 100000 in
set_option maxHeartbeats 1000000 in
theorem markText_any (k0 : Nat) (w : World) (h0 : 1 ≤ k0) (h1 : k0 ≤ 4611686018427387904) :
    Calls Tryz.prog 48 #[.int .i64 (k0 : Int)] w fun e w' => e = .returned (.string (markT k0)) ∧ Below w.heap.size w w' := by
  have hpos : ¬ (k0 : Int) ≤ 0 := by omega
  have hr : ∀ (w : World) (n : Int), Sem.run Tryz.prog (convert 80 9 (.slice (some ⟨w.heap.size, 0, none⟩) 1 1)) (w.alloc (Obj.cells #[Value.int IntKind.u8 n] 5)) = .ok (.string (strOfNums [n])) (w.alloc (Obj.cells #[Value.int IntKind.u8 n] 5)) := fun w n =>
    run_convert_bytes_arg (P := Tryz.prog) (w.alloc (Obj.cells #[Value.int IntKind.u8 n] 5)) 80 5 Tryz.underlying80 Tryz.underlying5 w.heap.size 0 1 1 [n] rfl
      (by intro i hi; obtain rfl : i = 0 := by omega
          simp) 9 Tryz.underlying9
  have HL := hide (digs_len k0 k0 (Nat.le_refl _) (by omega))
  go_enter Tryz.func48, Tryz.ntmps48
  go_wp2
  go_loopw [0, 3] (fun kv out wr => ∃ (k : Nat) (s : ByteArray), kv = .int .i64 (k : Int) ∧ out = .string s ∧ k ≤ k0 ∧ digs k ++ s.data.toList = digs k0 ∧ Below w.heap.size w wr) (fun kv _ _ => (intOf kv).toNat)
  case atStart => exact ⟨k0, ByteArray.empty, rfl, rfl, Nat.le_refl _, by simp, Below.refl _ _⟩
  case round =>
    obtain ⟨k, s, rfl, rfl, hk, hd, hb⟩ := hrel
    have hsl : s.size ≤ 20 := by
      have := HL.out
      rw [← hd, List.length_append] at this
      have h2 : s.data.toList.length = s.size := by simp
      omega
    have HD := hide hd
    clear hd
    by_cases hz : k = 0
    · subst hz
      have HS : Hid (⟨#[109]⟩ ++ s = markT k0) := by
        apply bytes_ext
        have := HD.out
        rw [digs_zero, List.nil_append] at this
        simp [markT, this]
      go_wp2
      go_ret
      exact ⟨ret_string HS.out, hb⟩
    · have hkp : (0 : Int) < (k : Int) := by omega
      have hrw := hr wr ((48 : Int) + (k : Int) % 10)
      have hb' := hb.alloc hb.size (Obj.cells #[Value.int IntKind.u8 ((48 : Int) + (k : Int) % 10)] 5)
      have hss : (strOfNums [(48 : Int) + (k : Int) % 10]).size = 1 := strOfNums_size _
      have HF : Hid (digs (k / 10) ++ (strOfNums [(48 : Int) + (k : Int) % 10] ++ s).data.toList = digs k0) := by
        have e1 : (strOfNums [(48 : Int) + (k : Int) % 10] ++ s).data.toList = [UInt8.ofNat (48 + k % 10)] ++ s.data.toList := by
          rw [ByteArray.data_append, Array.toList_append, strOfNums_data]
          rw [List.map_cons, List.map_nil, show ((48 : Int) + (k : Int) % 10).toNat = 48 + k % 10 by omega]
        have e2 := HD.out
        rw [digs_step k hz, List.append_assoc] at e2
        rw [e1]
        exact e2
      go_wp2
      go_roundw
      case rel => exact ⟨k / 10, _, by go_num, rfl, by omega, HF.out, hb'⟩
      case measure => simp [intOf]; omega
end Go.Proofs.YtpmnepalchgcbaaGreatDoor.Msg

namespace Go.Proofs.YtpmnepalchgcbaaGreatDoor.Msg
open Go.ChangeShapes Go.WideShapes Go.ChangeAt Go.RowKit
set_option linter.unusedVariables false
set_option linter.unusedSimpArgs false

/-- a list in memory, each list in blocks of its own: 'bs' are all its blocks -/
def OAt {α : Type} (n : Nat) (R : World → Nat → Nat → α → List Nat → Prop) (w : World) (v : Value) (xs : List α) (bs : List Nat) : Prop :=
  xs.length ≤ 9223372036854775807 ∧ ((∃ a cap, v = .slice a 0 cap ∧ xs = [] ∧ bs = []) ∨
    ∃ (b off cap : Nat) (bss : List (List Nat)), v = .slice (some ⟨b, off, none⟩) xs.length cap ∧ b < w.heap.size ∧ bs = b :: bss.flatten ∧ bss.length = xs.length ∧
      ∀ i (h : i < xs.length) (h2 : i < bss.length), R w b (off + i * n) xs[i] bss[i])

def StrO (w : World) (b off : Nat) (x : ByteArray) (bs : List Nat) : Prop := w.cell? ⟨b, off, none⟩ = some (.string x) ∧ w.frozen? ⟨b, off, none⟩ = false ∧ x.size ≤ 9223372036854775807 ∧ bs = []
def OStrs : World → Value → List ByteArray → List Nat → Prop := OAt 1 StrO
def RepO (w : World) (b off : Nat) (x : Rep) (bs : List Nat) : Prop := ∃ v, w.cell? ⟨b, off, none⟩ = some v ∧ OStrs w v x bs
def OReps : World → Value → List Rep → List Nat → Prop := OAt 1 RepO
def FieldO (w : World) (b off : Nat) (x : Field) (bs : List Nat) : Prop := ∃ v, w.cell? ⟨b, off, none⟩ = some v ∧ OReps w v x bs
def OFields : World → Value → List Field → List Nat → Prop := OAt 1 FieldO
def SegO (w : World) (b off : Nat) (x : Seg) (bs : List Nat) : Prop :=
  w.cell? ⟨b, off, none⟩ = some (.string x.name) ∧ w.frozen? ⟨b, off, none⟩ = false ∧ x.name.size ≤ 9223372036854775807 ∧ ∃ v, w.cell? ⟨b, off + 1, none⟩ = some v ∧ OFields w v x.fields bs
def OSegs : World → Value → List Seg → List Nat → Prop := OAt 2 SegO

/-- nothing but the blocks of a list has turned -/
structure Only (bs : List Nat) (w w' : World) : Prop where
  os : w'.os = w.os
  tape : w'.tape = w.tape
  output : w'.output = w.output
  size : w.heap.size ≤ w'.heap.size
  block : ∀ b, b < w.heap.size → b ∉ bs → w'.heap[b]? = w.heap[b]?
theorem Only.refl (bs : List Nat) (w : World) : Only bs w w := ⟨rfl, rfl, rfl, Nat.le_refl _, fun _ _ _ => rfl⟩
theorem Only.trans {bs : List Nat} {a b c : World} (h : Only bs a b) (k : Only bs b c) : Only bs a c :=
  ⟨k.os.trans h.os, k.tape.trans h.tape, k.output.trans h.output, Nat.le_trans h.size k.size, fun x h1 h2 => (k.block x (Nat.lt_of_lt_of_le h1 h.size) h2).trans (h.block x h1 h2)⟩
theorem Only.mono {bs cs : List Nat} {w w' : World} (h : Only bs w w') (hs : ∀ b ∈ bs, b ∈ cs) : Only cs w w' := ⟨h.os, h.tape, h.output, h.size, fun b h1 h2 => h.block b h1 fun hb => h2 (hs b hb)⟩
theorem Only.of_below {bs : List Nat} {w w' : World} (h : Below w.heap.size w w') : Only bs w w' := ⟨h.os, h.tape, h.output, h.size, fun b h1 _ => h.block b h1⟩
theorem Only.below {bs : List Nat} {w w' : World} {B : Nat} (h : Only bs w w') (hB : B ≤ w.heap.size) (hb : ∀ b ∈ bs, B ≤ b) : Below B w w' :=
  ⟨h.os, h.tape, h.output, h.size, fun k hk => h.block k (by omega) fun hm => by have := hb k hm; omega⟩

def KeptO {α : Type} (R : World → Nat → Nat → α → List Nat → Prop) : Prop := ∀ w w' b off x bs, R w b off x bs → w'.heap[b]? = w.heap[b]? → w.heap.size ≤ w'.heap.size → (∀ c ∈ bs, w'.heap[c]? = w.heap[c]?) → R w' b off x bs
def LtO {α : Type} (R : World → Nat → Nat → α → List Nat → Prop) : Prop := ∀ w b off x bs, R w b off x bs → ∀ c ∈ bs, c < w.heap.size

theorem OAt.kept {α : Type} {n : Nat} {R : World → Nat → Nat → α → List Nat → Prop} (K : KeptO R) {w w' : World} {v : Value} {xs : List α} {bs : List Nat} (h : OAt n R w v xs bs) (hs : w.heap.size ≤ w'.heap.size) (hb : ∀ c ∈ bs, w'.heap[c]? = w.heap[c]?) : OAt n R w' v xs bs := by
  obtain ⟨hl, h⟩ := h
  refine ⟨hl, ?_⟩
  rcases h with h | ⟨b, off, cap, bss, rfl, hlt, rfl, hlen, h⟩
  · exact .inl h
  · exact .inr ⟨b, off, cap, bss, rfl, Nat.lt_of_lt_of_le hlt hs, rfl, hlen, fun i hi h2 => K _ _ _ _ _ _ (h i hi h2) (hb b (by simp)) hs fun c hc => hb c (by
      simp only [List.mem_cons, List.mem_flatten]
      exact .inr ⟨bss[i], List.getElem_mem h2, hc⟩)⟩
theorem OAt.lt {α : Type} {n : Nat} {R : World → Nat → Nat → α → List Nat → Prop} (L : LtO R) {w : World} {v : Value} {xs : List α} {bs : List Nat} (h : OAt n R w v xs bs) : ∀ c ∈ bs, c < w.heap.size := by
  obtain ⟨_, h⟩ := h
  rcases h with ⟨_, _, _, _, rfl⟩ | ⟨b, off, cap, bss, rfl, hlt, rfl, hlen, h⟩
  · intro c hc; simp at hc
  · intro c hc
    simp only [List.mem_cons, List.mem_flatten] at hc
    rcases hc with rfl | ⟨l, hl, hc⟩
    · exact hlt
    · obtain ⟨i, hi, rfl⟩ := List.getElem_of_mem hl
      exact L _ _ _ _ _ (h i (by omega) hi) c hc

theorem cellSame {w w' : World} {b o : Nat} (h : w'.heap[b]? = w.heap[b]?) : w'.cell? ⟨b, o, none⟩ = w.cell? ⟨b, o, none⟩ := World.cell?_of_block h
theorem frozenSame {w w' : World} {b o : Nat} (h : w'.heap[b]? = w.heap[b]?) : w'.frozen? ⟨b, o, none⟩ = w.frozen? ⟨b, o, none⟩ := World.frozen?_of_block h
theorem keptO_str : KeptO StrO := fun w w' b off x bs h hb hs _ => ⟨by rw [cellSame hb]; exact h.1, by rw [frozenSame hb]; exact h.2.1, h.2.2⟩
theorem ltO_str : LtO StrO := fun w b off x bs h c hc => by rw [h.2.2.2] at hc; simp at hc
theorem keptO_rep : KeptO RepO := fun w w' b off x bs h hb hs hc => let ⟨v, h1, h2⟩ := h; ⟨v, by rw [cellSame hb]; exact h1, OAt.kept keptO_str h2 hs hc⟩
theorem ltO_rep : LtO RepO := fun w b off x bs h => let ⟨v, h1, h2⟩ := h; OAt.lt ltO_str h2
theorem keptO_field : KeptO FieldO := fun w w' b off x bs h hb hs hc => let ⟨v, h1, h2⟩ := h; ⟨v, by rw [cellSame hb]; exact h1, OAt.kept keptO_rep h2 hs hc⟩
theorem ltO_field : LtO FieldO := fun w b off x bs h => let ⟨v, h1, h2⟩ := h; OAt.lt ltO_rep h2
theorem keptO_seg : KeptO SegO := fun w w' b off x bs h hb hs hc => let ⟨h0, hf, hz, v, h1, h2⟩ := h; ⟨by rw [cellSame hb]; exact h0, by rw [frozenSame hb]; exact hf, hz, v, by rw [cellSame hb]; exact h1, OAt.kept keptO_field h2 hs hc⟩
theorem ltO_seg : LtO SegO := fun w b off x bs h => let ⟨h0, hf, hz, v, h1, h2⟩ := h; OAt.lt ltO_field h2

/-! an owned list is a list -/
def ToAt {α : Type} (R : World → Nat → Nat → α → List Nat → Prop) (S : Nat → World → Nat → Nat → α → Prop) : Prop := ∀ lo w b off x bs, R w b off x bs → (∀ c ∈ bs, lo ≤ c) → S lo w b off x
theorem OAt.toAt {α : Type} {n : Nat} {R : World → Nat → Nat → α → List Nat → Prop} {S : Nat → World → Nat → Nat → α → Prop} (T : ToAt R S) {w : World} {v : Value} {xs : List α} {bs : List Nat} (h : OAt n R w v xs bs) {lo : Nat} (hlo : ∀ c ∈ bs, lo ≤ c) : At n S lo w v xs := by
  obtain ⟨hl, h⟩ := h
  refine ⟨hl, ?_⟩
  rcases h with ⟨a, cap, rfl, rfl, rfl⟩ | ⟨b, off, cap, bss, rfl, hlt, rfl, hlen, h⟩
  · exact .inl ⟨a, cap, rfl, rfl⟩
  · exact .inr ⟨b, off, cap, rfl, ⟨hlo b (by simp), hlt⟩, fun i hi => T _ _ _ _ _ _ (h i hi (by omega)) fun c hc => hlo c (by
      simp only [List.mem_cons, List.mem_flatten]
      exact .inr ⟨bss[i], List.getElem_mem (by omega), hc⟩)⟩
theorem toAt_str : ToAt StrO StrR := fun lo w b off x bs h _ => ⟨h.1, h.2.2.1⟩
theorem toAt_rep : ToAt RepO RepR := fun lo w b off x bs h hlo => let ⟨v, h1, h2⟩ := h; ⟨v, h1, OAt.toAt toAt_str h2 hlo⟩
theorem toAt_field : ToAt FieldO FieldR := fun lo w b off x bs h hlo => let ⟨v, h1, h2⟩ := h; ⟨v, h1, OAt.toAt toAt_rep h2 hlo⟩
theorem toAt_seg : ToAt SegO SegR := fun lo w b off x bs h hlo => let ⟨h0, hf, hz, v, h1, h2⟩ := h; ⟨h0, hz, v, h1, OAt.toAt toAt_field h2 hlo⟩

/-! marks -/
def mkL {α : Type} (mk : Nat → α → α) (c : α → Nat) (d : α) (k : Nat) (xs : List α) : List α := (List.range xs.length).map fun j => mk (k + sumOf c (xs.take j)) (xs.getD j d)
theorem mkL_len {α : Type} (mk : Nat → α → α) (c : α → Nat) (d : α) (k : Nat) (xs : List α) : (mkL mk c d k xs).length = xs.length := by simp [mkL]
theorem mkL_get {α : Type} (mk : Nat → α → α) (c : α → Nat) (d : α) (k : Nat) (xs : List α) (j : Nat) (h : j < xs.length) (h2 : j < (mkL mk c d k xs).length) : (mkL mk c d k xs)[j] = mk (k + sumOf c (xs.take j)) xs[j] := by
  simp [mkL, List.getD_eq_getElem?_getD, h]
def oneC (_ : ByteArray) : Nat := 1
def mkStr (k : Nat) (_ : ByteArray) : ByteArray := markT k
def mkRep : Nat → Rep → Rep := mkL mkStr oneC ⟨#[]⟩
def cRep (r : Rep) : Nat := sumOf oneC r
def mkField : Nat → Field → Field := mkL mkRep cRep []
def cField (f : Field) : Nat := sumOf cRep f
def mkFields : Nat → List Field → List Field := mkL mkField cField []
def cFields (f : List Field) : Nat := sumOf cField f
def mkSeg (k : Nat) (s : Seg) : Seg := ⟨markT k, mkFields (k + 1) s.fields⟩
def cSeg (s : Seg) : Nat := 1 + cFields s.fields
def mkMsg : Nat → List Seg → List Seg := mkL mkSeg cSeg ⟨⟨#[]⟩, []⟩
def cMsg (m : List Seg) : Nat := sumOf cSeg m
theorem cRep_len (r : Rep) : cRep r = r.length := by
  unfold cRep sumOf
  induction r with
  | nil => rfl
  | cons x r ih => simp only [List.map_cons, List.sum_cons, List.length_cons, ih, oneC]; omega
theorem one_take (r : Rep) (j : Nat) (h : j ≤ r.length) : sumOf oneC (r.take j) = j := by
  have := cRep_len (r.take j)
  unfold cRep at this
  rw [this, List.length_take]
  omega
theorem markT_size (k : Nat) (h : k < 18446744073709551616) : (markT k).size ≤ 21 := by
  have := digs_len k k (Nat.le_refl _) h
  simp only [markT, ByteArray.size_append]
  have h2 : (⟨(digs k).toArray⟩ : ByteArray).size = (digs k).length := by simp [ByteArray.size]
  have h3 : (⟨#[109]⟩ : ByteArray).size = 1 := rfl
  omega
end Go.Proofs.YtpmnepalchgcbaaGreatDoor.Msg
