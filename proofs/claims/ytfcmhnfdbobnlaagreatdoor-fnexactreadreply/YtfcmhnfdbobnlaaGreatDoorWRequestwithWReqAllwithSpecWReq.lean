import Derived.Test.YtfcmhnfdbobnlaaGreatDoorWLetterwithRplOfwithRplErr
import Derived.Test.YtfcmhnfdbobnlaaGreatDoorWPurewithRplPurewithSpecROk
import Derived.Test.YtfcmhnfdbobnlaaGreatDoorNumwithQrySpecwithQryNum
import Derived.Shelf.Abstract
import Derived.BigQuiet
import Derived.Test.YtfcmhnfdbobnlaaGreatDoorSpecSegwithSpecHeadwithQrySpecOk
namespace Go.Proofs.YtfcmhnfdbobnlaaGreatDoor.Msg
open Go.ChangeShapes Go.WideShapes Go.ChangeAt Go.RowKit
set_option linter.unusedVariables false
set_option linter.unusedSimpArgs false

theorem ret_v {a b : Value} (h : a = b) : Ending.returned a = .returned b := by rw [h]

end Go.Proofs.YtfcmhnfdbobnlaaGreatDoor.Msg

namespace Go.Proofs.YtfcmhnfdbobnlaaGreatDoor.Msg
open Go.ChangeShapes Go.WideShapes Go.ChangeAt Go.RowKit Go.Shelf
set_option linter.unusedVariables false
set_option linter.unusedSimpArgs false

/-- what WriteRequest gives -/
def writeM (r : Req) : List Seg :=
  if r.kind = 1 then (if r.pointer.toList = [] then (match newL r.control r.tag r.query r.page with | none => newM r.control r.tag r.query (decT r.page.toNat) | some _ => []) else [])
  else if r.kind = 2 then (if r.page = 0 then (match nextL r.control r.tag r.query r.pointer with | none => nextM r.control r.tag r.query r.pointer | some _ => []) else [])
  else if r.kind = 3 then (if r.query.toList = [] ∧ r.page = 0 ∧ r.pointer.toList = [] then (if controlB r.control && tagB r.tag then cancelM r.control r.tag else []) else [])
  else []

theorem dec_plain (u : Nat) (h : u < 100) : plainB (decT u) = true ∧ (decT u).size ≤ 20 := by
  obtain ⟨_, h2, _⟩ := dec_spells u
  have h3 := dec_len 1 u (by omega)
  refine ⟨?_, ?_⟩
  · unfold plainB decT
    rw [List.all_eq_true]
    intro c hc
    have := List.all_eq_true.1 h2 c (by simpa using hc)
    simp only [digitB, Bool.and_eq_true, decide_eq_true_eq] at this
    simp only [plainC, Bool.and_eq_true, decide_eq_true_eq]
    omega
  · show (Lib.decDigits u).toArray.size ≤ 20
    simp
    omega

end Go.Proofs.YtfcmhnfdbobnlaaGreatDoor.Msg

namespace Go.Proofs.YtfcmhnfdbobnlaaGreatDoor.Msg
open Go.ChangeShapes Go.WideShapes Go.ChangeAt Go.RowKit
set_option linter.unusedVariables false
set_option linter.unusedSimpArgs false

/-- what the specification's WriteRequest gives, for reading -/
def ReadPost (w : World) (xs : List Seg) (e : Ending) (w' : World) : Prop := ∃ u, e = .returned (.agg #[u]) ∧ SegsAt 0 w' u xs ∧ Below w.heap.size w w'

/-- a row of segments, read -/
theorem segs_of_row {base lo : Nat} {w : World} {v : Value} (xs : List Seg) (us : List Value) (hl : us.length = xs.length) (hrow : w.ownsRow base 45 2 v xs.length (segCells xs us)) (hlo : lo ≤ base) (hn : ∀ x ∈ xs, x.name.size ≤ 9223372036854775807) (hx : xs.length ≤ 9223372036854775807)
    (hel : ∀ i (h : i < xs.length) (h' : i < us.length), FieldsAt lo w us[i] xs[i].fields) : SegsAt lo w v xs := by
  obtain ⟨hlen, ⟨rfl, h0⟩ | ⟨g, cap, cur, rfl, hg, hs, hcap, hm, hsz, htk⟩⟩ := hrow
  · have : xs = [] := List.length_eq_zero_iff.1 h0
    subst this
    exact ⟨by simp, .inl ⟨_, _, rfl, rfl⟩⟩
  · have hglt : g < w.heap.size := by rw [Array.getElem?_eq_some_iff] at hs; exact hs.1
    have hcell : ∀ j (u : Value), j < xs.length * 2 → (segCells xs us)[j]? = some u → w.cell? ⟨g, j, none⟩ = some u := by
      intro j u hj hu
      rw [← htk, List.getElem?_take, if_pos hj] at hu
      simp only [World.cell?, hs]
      rw [← Array.getElem?_toList]
      exact hu
    refine ⟨hx, .inr ⟨g, 0, cap, rfl, ⟨by omega, hglt⟩, fun i hi => ?_⟩⟩
    obtain ⟨c1, c2⟩ := segCells_at xs us i hl hi
    exact ⟨by have := hcell _ _ (by omega) c1; simpa using this, hn _ (List.getElem_mem hi), us[i]'(by omega), by have := hcell _ _ (by omega) c2; simpa using this, hel i hi (by omega)⟩

theorem form_at {lo : Nat} {w : World} {v : Value} {xs : List Field} (h : FieldsAt lo w v xs) : ∃ a c, v = .slice a xs.length c := by
  obtain ⟨a, c, e, _⟩ := h.form
  exact ⟨a, c, e⟩
theorem word1_at (w : World) (s : ByteArray) (hs : s.size ≤ 1048576) : StrsAt 0 (w.alloc (Obj.cells #[.string s] 9)) (.slice (some ⟨w.heap.size, 0, none⟩) 1 1) [s] :=
  words_at w [s] (by intro x hx; simp at hx; subst hx; omega) (by simp)
theorem one_le {s : ByteArray} : [s].length ≤ 1000 := by simp
theorem one_sz {s : ByteArray} (h : s.size ≤ 1048576) : ∀ t ∈ [s], t.size ≤ 1048576 := fun t ht => by rw [List.mem_singleton.1 ht]; exact h
theorem low_at {lo lo' : Nat} {w : World} {v : Value} {xs : List Field} (h : FieldsAt lo w v xs) (hl : lo' ≤ lo) : FieldsAt lo' w v xs := At.mono mono_field h hl
theorem keep_strs {lo : Nat} {w w' : World} {v : Value} {xs : List ByteArray} (h : StrsAt lo w v xs) (hb : Below w.heap.size w w') : StrsAt lo w' v xs := At.kept kept_str h hb
theorem read_end {w W X : World} {v x : Value} {xs : List Seg} (hr : w.heap.size + 1 < W.heap.size) (h : SegsAt W.heap.size X v xs) : SegsAt 0 (X.setCell ⟨w.heap.size + 1, 0, none⟩ x) v xs :=
  At.mono mono_seg (At.same kept_seg h ⟨by rw [Deep.nblk_setCell]; exact Nat.le_refl _, fun b h1 h2 => Deep.blk_setCell_other _ ⟨w.heap.size + 1, 0, none⟩ _ b (by dsimp only; omega)⟩) (Nat.zero_le _)
theorem two_row (lo : Nat) (w : World) (x y : Seg) (a b : Value) (hlo : lo ≤ w.heap.size) : (w.alloc (Obj.cells #[.string x.name, a, .string y.name, b] 45)).ownsRow lo 45 2 (.slice (some ⟨w.heap.size, 0, none⟩) 2 2) 2 (segCells [x, y] [a, b]) :=
  World.ownsRow_lit (base := lo) (e := 45) (size := 2) w #[.string x.name, a, .string y.name, b] 2 hlo (by unfold maxLen; omega) rfl
theorem two_segs (lo : Nat) (w : World) (x y : Seg) {a b : Value} (hlo : lo ≤ w.heap.size) (ha : FieldsAt lo w a x.fields) (hb : FieldsAt lo w b y.fields) (hx : x.name.size ≤ 9223372036854775807) (hy : y.name.size ≤ 9223372036854775807) :
    SegsAt lo (w.alloc (Obj.cells #[.string x.name, a, .string y.name, b] 45)) (.slice (some ⟨w.heap.size, 0, none⟩) 2 2) [x, y] := by
  have q : Below w.heap.size w (w.alloc (Obj.cells #[.string x.name, a, .string y.name, b] 45)) := (Below.refl _ _).alloc (Nat.le_refl _) _
  refine segs_of_row [x, y] [a, b] rfl (two_row lo w x y a b hlo) (Nat.le_refl _) ?_ (by simp) ?_
  · intro z hz
    simp only [List.mem_cons, List.not_mem_nil, or_false] at hz
    rcases hz with rfl | rfl <;> assumption
  · intro i h h'
    match i, h with
    | 0, _ => exact At.kept kept_field ha q
    | 1, _ => exact At.kept kept_field hb q
theorem seg_read (ts : List ByteArray) {base : Nat} {w : World} {v : Value} (h : RBuf OReps (fun d => base ≤ d) 60 base w v (trimF (ts.map wordF))) (hl : ts.length ≤ 1000) : FieldsAt base w v (trimE List.isEmpty (ts.map wordF)) := by
  rw [trimF_words] at h
  exact RBuf.fields h (fun b h => h) (by unfold trimE; rw [List.length_take, List.length_map]; omega)

end Go.Proofs.YtfcmhnfdbobnlaaGreatDoor.Msg
