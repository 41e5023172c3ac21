import Derived.Test.YtjpdgcodjnnljaaWRequestwithWPure
import Derived.Test.YtjpdgcodjnnljaaQrySpecwithQryNum
import Derived.Shelf.Abstract
import Derived.BigQuiet
import Derived.Test.YtjpdgcodjnnljaaImplHead3withSpecHead
import Derived.Test.YtjpdgcodjnnljaaQryReadwithQrySpecOk
namespace Go.Proofs.Ytjpdgcodjnnljaa.Msg
open Go.ChangeShapes Go.WideShapes Go.ChangeAt Go.RowKit Go.Shelf
set_option linter.unusedVariables false
set_option linter.unusedSimpArgs false

/-- what WriteRequest gives -/
def writeM (r : Req) : List Seg :=
  if r.kind = 1 then (if r.pointer.toList = [] then (match newL r.control r.tag r.query r.page with | none => newM r.control r.tag r.query (decT r.page.toNat) | some _ => []) else [])
  else if r.kind = 2 then (if r.page = 0 then (match nextL r.control r.tag r.query r.pointer with | none => nextM r.control r.tag r.query r.pointer | some _ => []) else [])
  else if r.kind = 3 then (if r.query.toList = [] ∧ r.page = 0 ∧ r.pointer.toList = [] then (if controlB r.control && tagB r.tag then cancelM r.control r.tag else []) else [])
  else []

theorem ltC (a b : Value) (w : World) : (Go.method 337 157 (.agg #[a, b]) "loop.example/s01639/impl.lacks").run Try.prog w = .ok (209, .agg #[a, b]) w := by kernel_rfl
theorem wtC (a b : Value) (w : World) : (Go.method 337 157 (.agg #[a, b]) "loop.example/s01639/impl.write").run Try.prog w = .ok (211, .agg #[a, b]) w := by kernel_rfl
theorem ltX (a b c d : Value) (w : World) : (Go.method 337 155 (.agg #[a, b, c, d]) "loop.example/s01639/impl.lacks").run Try.prog w = .ok (206, .agg #[a, b, c, d]) w := by kernel_rfl
theorem wtX (a b c d : Value) (w : World) : (Go.method 337 155 (.agg #[a, b, c, d]) "loop.example/s01639/impl.write").run Try.prog w = .ok (208, .agg #[a, b, c, d]) w := by kernel_rfl
theorem ltN (a b c d : Value) (w : World) : (Go.method 337 153 (.agg #[a, b, c, d]) "loop.example/s01639/impl.lacks").run Try.prog w = .ok (177, .agg #[a, b, c, d]) w := by kernel_rfl
theorem wtN (a b c d : Value) (w : World) : (Go.method 337 153 (.agg #[a, b, c, d]) "loop.example/s01639/impl.write").run Try.prog w = .ok (179, .agg #[a, b, c, d]) w := by kernel_rfl
theorem enLC : ∀ args w, (callFunc 209 args).run Try.prog w = .ok (.enter 209 args) w := enters_of Try.func209 (by kernel_rfl) rfl
theorem enWC : ∀ args w, (callFunc 211 args).run Try.prog w = .ok (.enter 211 args) w := enters_of Try.func211 (by kernel_rfl) rfl
theorem enLX : ∀ args w, (callFunc 206 args).run Try.prog w = .ok (.enter 206 args) w := enters_of Try.func206 (by kernel_rfl) rfl
theorem enWX : ∀ args w, (callFunc 208 args).run Try.prog w = .ok (.enter 208 args) w := enters_of Try.func208 (by kernel_rfl) rfl
theorem enLN : ∀ args w, (callFunc 177 args).run Try.prog w = .ok (.enter 177 args) w := enters_of Try.func177 (by kernel_rfl) rfl
theorem enWN : ∀ args w, (callFunc 179 args).run Try.prog w = .ok (.enter 179 args) w := enters_of Try.func179 (by kernel_rfl) rfl
set_option maxRecDepth 100000 in
set_option maxHeartbeats 2000000 in
theorem writeReq_bad (kind page : Int) (control tag query pointer : ByteArray) (w : World) (h1 : kind ≠ 1) (h2 : kind ≠ 2) (h3 : kind ≠ 3) :
    Calls Try.prog 38 #[reqV ⟨kind, control, tag, query, page, pointer⟩] w (MsgPost w []) := by
  have HR : Hid (∀ W, Calls Try.prog 83 #[.agg #[.int .i64 kind, .string control, .string tag, .string query, .int .i64 page, .string pointer]] W fun e w' => e = .returned .nilIface ∧ Below W.heap.size W w') := fun W => (requestOf_any ⟨kind, control, tag, query, page, pointer⟩ W).mono fun e w' ⟨h, hb⟩ => ⟨by rw [h]; unfold letterV; rw [if_neg h1, if_neg h2, if_neg h3], hb⟩
  show Calls Try.prog 38 #[.agg #[.int .i64 kind, .string control, .string tag, .string query, .int .i64 page, .string pointer]] w _
  obtain ⟨x1, hx1⟩ : ∃ x1, w.alloc (Obj.cells #[.int .i64 kind, .string control, .string tag, .string query, .int .i64 page, .string pointer] 65) = x1 := ⟨_, rfl⟩
  obtain ⟨w1, hw1⟩ : ∃ w1, x1.alloc (Obj.cells #[.slice none 0 0] 55) = w1 := ⟨_, rfl⟩
  have sx1 : x1.heap.size = w.heap.size + 1 := by rw [← hx1]; simp
  have bx1 : Below w.heap.size w x1 := by rw [← hx1]; exact (Below.refl _ _).alloc (Nat.le_refl _) _
  have bw1 : Below x1.heap.size x1 w1 := by rw [← hw1]; exact (Below.refl _ _).alloc (Nat.le_refl _) _
  have sw1 : w1.heap.size = w.heap.size + 1 + 1 := by rw [← hw1]; simp [sx1]
  have cr : w1.cell? ⟨w.heap.size + 1, 0, none⟩ = some (.slice none 0 0) := by rw [← hw1, ← sx1]; simp
  have fr : w1.frozen? ⟨w.heap.size + 1, 0, none⟩ = false := by rw [← hw1, ← sx1]; simp
  have HB1 := hide (bjoin' bw1 bx1)
  have HW1 : Hid ((w.alloc (Obj.cells #[.int .i64 kind, .string control, .string tag, .string query, .int .i64 page, .string pointer] 65)).alloc (Obj.cells #[.slice none 0 0] 55) = w1) := by rw [hx1]; exact hw1
  have c0 : ∀ i, w1.cell? ⟨w.heap.size, i, none⟩ = x1.cell? ⟨w.heap.size, i, none⟩ := fun i => bw1.cell (p := ⟨w.heap.size, i, none⟩) (by rw [sx1]; simp)
  have hlr : w.heap.size + 1 < w1.heap.size := by omega
  clear hx1 hw1 sx1 bx1 bw1 sw1 h1 h2 h3
  go_enter Try.func38, Try.ntmps38
  go_wp2_with fail
  rw [HW1.out]
  refine (HR.out _).mono ?_
  rintro e w2 ⟨rfl, hb2⟩
  have r0 : w2.cell? ⟨w.heap.size + 1, 0, none⟩ = some (.slice none 0 0) := (hb2.cell (p := ⟨w.heap.size + 1, 0, none⟩) hlr).trans cr
  have rf : w2.frozen? ⟨w.heap.size + 1, 0, none⟩ = false := (hb2.frozen (p := ⟨w.heap.size + 1, 0, none⟩) hlr).trans fr
  have rl : w.heap.size + 1 < w2.heap.size := by have := hb2.size; omega
  have HBF : Hid (∀ k x, Below w.heap.size w ((w2.drewN k).setCell ⟨w.heap.size + 1, 0, none⟩ x)) := fun k x => (below_drewN (bjoin hb2 HB1.out) k).setCell (p := ⟨w.heap.size + 1, 0, none⟩) (Nat.le_succ _) x
  clear hb2
  go_wp2_with fail
  go_quiet (fail)
  go_wp2_with fail
  exact bodyPost_ret (v := .agg #[.slice none 0 0]) (by simp [results, Try.results38, go_sem, r0, rl]) rfl (msgPost_nil _ _ _ _ (HBF.out _ _))
theorem dec_plain (u : Nat) (h : u < 100) : plainB (decT u) = true ∧ (decT u).size ≤ 20 := by
  obtain ⟨_, h2, _⟩ := dec_spells u
  have h3 := dec_len 1 u (by omega)
  refine ⟨?_, ?_⟩
  · unfold plainB decT
    rw [List.all_eq_true]
    intro c hc
    have := List.all_eq_true.1 h2 c (by simpa using hc)
    simp only [digitB, Bool.and_eq_true, decide_eq_true_eq] at this
    simp only [plainC, Bool.and_eq_true, decide_eq_true_eq]
    omega
  · show (Lib.decDigits u).toArray.size ≤ 20
    simp
    omega

set_option maxHeartbeats 1000000 in
/-- WriteRequest of the program -/
theorem writeRequest_any (r : Req) (w : World) (hc : r.control.size ≤ 1048576) (ht : r.tag.size ≤ 1048576) (hq : r.query.size ≤ 1048576) (hp : r.pointer.size ≤ 1048576)
    (hI : ∀ u : Nat, u < 100 → ∀ W, Calls Try.prog 188 #[.int .i64 (u : Int)] W fun e w' => e = .returned (.string (decT u)) ∧ w' = W) :
    Calls Try.prog 38 #[reqV r] w (MsgPost w (writeM r)) := by
  obtain ⟨kind, control, tag, query, page, pointer⟩ := r
  simp only at hc ht hq hp
  by_cases k1 : kind = 1
  · subst k1
    by_cases hz : pointer.toList = []
    · have e : writeM ⟨1, control, tag, query, page, pointer⟩ = match newL control tag query page with | none => newM control tag query (decT page.toNat) | some _ => [] := by simp [writeM, hz]
      rw [e]
      cases hl : newL control tag query page with
      | some c => exact writeReqN_yes control tag query pointer page [] w hz fun W => writeLetter_no _ _ _ c W (ltN _ _ _ _) (fun W => (newLacks_any control tag query page W (by omega) (by omega) (by omega)).mono fun e w' ⟨h, hb⟩ => ⟨by rw [h, hl]; rfl, hb⟩) enLN
      | none =>
        have hok : (controlB control = true ∧ tagB tag = true) ∧ textB query = true ∧ 1 ≤ page ∧ page ≤ 50 := by
          unfold newL at hl
          split at hl
          · rename_i h1
            split at hl
            · rename_i h2
              simp only [Bool.and_eq_true, decide_eq_true_eq] at h1 h2
              exact ⟨h1, h2⟩
            · cases hl
          · cases hl
        obtain ⟨u, rfl⟩ := Int.eq_ofNat_of_zero_le (show 0 ≤ page by omega)
        have hu : u < 100 := by omega
        obtain ⟨d1, d2⟩ := dec_plain u hu
        have hB := newM_ok control tag query (decT u) hok.1.1 hok.1.2 hok.2.1 d1 d2
        exact writeReqN_yes control tag query pointer u _ w hz fun W => writeLetter_yes _ _ _ _ _ W (ltN _ _ _ _) (wtN _ _ _ _) (fun W => (newLacks_any control tag query u W (by omega) (by omega) (by omega)).mono fun e w' ⟨h, hb⟩ => ⟨by rw [h, hl]; rfl, hb⟩) (fun W => newWrite_any control tag query (decT u) u W hc ht hq (by omega) (hI u hu)) hB.1 hB.2 enLN enWN
    · have e : writeM ⟨1, control, tag, query, page, pointer⟩ = [] := by simp [writeM, hz]
      rw [e]
      exact writeReqN_no control tag query pointer page w hz
  by_cases k2 : kind = 2
  · subst k2
    by_cases hz : page = 0
    · have e : writeM ⟨2, control, tag, query, page, pointer⟩ = match nextL control tag query pointer with | none => nextM control tag query pointer | some _ => [] := by simp [writeM, hz]
      rw [e]
      cases hl : nextL control tag query pointer with
      | some c => exact writeReqX_yes control tag query pointer page [] w hz fun W => writeLetter_no _ _ _ c W (ltX _ _ _ _) (fun W => (nextLacks_any control tag query pointer W (by omega) (by omega) (by omega) (by omega)).mono fun e w' ⟨h, hb⟩ => ⟨by rw [h, hl]; rfl, hb⟩) enLX
      | none =>
        have hok : (controlB control = true ∧ tagB tag = true) ∧ textB query = true ∧ textB pointer = true ∧ 0 < pointer.size := by
          unfold nextL at hl
          split at hl
          · rename_i h1
            split at hl
            · rename_i h2
              simp only [Bool.and_eq_true, decide_eq_true_eq] at h1 h2
              exact ⟨h1, h2⟩
            · cases hl
          · cases hl
        have hB := nextM_ok control tag query pointer hok.1.1 hok.1.2 hok.2.1 hok.2.2.1
        exact writeReqX_yes control tag query pointer page _ w hz fun W => writeLetter_yes _ _ _ _ _ W (ltX _ _ _ _) (wtX _ _ _ _) (fun W => (nextLacks_any control tag query pointer W (by omega) (by omega) (by omega) (by omega)).mono fun e w' ⟨h, hb⟩ => ⟨by rw [h, hl]; rfl, hb⟩) (fun W => nextWrite_any control tag query pointer W hc ht hq hp) hB.1 hB.2 enLX enWX
    · have e : writeM ⟨2, control, tag, query, page, pointer⟩ = [] := by simp [writeM, hz]
      rw [e]
      exact writeReqX_no control tag query pointer page w hz
  by_cases k3 : kind = 3
  · subst k3
    by_cases hz : query.toList = [] ∧ page = 0 ∧ pointer.toList = []
    · have e : writeM ⟨3, control, tag, query, page, pointer⟩ = if controlB control && tagB tag then cancelM control tag else [] := by
        show (if (3 : Int) = 1 then _ else _) = _
        rw [if_neg (by decide)]
        show (if (3 : Int) = 2 then _ else _) = _
        rw [if_neg (by decide)]
        show (if (3 : Int) = 3 then _ else _) = _
        rw [if_pos rfl]
        exact if_pos hz
      rw [e]
      cases hl : (controlB control && tagB tag)
      · exact writeReqC_yes control tag query pointer page [] w hz.1 hz.2.1 hz.2.2 fun W => writeLetter_no _ _ _ 101 W (ltC _ _) (fun W => (cancelLacks_any control tag W (by omega) (by omega)).mono fun e w' ⟨h, hb⟩ => ⟨by rw [h, hl]; rfl, hb⟩) enLC
      · have hl' := hl
        rw [Bool.and_eq_true] at hl'
        have hB := cancelM_ok control tag hl'.1 hl'.2
        exact writeReqC_yes control tag query pointer page _ w hz.1 hz.2.1 hz.2.2 fun W => writeLetter_yes _ _ _ _ _ W (ltC _ _) (wtC _ _) (fun W => (cancelLacks_any control tag W (by omega) (by omega)).mono fun e w' ⟨h, hb⟩ => ⟨by rw [h, hl]; rfl, hb⟩) (fun W => cancelWrite_any control tag W hc ht) hB.1 hB.2 enLC enWC
    · have e : writeM ⟨3, control, tag, query, page, pointer⟩ = [] := by
        show (if (3 : Int) = 1 then _ else _) = _
        rw [if_neg (by decide)]
        show (if (3 : Int) = 2 then _ else _) = _
        rw [if_neg (by decide)]
        show (if (3 : Int) = 3 then _ else _) = _
        rw [if_pos rfl]
        exact if_neg hz
      rw [e]
      exact writeReqC_no control tag query pointer page w hz
  · have e : writeM ⟨kind, control, tag, query, page, pointer⟩ = [] := by simp [writeM, k1, k2, k3]
    rw [e]
    exact writeReq_bad kind page control tag query pointer w k1 k2 k3
end Go.Proofs.Ytjpdgcodjnnljaa.Msg

namespace Go.Proofs.Ytjpdgcodjnnljaa.Msg
open Go.ChangeShapes Go.WideShapes Go.ChangeAt Go.RowKit
set_option linter.unusedVariables false
set_option linter.unusedSimpArgs false

/-- what the specification's WriteRequest gives, for reading -/
def ReadPost (w : World) (xs : List Seg) (e : Ending) (w' : World) : Prop := ∃ u, e = .returned (.agg #[u]) ∧ SegsAt 0 w' u xs ∧ Below w.heap.size w w'

/-- a row of segments, read -/
theorem segs_of_row {base lo : Nat} {w : World} {v : Value} (xs : List Seg) (us : List Value) (hl : us.length = xs.length) (hrow : w.ownsRow base 111 2 v xs.length (segCells xs us)) (hlo : lo ≤ base) (hn : ∀ x ∈ xs, x.name.size ≤ 9223372036854775807) (hx : xs.length ≤ 9223372036854775807)
    (hel : ∀ i (h : i < xs.length) (h' : i < us.length), FieldsAt lo w us[i] xs[i].fields) : SegsAt lo w v xs := by
  obtain ⟨hlen, ⟨rfl, h0⟩ | ⟨g, cap, cur, rfl, hg, hs, hcap, hm, hsz, htk⟩⟩ := hrow
  · have : xs = [] := List.length_eq_zero_iff.1 h0
    subst this
    exact ⟨by simp, .inl ⟨_, _, rfl, rfl⟩⟩
  · have hglt : g < w.heap.size := by rw [Array.getElem?_eq_some_iff] at hs; exact hs.1
    have hcell : ∀ j (u : Value), j < xs.length * 2 → (segCells xs us)[j]? = some u → w.cell? ⟨g, j, none⟩ = some u := by
      intro j u hj hu
      rw [← htk, List.getElem?_take, if_pos hj] at hu
      simp only [World.cell?, hs]
      rw [← Array.getElem?_toList]
      exact hu
    refine ⟨hx, .inr ⟨g, 0, cap, rfl, ⟨by omega, hglt⟩, fun i hi => ?_⟩⟩
    obtain ⟨c1, c2⟩ := segCells_at xs us i hl hi
    exact ⟨by have := hcell _ _ (by omega) c1; simpa using this, hn _ (List.getElem_mem hi), us[i]'(by omega), by have := hcell _ _ (by omega) c2; simpa using this, hel i hi (by omega)⟩

theorem form_at {lo : Nat} {w : World} {v : Value} {xs : List Field} (h : FieldsAt lo w v xs) : ∃ a c, v = .slice a xs.length c := by
  obtain ⟨a, c, e, _⟩ := h.form
  exact ⟨a, c, e⟩
theorem word1_at (w : World) (s : ByteArray) (hs : s.size ≤ 1048576) : StrsAt 0 (w.alloc (Obj.cells #[.string s] 9)) (.slice (some ⟨w.heap.size, 0, none⟩) 1 1) [s] :=
  words_at w [s] (by intro x hx; simp at hx; subst hx; omega) (by simp)
theorem one_le {s : ByteArray} : [s].length ≤ 1000 := by simp
theorem one_sz {s : ByteArray} (h : s.size ≤ 1048576) : ∀ t ∈ [s], t.size ≤ 1048576 := fun t ht => by rw [List.mem_singleton.1 ht]; exact h
theorem low_at {lo lo' : Nat} {w : World} {v : Value} {xs : List Field} (h : FieldsAt lo w v xs) (hl : lo' ≤ lo) : FieldsAt lo' w v xs := At.mono mono_field h hl
theorem keep_strs {lo : Nat} {w w' : World} {v : Value} {xs : List ByteArray} (h : StrsAt lo w v xs) (hb : Below w.heap.size w w') : StrsAt lo w' v xs := At.kept kept_str h hb
theorem read_end {w W X : World} {v x : Value} {xs : List Seg} (hr : w.heap.size + 1 < W.heap.size) (h : SegsAt W.heap.size X v xs) : SegsAt 0 (X.setCell ⟨w.heap.size + 1, 0, none⟩ x) v xs :=
  At.mono mono_seg (At.same kept_seg h ⟨by rw [Deep.nblk_setCell]; exact Nat.le_refl _, fun b h1 h2 => Deep.blk_setCell_other _ ⟨w.heap.size + 1, 0, none⟩ _ b (by dsimp only; omega)⟩) (Nat.zero_le _)
theorem two_row (lo : Nat) (w : World) (x y : Seg) (a b : Value) (hlo : lo ≤ w.heap.size) : (w.alloc (Obj.cells #[.string x.name, a, .string y.name, b] 111)).ownsRow lo 111 2 (.slice (some ⟨w.heap.size, 0, none⟩) 2 2) 2 (segCells [x, y] [a, b]) :=
  World.ownsRow_lit (base := lo) (e := 111) (size := 2) w #[.string x.name, a, .string y.name, b] 2 hlo (by unfold maxLen; omega) rfl
theorem two_segs (lo : Nat) (w : World) (x y : Seg) {a b : Value} (hlo : lo ≤ w.heap.size) (ha : FieldsAt lo w a x.fields) (hb : FieldsAt lo w b y.fields) (hx : x.name.size ≤ 9223372036854775807) (hy : y.name.size ≤ 9223372036854775807) :
    SegsAt lo (w.alloc (Obj.cells #[.string x.name, a, .string y.name, b] 111)) (.slice (some ⟨w.heap.size, 0, none⟩) 2 2) [x, y] := by
  have q : Below w.heap.size w (w.alloc (Obj.cells #[.string x.name, a, .string y.name, b] 111)) := (Below.refl _ _).alloc (Nat.le_refl _) _
  refine segs_of_row [x, y] [a, b] rfl (two_row lo w x y a b hlo) (Nat.le_refl _) ?_ (by simp) ?_
  · intro z hz
    simp only [List.mem_cons, List.not_mem_nil, or_false] at hz
    rcases hz with rfl | rfl <;> assumption
  · intro i h h'
    match i, h with
    | 0, _ => exact At.kept kept_field ha q
    | 1, _ => exact At.kept kept_field hb q
theorem seg_read (ts : List ByteArray) {base : Nat} {w : World} {v : Value} (h : RBuf OReps (fun d => base ≤ d) 114 base w v (trimF (ts.map wordF))) (hl : ts.length ≤ 1000) : FieldsAt base w v (trimE List.isEmpty (ts.map wordF)) := by
  rw [trimF_words] at h
  exact RBuf.fields h (fun b h => h) (by unfold trimE; rw [List.length_take, List.length_map]; omega)

set_option maxRecDepth 100000 in
set_option maxHeartbeats 2000000 in
theorem writeS_bad (r : Req) (w : World) (h1 : r.control.size ≤ 1048576) (h2 : r.tag.size ≤ 1048576) (h3 : r.query.size ≤ 1048576) (h4 : r.pointer.size ≤ 1048576) (hok : okR r = false) :
    Calls Try.prog 36 #[reqV r] w (ReadPost w []) := by
  obtain ⟨kind, control, tag, query, page, pointer⟩ := r
  simp only at h1 h2 h3 h4
  unfold reqV
  obtain ⟨x1, hx1⟩ : ∃ x1, w.alloc (Obj.cells #[.int .i64 kind, .string control, .string tag, .string query, .int .i64 page, .string pointer] 65) = x1 := ⟨_, rfl⟩
  obtain ⟨w1, hw1⟩ : ∃ w1, x1.alloc (Obj.cells #[.slice none 0 0] 55) = w1 := ⟨_, rfl⟩
  have sx1 : x1.heap.size = w.heap.size + 1 := by rw [← hx1]; simp
  have sw1 : w1.heap.size = w.heap.size + 1 + 1 := by rw [← hw1]; simp [sx1]
  have bx1 : Below w.heap.size w x1 := by rw [← hx1]; exact (Below.refl _ _).alloc (Nat.le_refl _) _
  have bw1 : Below x1.heap.size x1 w1 := by rw [← hw1]; exact (Below.refl _ _).alloc (Nat.le_refl _) _
  have HC : Hid (w1.cell? ⟨w.heap.size, 0, none⟩ = some (.int .i64 kind) ∧ w1.cell? ⟨w.heap.size, 1, none⟩ = some (.string control) ∧ w1.cell? ⟨w.heap.size, 2, none⟩ = some (.string tag) ∧ w1.cell? ⟨w.heap.size, 3, none⟩ = some (.string query) ∧ w1.cell? ⟨w.heap.size, 4, none⟩ = some (.int .i64 page) ∧ w1.cell? ⟨w.heap.size, 5, none⟩ = some (.string pointer)) := by
    refine ⟨?_, ?_, ?_, ?_, ?_, ?_⟩ <;> exact (bw1.cell (by rw [sx1]; simp)).trans (by rw [← hx1]; simp)
  obtain ⟨k0, k1, k2, k3, k4, k5⟩ := HC.out
  have c2 : w1.cell? ⟨w.heap.size + 1, 0, none⟩ = some (.slice none 0 0) := by rw [← hw1, ← sx1]; simp
  have f2 : w1.frozen? ⟨w.heap.size + 1, 0, none⟩ = false := by rw [← hw1, ← sx1]; simp
  have HB1 := hide (bjoin' bw1 bx1)
  go_enter Try.func36, Try.ntmps36
  go_wp2_with fail
  refine (l3Ok_any ⟨kind, control, tag, query, page, pointer⟩ _ (by simp only; omega) (by simp only; omega) (by simp only; omega) (by simp only; omega)).mono ?_
  rintro e W ⟨rfl, hb⟩
  rw [hok]
  have r0 : W.cell? ⟨w.heap.size + 1, 0, none⟩ = some (.slice none 0 0) := (hb.cell (p := ⟨w.heap.size + 1, 0, none⟩) (by rw [sw1]; simp)).trans c2
  have rf : W.frozen? ⟨w.heap.size + 1, 0, none⟩ = false := (hb.frozen (p := ⟨w.heap.size + 1, 0, none⟩) (by rw [sw1]; simp)).trans f2
  have rl : w.heap.size + 1 < W.heap.size := by have := hb.size; omega
  go_wp2_with fail
  refine bodyPost_ret (v := .agg #[.slice none 0 0]) (by simp [results, Try.results36, go_sem, r0, rl]) rfl ⟨_, rfl, ⟨by simp, .inl ⟨_, _, rfl, rfl⟩⟩, (bjoin' hb HB1.out).setCell (by simp) _⟩

set_option maxRecDepth 100000 in
set_option maxHeartbeats 4000000 in
theorem writeS_cancel (control tag query pointer : ByteArray) (page : Int) (w : World) (h1 : control.size ≤ 1048576) (h2 : tag.size ≤ 1048576) (h3 : query.size ≤ 1048576) (h4 : pointer.size ≤ 1048576) (hok : okR ⟨3, control, tag, query, page, pointer⟩ = true) :
    Calls Try.prog 36 #[reqV ⟨3, control, tag, query, page, pointer⟩] w (ReadPost w (cancelM control tag)) := by
  unfold reqV
  obtain ⟨x1, hx1⟩ : ∃ x1, w.alloc (Obj.cells #[.int .i64 3, .string control, .string tag, .string query, .int .i64 page, .string pointer] 65) = x1 := ⟨_, rfl⟩
  obtain ⟨w1, hw1⟩ : ∃ w1, x1.alloc (Obj.cells #[.slice none 0 0] 55) = w1 := ⟨_, rfl⟩
  have sx1 : x1.heap.size = w.heap.size + 1 := by rw [← hx1]; simp
  have sw1 : w1.heap.size = w.heap.size + 1 + 1 := by rw [← hw1]; simp [sx1]
  have bx1 : Below w.heap.size w x1 := by rw [← hx1]; exact (Below.refl _ _).alloc (Nat.le_refl _) _
  have bw1 : Below x1.heap.size x1 w1 := by rw [← hw1]; exact (Below.refl _ _).alloc (Nat.le_refl _) _
  have HC : Hid (w1.cell? ⟨w.heap.size, 0, none⟩ = some (.int .i64 3) ∧ w1.cell? ⟨w.heap.size, 1, none⟩ = some (.string control) ∧ w1.cell? ⟨w.heap.size, 2, none⟩ = some (.string tag) ∧ w1.cell? ⟨w.heap.size, 3, none⟩ = some (.string query) ∧ w1.cell? ⟨w.heap.size, 4, none⟩ = some (.int .i64 page) ∧ w1.cell? ⟨w.heap.size, 5, none⟩ = some (.string pointer)) := by
    refine ⟨?_, ?_, ?_, ?_, ?_, ?_⟩ <;> exact (bw1.cell (by rw [sx1]; simp)).trans (by rw [← hx1]; simp)
  obtain ⟨k0, k1, k2, k3, k4, k5⟩ := HC.out
  have c2 : w1.cell? ⟨w.heap.size + 1, 0, none⟩ = some (.slice none 0 0) := by rw [← hw1, ← sx1]; simp
  have f2 : w1.frozen? ⟨w.heap.size + 1, 0, none⟩ = false := by rw [← hw1, ← sx1]; simp
  have HB1 := hide (bjoin' bw1 bx1)
  go_enter Try.func36, Try.ntmps36
  go_wp2_with fail
  refine (l3Ok_any ⟨3, control, tag, query, page, pointer⟩ _ (by simp only; omega) (by simp only; omega) (by simp only; omega) (by simp only; omega)).mono ?_
  rintro e W ⟨rfl, hb⟩
  rw [hok]
  have g0 : W.cell? ⟨w.heap.size, 0, none⟩ = some (.int .i64 3) := (hb.cell (p := ⟨w.heap.size, 0, none⟩) (by rw [sw1]; simp; omega)).trans k0
  have r0 : W.cell? ⟨w.heap.size + 1, 0, none⟩ = some (.slice none 0 0) := (hb.cell (p := ⟨w.heap.size + 1, 0, none⟩) (by rw [sw1]; simp)).trans c2
  have rf : W.frozen? ⟨w.heap.size + 1, 0, none⟩ = false := (hb.frozen (p := ⟨w.heap.size + 1, 0, none⟩) (by rw [sw1]; simp)).trans f2
  have rl : w.heap.size + 1 < W.heap.size := by have := hb.size; omega
  have KEEP : Hid (∀ X, Below W.heap.size W X → X.cell? ⟨w.heap.size, 1, none⟩ = some (.string control) ∧ X.cell? ⟨w.heap.size, 2, none⟩ = some (.string tag) ∧ Below w.heap.size w X) := fun X h =>
    ⟨(h.cell (p := ⟨w.heap.size, 1, none⟩) (by dsimp only; omega)).trans ((hb.cell (p := ⟨w.heap.size, 1, none⟩) (by rw [sw1]; simp; omega)).trans k1), (h.cell (p := ⟨w.heap.size, 2, none⟩) (by dsimp only; omega)).trans ((hb.cell (p := ⟨w.heap.size, 2, none⟩) (by rw [sw1]; simp; omega)).trans k2), bjoin' h (bjoin' hb HB1.out)⟩
  have KRES : Hid (∀ X, Below W.heap.size W X → X.cell? ⟨w.heap.size + 1, 0, none⟩ = some (.slice none 0 0) ∧ X.frozen? ⟨w.heap.size + 1, 0, none⟩ = false ∧ w.heap.size + 1 < X.heap.size) := fun X h =>
    ⟨(h.cell (p := ⟨w.heap.size + 1, 0, none⟩) rl).trans r0, (h.frozen (p := ⟨w.heap.size + 1, 0, none⟩) rl).trans rf, by have := h.size; omega⟩
  have n1 : (⟨w.heap.size + 1, 0, none⟩ : Addr).block ≠ w.heap.size := by dsimp only; omega
  have HST : Hid (∀ X, Below W.heap.size W X → ∀ x, (X.setCell ⟨w.heap.size + 1, 0, none⟩ x).cell? ⟨w.heap.size, 1, none⟩ = some (.string control) ∧ (X.setCell ⟨w.heap.size + 1, 0, none⟩ x).cell? ⟨w.heap.size, 2, none⟩ = some (.string tag) ∧ Below w.heap.size w (X.setCell ⟨w.heap.size + 1, 0, none⟩ x)) := fun X h x => by
    obtain ⟨g1, g2, g3⟩ := KEEP.out X h
    exact ⟨(World.cell?_setCell_far _ ⟨w.heap.size + 1, 0, none⟩ ⟨w.heap.size, 1, none⟩ _ n1).trans g1, (World.cell?_setCell_far _ ⟨w.heap.size + 1, 0, none⟩ ⟨w.heap.size, 2, none⟩ _ n1).trans g2, g3.setCell (p := ⟨w.heap.size + 1, 0, none⟩) (Nat.le_succ _) x⟩
  obtain ⟨wd, hwd⟩ : ∃ wd, W.drew = wd := ⟨_, rfl⟩
  have hbd : Below W.heap.size W wd := by rw [← hwd]; exact (Below.refl _ _).drew
  have HSD : Hid (wd.heap.size = W.heap.size) := by rw [← hwd]; exact rfl
  have HRL := hide rl
  have HWD := hide hwd
  have hbd0 := (Below.refl W.heap.size W).drew
  clear k0 k1 k2 k3 k4 k5 hx1 hw1 sx1 sw1 bx1 bw1 c2 f2 hb r0 rf hwd n1 hok h3 h4 HC rl
  go_wp2_with fail
  have hwd := HWD.out
  clear g0
  go_region_held3 (fun X => X.cell? ⟨w.heap.size, 1, none⟩ = some (.string control) ∧ X.cell? ⟨w.heap.size, 2, none⟩ = some (.string tag) ∧ Below w.heap.size w X)
    (first | with_reducible exact KEEP.out _ hbd0 | with_reducible exact KEEP.out _ hbd | with_reducible exact KEEP.out _ (hbd.alloc hbd.size _) | with_reducible exact KEEP.out _ hbA | with_reducible exact KEEP.out _ (hbA.alloc hbA.size _) | with_reducible exact KEEP.out _ hbB | with_reducible exact KEEP.out _ (hbB.alloc hbB.size _) | with_reducible exact HST.out _ (hbB.alloc hbB.size _) _)
    (first
      | (go_at_call 80; refine (headS_any ⟨#[81, 67, 78]⟩ ⟨#[74, 48, 49]⟩ control _ (by decide) (by decide) h1).mono ?_; rintro e w2 ⟨u1, rfl, hF1, hb2⟩; obtain ⟨a1, c1, rfl⟩ := form_at hF1;
          first
          | (have hbA : Below W.heap.size W w2 := by with_reducible exact bjoin hb2 hbd
             have hG1 : FieldsAt W.heap.size w2 _ _ := low_at hF1 (by rw [HSD.out]; exact Nat.le_succ _))
          | (have hbA : Below W.heap.size W w2 := by with_reducible exact bjoin hb2 (hbd.alloc hbd.size _)
             have hG1 : FieldsAt W.heap.size w2 _ _ := low_at hF1 (by rw [Deep.nblk_alloc, HSD.out]; omega)))
      | (go_at_call 81;
          first
          | (with_reducible refine (seg_any ⟨#[81, 73, 68]⟩ [tag] (.slice (some ⟨w2.heap.size, 0, none⟩) 1 1) (w2.alloc (Obj.cells #[.string tag] 9)) (word1_at w2 tag h2) one_le (one_sz h2)).mono ?_; rintro e w3 ⟨u2, rfl, hR2, hb3⟩
             have hF2 : FieldsAt W.heap.size w3 u2 (trimE List.isEmpty [wordF tag]) := low_at (seg_read [tag] hR2 one_le) (by rw [Deep.nblk_alloc]; have := hbA.size; omega)
             have hbB := bjoin hb3 (hbA.alloc hbA.size _)
             have hG2 : FieldsAt W.heap.size w3 _ _ := At.kept kept_field (At.kept kept_field hG1 ((Below.refl _ _).alloc (Nat.le_refl _) _)) hb3
             clear hR2; obtain ⟨a2, c2, rfl⟩ := form_at hF2; obtain ⟨r0, rf, rl⟩ := KRES.out _ (hbB.alloc hbB.size (Obj.cells #[.string ⟨#[77, 83, 72]⟩, .slice a1 (headF [⟨#[81, 67, 78]⟩, ⟨#[74, 48, 49]⟩] control).length c1, .string ⟨#[81, 73, 68]⟩, .slice a2 (trimE List.isEmpty [wordF tag]).length c2] 111)))
          | (with_reducible refine (seg_any ⟨#[81, 73, 68]⟩ [tag] (.slice (some ⟨wd.heap.size, 0, none⟩) 1 1) w2 (keep_strs (word1_at wd tag h2) hb2) one_le (one_sz h2)).mono ?_; rintro e w3 ⟨u2, rfl, hR2, hb3⟩
             have hF2 : FieldsAt W.heap.size w3 u2 (trimE List.isEmpty [wordF tag]) := low_at (seg_read [tag] hR2 one_le) (by have := hbA.size; omega)
             have hbB := bjoin hb3 hbA
             have hG2 : FieldsAt W.heap.size w3 _ _ := At.kept kept_field hG1 hb3
             clear hR2; obtain ⟨a2, c2, rfl⟩ := form_at hF2; obtain ⟨r0, rf, rl⟩ := KRES.out _ (hbB.alloc hbB.size (Obj.cells #[.string ⟨#[77, 83, 72]⟩, .slice a1 (headF [⟨#[81, 67, 78]⟩, ⟨#[74, 48, 49]⟩] control).length c1, .string ⟨#[81, 73, 68]⟩, .slice a2 (trimE List.isEmpty [wordF tag]).length c2] 111)))))
  all_goals
    have HSEG := hide (two_segs W.heap.size w3 ⟨⟨#[77, 83, 72]⟩, headF [⟨#[81, 67, 78]⟩, ⟨#[74, 48, 49]⟩] control⟩ ⟨⟨#[81, 73, 68]⟩, trimE List.isEmpty [wordF tag]⟩ hbB.size hG2 hF2 (by dsimp only; decide) (by dsimp only; decide))
    have HEND : Hid (∀ X v x, SegsAt W.heap.size X v (cancelM control tag) → SegsAt 0 (X.setCell ⟨w.heap.size + 1, 0, none⟩ x) v (cancelM control tag)) := fun X v x h => read_end HRL.out h
    have HBF : Hid (∀ o x, Below w.heap.size w ((w3.alloc o).setCell ⟨w.heap.size + 1, 0, none⟩ x)) := fun o x => (HST.out _ (hbB.alloc hbB.size o) x).2.2
    clear hG1 hG2 hF1 hF2 hb2 hb3
    go_wp2_with fail
    exact bodyPost_ret (v := .agg #[.slice (some ⟨w3.heap.size, 0, none⟩) 2 2]) (by simp [results, Try.results36, go_sem, r0, rl]) rfl ⟨_, rfl, HEND.out _ _ _ HSEG.out, HBF.out _ _⟩
end Go.Proofs.Ytjpdgcodjnnljaa.Msg
