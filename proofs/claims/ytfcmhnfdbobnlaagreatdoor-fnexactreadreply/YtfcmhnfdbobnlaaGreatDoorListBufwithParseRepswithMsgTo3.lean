import Derived.Test.YtfcmhnfdbobnlaaGreatDoorMarkDatawithParseCompswithImplSplit
import Derived.Test.YtfcmhnfdbobnlaaGreatDoorImplCutwithMarkStrwithMarkMsg
import Derived.Test.YtfcmhnfdbobnlaaGreatDoorParseCutwithMsgTo2withMarkText
namespace Go.Proofs.YtfcmhnfdbobnlaaGreatDoor.Msg
open Go.ChangeShapes Go.WideShapes Go.ChangeAt Go.RowKit
set_option linter.unusedVariables false
set_option linter.unusedSimpArgs false

/-- a list of lists that the call builds by appending: its row of one-cell elements, and the elements, each in blocks of its own -/
def LBuf {α : Type} (O : World → Value → α → List Nat → Prop) (e : TypeId) (base : Nat) (w : World) (v : Value) (xs : List α) : Prop :=
  ∃ (vs : List Value) (bss : List (List Nat)), vs.length = xs.length ∧ bss.length = xs.length ∧ w.ownsRow base e 1 v xs.length vs ∧ bss.flatten.Nodup ∧
    ∀ i (h : i < xs.length) (h1 : i < vs.length) (h2 : i < bss.length), O w vs[i] xs[i] bss[i] ∧ ∀ b ∈ bss[i], base ≤ b ∧ b < w.heap.size ∧ v.ownBlock ≠ some b

theorem LBuf.empty {α : Type} (O : World → Value → α → List Nat → Prop) (e : TypeId) (base : Nat) (w : World) (hb : base ≤ w.heap.size) : LBuf O e base (w.alloc (.cells #[] e)) (.slice (some ⟨w.heap.size, 0, none⟩) 0 0) [] :=
  ⟨[], [], rfl, rfl, World.ownsRow_lit (base := base) (e := e) (size := 1) w #[] 0 hb (by unfold maxLen; omega) rfl, by simp, fun i h => absurd h (by simp)⟩

/-- the slice's own block, and what else -/
theorem own_lt {base : Nat} {e : TypeId} {w : World} {v : Value} {n : Nat} {vs : List Value} (h : w.ownsRow base e 1 v n vs) {b : Nat} (hb : v.ownBlock = some b) : base ≤ b ∧ b < w.heap.size := by
  obtain ⟨_, ⟨rfl, _⟩ | ⟨g, cap, cur, rfl, hg, hs, _⟩⟩ := h
  · simp [Value.ownBlock] at hb
  · simp only [Value.ownBlock, Option.some.injEq] at hb
    subst hb
    rw [Array.getElem?_eq_some_iff] at hs
    exact ⟨hg, hs.1⟩

theorem LBuf.kept {α : Type} {O : World → Value → α → List Nat → Prop} (hkeep : ∀ w w' v x bs, O w v x bs → w.heap.size ≤ w'.heap.size → (∀ d ∈ bs, w'.heap[d]? = w.heap[d]?) → O w' v x bs)
    {e : TypeId} {base : Nat} {w w' : World} {v : Value} {xs : List α} (h : LBuf O e base w v xs) (hb : Below w.heap.size w w') : LBuf O e base w' v xs := by
  obtain ⟨vs, bss, h1, h2, h3, h4, h5⟩ := h
  refine ⟨vs, bss, h1, h2, ?_, h4, fun i hi g1 g2 => ?_⟩
  · obtain ⟨hl, ⟨rfl, h0⟩ | ⟨g, cap, cur, rfl, hg, hs, rest⟩⟩ := h3
    · exact ⟨hl, .inl ⟨rfl, h0⟩⟩
    · refine ⟨hl, .inr ⟨g, cap, cur, rfl, hg, ?_, rest⟩⟩
      rw [hb.block g (by rw [Array.getElem?_eq_some_iff] at hs; exact hs.1)]
      exact hs
  · obtain ⟨k1, k2⟩ := h5 i hi g1 g2
    exact ⟨hkeep _ _ _ _ _ k1 hb.size fun d hd => hb.block d (k2 d hd).2.1, fun b hb' => ⟨(k2 b hb').1, Nat.lt_of_lt_of_le (k2 b hb').2.1 hb.size, (k2 b hb').2.2⟩⟩

/-- behind an append of one element whose blocks are younger than the row -/
theorem LBuf.push {α : Type} {O : World → Value → α → List Nat → Prop} (hkeep : ∀ w w' v x bs, O w v x bs → w.heap.size ≤ w'.heap.size → (∀ d ∈ bs, w'.heap[d]? = w.heap[d]?) → O w' v x bs)
    (hltO : ∀ w v x bs, O w v x bs → ∀ d ∈ bs, d < w.heap.size) {e : TypeId} {base : Nat} {w w3 w4 : World} {v v' u : Value} {xs : List α} {x : α} {bs : List Nat} (h : LBuf O e base w v xs) (hbase : base ≤ w.heap.size)
    (hb : Below w.heap.size w w3) (hu : O w3 u x bs) (hf : ∀ b ∈ bs, w.heap.size ≤ b) (hnd : bs.Nodup)
    {vs : List Value} (hvs : w.ownsRow base e 1 v xs.length vs) {n : Nat} (hn : n = xs.length) (ho : w4.ownsRow base e 1 v' (n + 1) (vs ++ [u])) (hg : w3.grownBy w4 v.ownBlock) (hat : v'.ownBlock = v.ownBlock ∨ v'.ownBlock = some w3.heap.size) :
    LBuf O e base w4 v' (xs ++ [x]) := by
  subst hn
  obtain ⟨vs', bss, h1, h2, h3, h4, h5⟩ := h
  obtain rfl : vs = vs' := by
    obtain ⟨hl, ⟨e1, h0⟩ | ⟨g, cap, cur, e1, hg1, hs1, _, _, _, ht⟩⟩ := hvs
    · obtain ⟨hl', _⟩ := h3
      rw [h0] at hl hl'
      have a1 : vs = [] := List.length_eq_zero_iff.1 (by simpa using hl)
      have a2 : vs' = [] := List.length_eq_zero_iff.1 (by simpa using hl')
      rw [a1, a2]
    · obtain ⟨hl', ⟨e2, _⟩ | ⟨g', cap', cur', e2, hg2, hs2, _, _, _, ht'⟩⟩ := h3
      · rw [e1] at e2; cases e2
      · rw [e1] at e2
        injection e2 with e3
        injection e3 with e4
        injection e4 with e5
        subst e5
        rw [hs1] at hs2
        injection hs2 with hs3
        injection hs3 with hs4
        subst hs4
        rw [← ht, ← ht']
  have hown : ∀ b, v.ownBlock = some b → b < w.heap.size := fun b hb' => (own_lt h3 hb').2
  have hold : ∀ b, b < w.heap.size → v.ownBlock ≠ some b → w4.heap[b]? = w.heap[b]? := fun b hb1 hb2 => (hg.block b (Nat.lt_of_lt_of_le hb1 hb.size) (fun e => hb2 e.symm)).trans (hb.block b hb1)
  have hnew : ∀ b ∈ bs, v.ownBlock ≠ some b := fun b hb1 e => by have := hown b e; have := hf b hb1; omega
  have hs34 := hg.size
  refine ⟨vs ++ [u], bss ++ [bs], by simp [h1], by simp [h2], by simpa using ho, ?_, fun i hi g1 g2 => ?_⟩
  · rw [List.flatten_append, List.flatten_cons, List.flatten_nil, List.append_nil, List.nodup_append]
    refine ⟨h4, hnd, fun a ha c hc e => ?_⟩
    subst e
    rw [List.mem_flatten] at ha
    obtain ⟨l, hl, ha⟩ := ha
    obtain ⟨i, hi, rfl⟩ := List.getElem_of_mem hl
    have := ((h5 i (by omega) (by omega) hi).2 a ha).2.1
    have := hf a hc
    omega
  · by_cases hlt : i < xs.length
    · obtain ⟨k1, k2⟩ := h5 i hlt (by omega) (by omega)
      have a1 : (vs ++ [u])[i] = vs[i]'(by omega) := List.getElem_append_left (by omega)
      have a2 : (bss ++ [bs])[i] = bss[i]'(by omega) := List.getElem_append_left (by omega)
      have a3 : (xs ++ [x])[i] = xs[i] := List.getElem_append_left hlt
      rw [a1, a2, a3]
      refine ⟨hkeep _ _ _ _ _ k1 (Nat.le_trans hb.size hs34) fun d hd => hold d (k2 d hd).2.1 (k2 d hd).2.2, fun b hb' => ⟨(k2 b hb').1, by have := (k2 b hb').2.1; have := hb.size; omega, ?_⟩⟩
      rcases hat with hat | hat
      · rw [hat]; exact (k2 b hb').2.2
      · rw [hat]; intro e; injection e with e; have := (k2 b hb').2.1; have := hb.size; omega
    · have e1 : i = xs.length := by simp at hi; omega
      subst e1
      have e2 : (vs ++ [u])[xs.length] = u := by rw [List.getElem_append_right (by omega)]; simp [h1]
      have e3 : (bss ++ [bs])[xs.length] = bs := by rw [List.getElem_append_right (by omega)]; simp [h2]
      have e4 : (xs ++ [x])[xs.length] = x := by rw [List.getElem_append_right (Nat.le_refl _)]; simp
      rw [e2, e3, e4]
      have hlt3 := hltO _ _ _ _ hu
      refine ⟨hkeep _ _ _ _ _ hu hs34 fun d hd => hg.block d (hlt3 d hd) (fun e => hnew d hd e.symm), fun b hb' => ⟨Nat.le_trans hbase (hf b hb'), Nat.lt_of_lt_of_le (hlt3 b hb') hs34, ?_⟩⟩
      rcases hat with hat | hat
      · rw [hat]; exact hnew b hb'
      · rw [hat]; intro e; injection e with e; have := hlt3 b hb'; omega

/-- the first n of it, as a list in blocks of its own -/
theorem LBuf.take {α : Type} {O : World → Value → α → List Nat → Prop} {R : World → Nat → Nat → α → List Nat → Prop} (hR : ∀ w b off x bs v, w.cell? ⟨b, off, none⟩ = some v → O w v x bs → R w b off x bs)
    {e : TypeId} {base : Nat} {w : World} {v : Value} {xs : List α} (h : LBuf O e base w v xs) (hl : xs.length ≤ 9223372036854775807) {n : Nat} (hn : n ≤ xs.length) :
    ∃ a cap, v = .slice a xs.length cap ∧ xs.length ≤ cap ∧ cap ≤ 9223372036854775807 ∧ ∃ bs, OAt 1 R w (.slice a n cap) (xs.take n) bs ∧ bs.Nodup ∧ ∀ b ∈ bs, base ≤ b := by
  obtain ⟨vs, bss, h1, h2, h3, h4, h5⟩ := h
  have h3' : w.ownsRow base e 1 v vs.length vs := by rw [h1]; exact h3
  by_cases hn0 : n = 0
  · subst hn0
    obtain ⟨_, ⟨rfl, h0⟩ | ⟨g, cap, cur, rfl, _, _, hcap, hm, _⟩⟩ := h3
    · exact ⟨none, 0, by rw [h0], by omega, by omega, [], ⟨by simp, .inl ⟨_, _, rfl, by simp, rfl⟩⟩, by simp, by simp⟩
    · exact ⟨_, cap, rfl, hcap, by unfold maxLen at hm; omega, [], ⟨by simp, .inl ⟨_, _, rfl, by simp, rfl⟩⟩, by simp, by simp⟩
  · rcases own_cells h3' with ⟨h0, rfl⟩ | ⟨g, cap, rfl, hg, hlt, hc⟩
    · subst h0; simp at h1; omega
    · have hcap : xs.length ≤ cap ∧ cap ≤ 9223372036854775807 := by
        obtain ⟨_, ⟨e1, _⟩ | ⟨g', cap', cur, e1, _, _, hcap, hm, _⟩⟩ := h3
        · cases e1
        · injection e1 with _ _ e3
          subst e3
          unfold maxLen at hm
          exact ⟨hcap, by omega⟩
      refine ⟨_, cap, by rw [h1], hcap.1, hcap.2, g :: (bss.take n).flatten, ⟨by rw [List.length_take]; omega, .inr ⟨g, 0, cap, bss.take n, by rw [List.length_take, Nat.min_eq_left hn], hlt, rfl, by rw [List.length_take, List.length_take, h2], fun i hi hi2 => ?_⟩⟩, ?_, ?_⟩
      · have hix : i < xs.length := by rw [List.length_take] at hi; omega
        have k := h5 i hix (by omega) (by omega)
        rw [List.getElem_take, List.getElem_take]
        exact hR _ _ _ _ _ _ (by have := (hc i (by omega)).1; simpa using this) k.1
      · rw [List.nodup_cons]
        refine ⟨fun hm => ?_, ?_⟩
        · rw [List.mem_flatten] at hm
          obtain ⟨l, hl', hm⟩ := hm
          obtain ⟨i, hi, rfl⟩ := List.getElem_of_mem hl'
          rw [List.length_take] at hi
          rw [List.getElem_take] at hm
          exact ((h5 i (by omega) (by omega) (by omega)).2 g hm).2.2 (by simp [Value.ownBlock])
        · have hsub : bss.flatten = (bss.take n).flatten ++ (bss.drop n).flatten := by rw [← List.flatten_append, List.take_append_drop]
          rw [hsub, List.nodup_append] at h4
          exact h4.1
      · intro b hb
        rw [List.mem_cons, List.mem_flatten] at hb
        rcases hb with rfl | ⟨l, hl', hm⟩
        · exact hg
        · obtain ⟨i, hi, rfl⟩ := List.getElem_of_mem hl'
          rw [List.length_take] at hi
          rw [List.getElem_take] at hm
          exact ((h5 i (by omega) (by omega) (by omega)).2 b hm).1
end Go.Proofs.YtfcmhnfdbobnlaaGreatDoor.Msg

namespace Go.Proofs.YtfcmhnfdbobnlaaGreatDoor.Msg
open Go.ChangeShapes Go.WideShapes Go.ChangeAt Go.RowKit
set_option linter.unusedVariables false
set_option linter.unusedSimpArgs false

theorem own_below {base : Nat} {e : TypeId} {w w' : World} {v : Value} {n : Nat} {vs : List Value} (h : w.ownsRow base e 1 v n vs) (hb : Below w.heap.size w w') : w'.ownsRow base e 1 v n vs := by
  obtain ⟨hl, ⟨rfl, h0⟩ | ⟨g, cap, cur, rfl, hg, hs, rest⟩⟩ := h
  · exact ⟨hl, .inl ⟨rfl, h0⟩⟩
  · refine ⟨hl, .inr ⟨g, cap, cur, rfl, hg, ?_, rest⟩⟩
    rw [hb.block g (by rw [Array.getElem?_eq_some_iff] at hs; exact hs.1)]
    exact hs
theorem keepN_snoc {α : Type} (p : α → Bool) (xs : List α) (k : Nat) (hk : k < xs.length) : keepN p (xs.take (k + 1)) = if p xs[k] = true then keepN p (xs.take k) else k + 1 := by
  have hle := keepN_le p (xs.take k)
  rw [List.length_take] at hle
  have hlen : (xs.take (k + 1)).length = k + 1 := by rw [List.length_take]; omega
  have key : ∀ (ys : List α) (j : Nat) (h : j < ys.length), keepN p ys ≤ j → p ys[j] = true := by
    intro ys
    induction ys with
    | nil => intro j h; simp at h
    | cons y ys ih =>
      intro j h hj
      cases hkn : keepN p ys with
      | zero =>
        cases j with
        | zero =>
          by_cases hy : p y = true
          · simpa using hy
          · have e : keepN p (y :: ys) = 1 := by simp [keepN, hkn, hy]
            omega
        | succ j => exact ih j (by simp at h; omega) (by omega)
      | succ q =>
        have e : keepN p (y :: ys) = q + 2 := by simp [keepN, hkn]
        cases j with
        | zero => omega
        | succ j => exact ih j (by simp at h; omega) (by omega)
  have last : ∀ (ys : List α) (h : keepN p ys - 1 < ys.length), 0 < keepN p ys → p ys[keepN p ys - 1] = false := by
    intro ys
    induction ys with
    | nil => intro h h0; simp [keepN] at h0
    | cons y ys ih =>
      intro h h0
      cases hkn : keepN p ys with
      | zero =>
        by_cases hy : p y = true
        · simp [keepN, hkn, hy] at h0
        · have e : keepN p (y :: ys) = 1 := by simp [keepN, hkn, hy]
          simp only [e]
          simpa using hy
      | succ q =>
        have e : keepN p (y :: ys) = q + 2 := by simp [keepN, hkn]
        have hq : q < ys.length := by have := keepN_le p ys; omega
        have := ih (by rw [hkn]; simpa using hq) (by omega)
        simp only [hkn] at this
        simp only [e]
        simpa using this
  by_cases hp : p xs[k] = true
  · rw [if_pos hp]
    apply keepN_is
    · omega
    · intro j hj hge
      rw [hlen] at hj
      rw [List.getElem_take]
      by_cases e : j = k
      · subst e; exact hp
      · have := key (xs.take k) j (by rw [List.length_take]; omega) hge
        rwa [List.getElem_take] at this
    · intro h h0
      have h' : keepN p (xs.take k) - 1 < (xs.take k).length := by rw [List.length_take]; omega
      have := last (xs.take k) h' h0
      rw [List.getElem_take] at this ⊢
      exact this
  · rw [if_neg hp]
    apply keepN_is
    · omega
    · intro j hj hge; omega
    · intro h h0
      rw [List.getElem_take]
      simpa using hp

def repsL (c1 c2 : UInt8) (l : List UInt8) : List (List (List UInt8)) := trimE List.isEmpty ((cutL c2 l).map (compsL c1))
def repT (r : List (List UInt8)) : Rep := r.map txt
theorem info_facts {P : Program} {e : TypeId} {z : Value} {sz bytes : Nat} (h : (P.info? e).map (fun i => (i.zero, i.size, i.bytes)) = some (some z, sz, bytes)) : ∃ i, P.info? e = some i ∧ i.zero = some z ∧ i.size = sz ∧ i.bytes = bytes := by
  cases hi : P.info? e with
  | none => rw [hi] at h; cases h
  | some i =>
    rw [hi] at h
    simp only [Option.map_some, Option.some.injEq, Prod.mk.injEq] at h
    exact ⟨i, rfl, h.1, h.2.1, h.2.2⟩
theorem one_slice (a : Option Addr) (n c : Nat) : ∀ u ∈ [Value.slice a n c], u.oneCell' = true := by
  intro u hu
  simp at hu
  subst hu
  rfl

end Go.Proofs.YtfcmhnfdbobnlaaGreatDoor.Msg

namespace Go.Proofs.YtfcmhnfdbobnlaaGreatDoor.Msg
open Go.ChangeShapes Go.WideShapes Go.ChangeAt Go.RowKit
set_option linter.unusedVariables false
set_option linter.unusedSimpArgs false

/-- the lists that a field, a segment, a message hold are short -/
def FieldFits (x : Field) : Prop := x.length ≤ 1048576 ∧ ∀ i (h : i < x.length), x[i].length ≤ 1048576
def FieldsFit (x : List Field) : Prop := x.length ≤ 1048576 ∧ ∀ i (h : i < x.length), FieldFits x[i]
def MsgFits (x : List Seg) : Prop := x.length ≤ 1048576 ∧ ∀ i (h : i < x.length), FieldsFit x[i].fields

set_option maxHeartbeats 400000 in
theorem toField_any (x : Field) (v : Value) (w : World) (hn : FieldFits x) {lo : Nat} (hv : RepsAt lo w v x) :
    Calls Tryz.prog 71 #[.agg #[v]] w fun e w' => ∃ u, e = .returned (.agg #[u]) ∧ RepsAt w.heap.size w' u x ∧ Below w.heap.size w w' := by
  have hb0 := (((Below.refl w.heap.size w).alloc (Nat.le_refl _) (Obj.cells #[v] 105)).alloc (by simp) (Obj.cells #[.slice none 0 0] 60)).alloc (by simp; omega) (Obj.cells #[.slice none 0 0] 60)
  have hv' := At.kept kept_rep hv hb0
  go_enter Tryz.func71, Tryz.ntmps71
  go_wp2_with fail
  refine (toReps_any x v _ hn.1 hn.2 hv').mono ?_
  rintro e w4 ⟨u, rfl, hu, hb⟩
  obtain ⟨hc, hf⟩ := bcells hb
  have hz : w.heap.size + 2 < w4.heap.size := by have := hb.size; simp at this; omega
  obtain ⟨a, cap, rfl, _⟩ := hu.form
  go_wp2_with fail
  refine bodyPost_ret (v := .agg #[.slice a x.length cap]) (by simp [results, Tryz.results71, go_sem, hc, hz]) rfl ⟨_, rfl, ?_, ?_⟩
  · have hu2 : RepsAt (w.heap.size + 3) w4 (.slice a x.length cap) x := by simpa using hu
    exact At.mono mono_rep (At.same kept_rep hu2 (((Same.refl _ _).setCell (by omega) _).setCell (by omega) _)) (by omega)
  · exact ((hb0.trans (hb.mono (by simp; omega))).setCell (by simp; omega) _).setCell (by simp) _

theorem fields_of_filling {w w1 : World} {t : TypeId} {xs : List Field} {cap : Nat} (hl : xs.length ≤ 9223372036854775807) (h : Filling RepsAt w t xs xs.length w1) :
    FieldsAt w.heap.size w1 (.slice (some ⟨w.heap.size, 0, none⟩) xs.length cap) xs := by
  obtain ⟨⟨f, hrow, hel⟩, hb⟩ := h
  exact ⟨hl, .inr ⟨_, 0, cap, rfl, ⟨Nat.le_refl _, hrow.lt⟩, fun i hi => ⟨f i, by have := hrow.cell hi; simpa using this, At.mono mono_rep (hel i hi hi) (by omega)⟩⟩⟩

theorem info_Field : (Tryz.prog.info? 60).map (fun i => (i.zero, i.size, i.bytes)) = some (some (.agg #[.slice none 0 0]), 1, 24) := by kernel_rfl

set_option maxHeartbeats 400000 in
theorem toFields_any (xs : List Field) (v : Value) (w : World) (hn : xs.length ≤ 1048576) (hne : ∀ i (h : i < xs.length), FieldFits xs[i]) {lo : Nat} (hv : FieldsAt lo w v xs) :
    Calls Tryz.prog 55 #[v] w fun e w' => ∃ u, e = .returned u ∧ FieldsAt w.heap.size w' u xs ∧ Below w.heap.size w w' := by
  have hl := hv.1
  obtain ⟨a, cap, rfl, hc⟩ := hv.form
  clear hv
  have HN := hide hne
  clear hne
  have hmk := make_rows (P := Tryz.prog) 43 60 (.agg #[.slice none 0 0]) #[.slice none 0 0] 1 24 Tryz.underlying43 info_Field rfl xs.length (by omega) (by omega)
  have hrow0 : Filling RepsAt w 60 xs 0 (w.alloc (Obj.cells (madeCells #[Value.slice none 0 0] xs.length) 60)) :=
    ⟨⟨_, made_row w #[Value.slice none 0 0] xs.length 60 (by decide), fun j _ h => absurd h (by omega)⟩, (Below.refl _ _).alloc (Nat.le_refl _) _⟩
  go_enter Tryz.func55, Tryz.ntmps55
  go_wp2
  go_loopw [4] (fun i w1 => ∃ k : Nat, k ≤ xs.length ∧ i = .int .i64 k ∧ Filling RepsAt w 60 xs k w1) (fun i _ => xs.length - (intOf i).toNat)
  case atStart => exact ⟨0, Nat.zero_le _, rfl, hrow0⟩
  case round =>
    obtain ⟨k, hk, rfl, hfil⟩ := hrel
    by_cases hlt : k < xs.length
    · obtain ⟨b, off, rfl, _, hbl, ve, hcell, hel⟩ := hc k hlt
      have hb := hfil.2
      have h1 : wr.cell? ⟨b, off + k, none⟩ = some ve := by rw [hb.cell (p := ⟨b, off + k, none⟩) hbl]; simpa using hcell
      have hel' := At.kept kept_rep hel hb
      have HC := hide hc
      clear hc hcell
      obtain ⟨f, hrow, _⟩ := hfil.1
      have h2 := hrow.cell hlt
      have h3 := hrow.frozen k
      have hB := hrow.lt
      go_wp2_with fail
      refine (toField_any xs[k] ve _ (HN.out k hlt) hel').mono ?_
      rintro e w2 ⟨u, rfl, hu, hb2⟩
      have h4 : w2.cell? ⟨w.heap.size, k, none⟩ = some (f k) := by rw [hb2.cell (p := ⟨w.heap.size, k, none⟩) hB]; exact h2
      have h5 : w2.frozen? ⟨w.heap.size, k, none⟩ = false := by rw [hb2.frozen (p := ⟨w.heap.size, k, none⟩) hB]; exact h3
      obtain ⟨a2, cap2, rfl, _⟩ := hu.form
      have hfin := filling_step (A := RepsAt) (fun _ _ _ _ _ h s => At.same kept_rep h s) (fun _ _ _ _ _ h s => At.mono mono_rep h s) hfil hb2 hlt hu
      go_wp2_with fail
      go_roundw
      case rel => exact ⟨k + 1, by omega, by go_num, hfin⟩
      case measure => simp [intOf]; omega
    · obtain rfl : k = xs.length := by omega
      go_wp2
      go_ret
      exact ⟨_, rfl, fields_of_filling hl hfil, hfil.2⟩

set_option maxHeartbeats 400000 in
theorem toSeg_any (x : Seg) (v : Value) (w : World) (hn : FieldsFit x.fields) {lo : Nat} (hv : FieldsAt lo w v x.fields) :
    Calls Tryz.prog 34 #[.agg #[.string x.name, v]] w fun e w' => ∃ u, e = .returned (.agg #[.string x.name, u]) ∧ FieldsAt w.heap.size w' u x.fields ∧ Below w.heap.size w w' := by
  have hb0 := (((Below.refl w.heap.size w).alloc (Nat.le_refl _) (Obj.cells #[.string x.name, v] 57)).alloc (by simp) (Obj.cells #[.string ⟨#[]⟩, .slice none 0 0] 45)).alloc (by simp; omega) (Obj.cells #[.string x.name, .slice none 0 0] 45)
  have hv' := At.kept kept_field hv hb0
  go_enter Tryz.func34, Tryz.ntmps34
  go_wp2_with fail
  refine (toFields_any x.fields v _ hn.1 hn.2 hv').mono ?_
  rintro e w4 ⟨u, rfl, hu, hb⟩
  obtain ⟨hc, hf⟩ := bcells hb
  have hz : w.heap.size + 2 < w4.heap.size := by have := hb.size; simp at this; omega
  obtain ⟨a, cap, rfl, _⟩ := hu.form
  go_wp2_with fail
  refine bodyPost_ret (v := .agg #[.string x.name, .slice a x.fields.length cap]) (by simp [results, Tryz.results34, go_sem, hc, hz]) rfl ⟨_, rfl, ?_, ?_⟩
  · have hu2 : FieldsAt (w.heap.size + 3) w4 (.slice a x.fields.length cap) x.fields := by simpa using hu
    exact At.mono mono_field (At.same kept_field hu2 ((((Same.refl _ _).setCell (by omega) _).setCell (by omega) _).setCell (by omega) _)) (by omega)
  · exact (((hb0.trans (hb.mono (by simp; omega))).setCell (by simp; omega) _).setCell (by simp) _).setCell (by simp) _
end Go.Proofs.YtfcmhnfdbobnlaaGreatDoor.Msg
