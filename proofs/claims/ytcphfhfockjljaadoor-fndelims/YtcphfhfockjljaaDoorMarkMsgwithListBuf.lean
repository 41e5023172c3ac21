import Derived.Test.YtcphfhfockjljaaDoorMarkDatawithParseCompswithMarkStr
namespace Go.Proofs.YtcphfhfockjljaaDoor.Msg
open Go.ChangeShapes Go.WideShapes Go.ChangeAt Go.RowKit
set_option linter.unusedVariables false
set_option linter.unusedSimpArgs false

theorem disj_of {bss : List (List Nat)} (h : bss.flatten.Nodup) {i j : Nat} (hi : i < bss.length) (hj : j < bss.length) (hij : i ≠ j) {c : Nat} (hc : c ∈ bss[i]) : c ∉ bss[j] := by
  intro hd
  rw [List.Nodup, List.pairwise_flatten] at h
  have hp := List.pairwise_iff_getElem.1 h.2
  rcases Nat.lt_or_gt_of_ne hij with hlt | hlt
  · exact hp i j hi hj hlt c hc c hd rfl
  · exact hp j i hj hi hlt c hd c hc rfl

/-- the first j elements of a row of lists are marked -/
def Mix {α : Type} (O : World → Value → α → List Nat → Prop) (mk : Nat → α → α) (c : α → Nat) (k : Nat) (w : World) (b off : Nat) (xs : List α) (bss : List (List Nat)) (j : Nat) : Prop :=
  ∀ i (h : i < xs.length) (h2 : i < bss.length), ∃ v, w.cell? ⟨b, off + i, none⟩ = some v ∧ O w v (if i < j then mk (k + sumOf c (xs.take i)) xs[i] else xs[i]) bss[i]

theorem Mix.step {α : Type} {O : World → Value → α → List Nat → Prop} {mk : Nat → α → α} {c : α → Nat} {k : Nat} {w w2 : World} {b off : Nat} {xs : List α} {bss : List (List Nat)} {j : Nat}
    (hkeep : ∀ w w' v x bs, O w v x bs → w.heap.size ≤ w'.heap.size → (∀ d ∈ bs, w'.heap[d]? = w.heap[d]?) → O w' v x bs) (hlt : ∀ w v x bs, O w v x bs → ∀ d ∈ bs, d < w.heap.size)
    (h : Mix O mk c k w b off xs bss j) (hb : b < w.heap.size) (hn : (b :: bss.flatten).Nodup) (hj : j < xs.length) (hj2 : j < bss.length) {v : Value} (hv : w.cell? ⟨b, off + j, none⟩ = some v)
    (ho : Only bss[j] w w2) (hO : O w2 v (mk (k + sumOf c (xs.take j)) xs[j]) bss[j]) : Mix O mk c k w2 b off xs bss (j + 1) := by
  rw [List.nodup_cons] at hn
  have hbj : b ∉ bss[j] := fun hm => hn.1 (by rw [List.mem_flatten]; exact ⟨_, List.getElem_mem hj2, hm⟩)
  have hrow := ho.block b hb hbj
  intro i hi h2
  by_cases e : i = j
  · subst e
    exact ⟨v, by rw [cellSame hrow]; exact hv, by rw [if_pos (by omega)]; exact hO⟩
  · obtain ⟨vi, g1, g2⟩ := h i hi h2
    refine ⟨vi, by rw [cellSame hrow]; exact g1, ?_⟩
    have g3 := hkeep _ w2 _ _ _ g2 ho.size fun d hd => ho.block d (hlt _ _ _ _ g2 d hd) (disj_of hn.2 h2 hj2 e hd)
    by_cases e2 : i < j
    · rw [if_pos e2] at g3; rw [if_pos (by omega)]; exact g3
    · rw [if_neg e2] at g3; rw [if_neg (by omega)]; exact g3

theorem sub_flat {bss : List (List Nat)} {j : Nat} (hj : j < bss.length) (b : Nat) : ∀ c ∈ bss[j], c ∈ b :: bss.flatten := fun c hc => by
  simp only [List.mem_cons, List.mem_flatten]
  exact .inr ⟨bss[j], List.getElem_mem hj, hc⟩

theorem nodup_at {bss : List (List Nat)} {b j : Nat} (h : (b :: bss.flatten).Nodup) (hj : j < bss.length) : bss[j].Nodup := by
  rw [List.nodup_cons, List.Nodup, List.pairwise_flatten] at h
  exact h.2.1 _ (List.getElem_mem hj)

end Go.Proofs.YtcphfhfockjljaaDoor.Msg

namespace Go.Proofs.YtcphfhfockjljaaDoor.Msg
open Go.ChangeShapes Go.WideShapes Go.ChangeAt Go.RowKit
set_option linter.unusedVariables false
set_option linter.unusedSimpArgs false

/-- a list of lists that the call builds by appending: its row of one-cell elements, and the elements, each in blocks of its own -/
def LBuf {α : Type} (O : World → Value → α → List Nat → Prop) (e : TypeId) (base : Nat) (w : World) (v : Value) (xs : List α) : Prop :=
  ∃ (vs : List Value) (bss : List (List Nat)), vs.length = xs.length ∧ bss.length = xs.length ∧ w.ownsRow base e 1 v xs.length vs ∧ bss.flatten.Nodup ∧
    ∀ i (h : i < xs.length) (h1 : i < vs.length) (h2 : i < bss.length), O w vs[i] xs[i] bss[i] ∧ ∀ b ∈ bss[i], base ≤ b ∧ b < w.heap.size ∧ v.ownBlock ≠ some b

theorem LBuf.empty {α : Type} (O : World → Value → α → List Nat → Prop) (e : TypeId) (base : Nat) (w : World) (hb : base ≤ w.heap.size) : LBuf O e base (w.alloc (.cells #[] e)) (.slice (some ⟨w.heap.size, 0, none⟩) 0 0) [] :=
  ⟨[], [], rfl, rfl, World.ownsRow_lit (base := base) (e := e) (size := 1) w #[] 0 hb (by unfold maxLen; omega) rfl, by simp, fun i h => absurd h (by simp)⟩

/-- the slice's own block, and what else -/
theorem own_lt {base : Nat} {e : TypeId} {w : World} {v : Value} {n : Nat} {vs : List Value} (h : w.ownsRow base e 1 v n vs) {b : Nat} (hb : v.ownBlock = some b) : base ≤ b ∧ b < w.heap.size := by
  obtain ⟨_, ⟨rfl, _⟩ | ⟨g, cap, cur, rfl, hg, hs, _⟩⟩ := h
  · simp [Value.ownBlock] at hb
  · simp only [Value.ownBlock, Option.some.injEq] at hb
    subst hb
    rw [Array.getElem?_eq_some_iff] at hs
    exact ⟨hg, hs.1⟩

theorem LBuf.kept {α : Type} {O : World → Value → α → List Nat → Prop} (hkeep : ∀ w w' v x bs, O w v x bs → w.heap.size ≤ w'.heap.size → (∀ d ∈ bs, w'.heap[d]? = w.heap[d]?) → O w' v x bs)
    {e : TypeId} {base : Nat} {w w' : World} {v : Value} {xs : List α} (h : LBuf O e base w v xs) (hb : Below w.heap.size w w') : LBuf O e base w' v xs := by
  obtain ⟨vs, bss, h1, h2, h3, h4, h5⟩ := h
  refine ⟨vs, bss, h1, h2, ?_, h4, fun i hi g1 g2 => ?_⟩
  · obtain ⟨hl, ⟨rfl, h0⟩ | ⟨g, cap, cur, rfl, hg, hs, rest⟩⟩ := h3
    · exact ⟨hl, .inl ⟨rfl, h0⟩⟩
    · refine ⟨hl, .inr ⟨g, cap, cur, rfl, hg, ?_, rest⟩⟩
      rw [hb.block g (by rw [Array.getElem?_eq_some_iff] at hs; exact hs.1)]
      exact hs
  · obtain ⟨k1, k2⟩ := h5 i hi g1 g2
    exact ⟨hkeep _ _ _ _ _ k1 hb.size fun d hd => hb.block d (k2 d hd).2.1, fun b hb' => ⟨(k2 b hb').1, Nat.lt_of_lt_of_le (k2 b hb').2.1 hb.size, (k2 b hb').2.2⟩⟩

/-- behind an append of one element whose blocks are younger than the row -/
theorem LBuf.push {α : Type} {O : World → Value → α → List Nat → Prop} (hkeep : ∀ w w' v x bs, O w v x bs → w.heap.size ≤ w'.heap.size → (∀ d ∈ bs, w'.heap[d]? = w.heap[d]?) → O w' v x bs)
    (hltO : ∀ w v x bs, O w v x bs → ∀ d ∈ bs, d < w.heap.size) {e : TypeId} {base : Nat} {w w3 w4 : World} {v v' u : Value} {xs : List α} {x : α} {bs : List Nat} (h : LBuf O e base w v xs) (hbase : base ≤ w.heap.size)
    (hb : Below w.heap.size w w3) (hu : O w3 u x bs) (hf : ∀ b ∈ bs, w.heap.size ≤ b) (hnd : bs.Nodup)
    {vs : List Value} (hvs : w.ownsRow base e 1 v xs.length vs) {n : Nat} (hn : n = xs.length) (ho : w4.ownsRow base e 1 v' (n + 1) (vs ++ [u])) (hg : w3.grownBy w4 v.ownBlock) (hat : v'.ownBlock = v.ownBlock ∨ v'.ownBlock = some w3.heap.size) :
    LBuf O e base w4 v' (xs ++ [x]) := by
  subst hn
  obtain ⟨vs', bss, h1, h2, h3, h4, h5⟩ := h
  obtain rfl : vs = vs' := by
    obtain ⟨hl, ⟨e1, h0⟩ | ⟨g, cap, cur, e1, hg1, hs1, _, _, _, ht⟩⟩ := hvs
    · obtain ⟨hl', _⟩ := h3
      rw [h0] at hl hl'
      have a1 : vs = [] := List.length_eq_zero_iff.1 (by simpa using hl)
      have a2 : vs' = [] := List.length_eq_zero_iff.1 (by simpa using hl')
      rw [a1, a2]
    · obtain ⟨hl', ⟨e2, _⟩ | ⟨g', cap', cur', e2, hg2, hs2, _, _, _, ht'⟩⟩ := h3
      · rw [e1] at e2; cases e2
      · rw [e1] at e2
        injection e2 with e3
        injection e3 with e4
        injection e4 with e5
        subst e5
        rw [hs1] at hs2
        injection hs2 with hs3
        injection hs3 with hs4
        subst hs4
        rw [← ht, ← ht']
  have hown : ∀ b, v.ownBlock = some b → b < w.heap.size := fun b hb' => (own_lt h3 hb').2
  have hold : ∀ b, b < w.heap.size → v.ownBlock ≠ some b → w4.heap[b]? = w.heap[b]? := fun b hb1 hb2 => (hg.block b (Nat.lt_of_lt_of_le hb1 hb.size) (fun e => hb2 e.symm)).trans (hb.block b hb1)
  have hnew : ∀ b ∈ bs, v.ownBlock ≠ some b := fun b hb1 e => by have := hown b e; have := hf b hb1; omega
  have hs34 := hg.size
  refine ⟨vs ++ [u], bss ++ [bs], by simp [h1], by simp [h2], by simpa using ho, ?_, fun i hi g1 g2 => ?_⟩
  · rw [List.flatten_append, List.flatten_cons, List.flatten_nil, List.append_nil, List.nodup_append]
    refine ⟨h4, hnd, fun a ha c hc e => ?_⟩
    subst e
    rw [List.mem_flatten] at ha
    obtain ⟨l, hl, ha⟩ := ha
    obtain ⟨i, hi, rfl⟩ := List.getElem_of_mem hl
    have := ((h5 i (by omega) (by omega) hi).2 a ha).2.1
    have := hf a hc
    omega
  · by_cases hlt : i < xs.length
    · obtain ⟨k1, k2⟩ := h5 i hlt (by omega) (by omega)
      have a1 : (vs ++ [u])[i] = vs[i]'(by omega) := List.getElem_append_left (by omega)
      have a2 : (bss ++ [bs])[i] = bss[i]'(by omega) := List.getElem_append_left (by omega)
      have a3 : (xs ++ [x])[i] = xs[i] := List.getElem_append_left hlt
      rw [a1, a2, a3]
      refine ⟨hkeep _ _ _ _ _ k1 (Nat.le_trans hb.size hs34) fun d hd => hold d (k2 d hd).2.1 (k2 d hd).2.2, fun b hb' => ⟨(k2 b hb').1, by have := (k2 b hb').2.1; have := hb.size; omega, ?_⟩⟩
      rcases hat with hat | hat
      · rw [hat]; exact (k2 b hb').2.2
      · rw [hat]; intro e; injection e with e; have := (k2 b hb').2.1; have := hb.size; omega
    · have e1 : i = xs.length := by simp at hi; omega
      subst e1
      have e2 : (vs ++ [u])[xs.length] = u := by rw [List.getElem_append_right (by omega)]; simp [h1]
      have e3 : (bss ++ [bs])[xs.length] = bs := by rw [List.getElem_append_right (by omega)]; simp [h2]
      have e4 : (xs ++ [x])[xs.length] = x := by rw [List.getElem_append_right (Nat.le_refl _)]; simp
      rw [e2, e3, e4]
      have hlt3 := hltO _ _ _ _ hu
      refine ⟨hkeep _ _ _ _ _ hu hs34 fun d hd => hg.block d (hlt3 d hd) (fun e => hnew d hd e.symm), fun b hb' => ⟨Nat.le_trans hbase (hf b hb'), Nat.lt_of_lt_of_le (hlt3 b hb') hs34, ?_⟩⟩
      rcases hat with hat | hat
      · rw [hat]; exact hnew b hb'
      · rw [hat]; intro e; injection e with e; have := hlt3 b hb'; omega

/-- the first n of it, as a list in blocks of its own -/
theorem LBuf.take {α : Type} {O : World → Value → α → List Nat → Prop} {R : World → Nat → Nat → α → List Nat → Prop} (hR : ∀ w b off x bs v, w.cell? ⟨b, off, none⟩ = some v → O w v x bs → R w b off x bs)
    {e : TypeId} {base : Nat} {w : World} {v : Value} {xs : List α} (h : LBuf O e base w v xs) (hl : xs.length ≤ 9223372036854775807) {n : Nat} (hn : n ≤ xs.length) :
    ∃ a cap, v = .slice a xs.length cap ∧ xs.length ≤ cap ∧ cap ≤ 9223372036854775807 ∧ ∃ bs, OAt 1 R w (.slice a n cap) (xs.take n) bs ∧ bs.Nodup ∧ ∀ b ∈ bs, base ≤ b := by
  obtain ⟨vs, bss, h1, h2, h3, h4, h5⟩ := h
  have h3' : w.ownsRow base e 1 v vs.length vs := by rw [h1]; exact h3
  by_cases hn0 : n = 0
  · subst hn0
    obtain ⟨_, ⟨rfl, h0⟩ | ⟨g, cap, cur, rfl, _, _, hcap, hm, _⟩⟩ := h3
    · exact ⟨none, 0, by rw [h0], by omega, by omega, [], ⟨by simp, .inl ⟨_, _, rfl, by simp, rfl⟩⟩, by simp, by simp⟩
    · exact ⟨_, cap, rfl, hcap, by unfold maxLen at hm; omega, [], ⟨by simp, .inl ⟨_, _, rfl, by simp, rfl⟩⟩, by simp, by simp⟩
  · rcases own_cells h3' with ⟨h0, rfl⟩ | ⟨g, cap, rfl, hg, hlt, hc⟩
    · subst h0; simp at h1; omega
    · have hcap : xs.length ≤ cap ∧ cap ≤ 9223372036854775807 := by
        obtain ⟨_, ⟨e1, _⟩ | ⟨g', cap', cur, e1, _, _, hcap, hm, _⟩⟩ := h3
        · cases e1
        · injection e1 with _ _ e3
          subst e3
          unfold maxLen at hm
          exact ⟨hcap, by omega⟩
      refine ⟨_, cap, by rw [h1], hcap.1, hcap.2, g :: (bss.take n).flatten, ⟨by rw [List.length_take]; omega, .inr ⟨g, 0, cap, bss.take n, by rw [List.length_take, Nat.min_eq_left hn], hlt, rfl, by rw [List.length_take, List.length_take, h2], fun i hi hi2 => ?_⟩⟩, ?_, ?_⟩
      · have hix : i < xs.length := by rw [List.length_take] at hi; omega
        have k := h5 i hix (by omega) (by omega)
        rw [List.getElem_take, List.getElem_take]
        exact hR _ _ _ _ _ _ (by have := (hc i (by omega)).1; simpa using this) k.1
      · rw [List.nodup_cons]
        refine ⟨fun hm => ?_, ?_⟩
        · rw [List.mem_flatten] at hm
          obtain ⟨l, hl', hm⟩ := hm
          obtain ⟨i, hi, rfl⟩ := List.getElem_of_mem hl'
          rw [List.length_take] at hi
          rw [List.getElem_take] at hm
          exact ((h5 i (by omega) (by omega) (by omega)).2 g hm).2.2 (by simp [Value.ownBlock])
        · have hsub : bss.flatten = (bss.take n).flatten ++ (bss.drop n).flatten := by rw [← List.flatten_append, List.take_append_drop]
          rw [hsub, List.nodup_append] at h4
          exact h4.1
      · intro b hb
        rw [List.mem_cons, List.mem_flatten] at hb
        rcases hb with rfl | ⟨l, hl', hm⟩
        · exact hg
        · obtain ⟨i, hi, rfl⟩ := List.getElem_of_mem hl'
          rw [List.length_take] at hi
          rw [List.getElem_take] at hm
          exact ((h5 i (by omega) (by omega) (by omega)).2 b hm).1
end Go.Proofs.YtcphfhfockjljaaDoor.Msg
