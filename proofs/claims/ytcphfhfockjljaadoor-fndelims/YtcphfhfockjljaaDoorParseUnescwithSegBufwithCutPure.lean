import Derived.Test.YtcphfhfockjljaaDoorParseByteswithParsePlainwithParseLists
import Derived.Test.YtcphfhfockjljaaDoorMsgEncodewithMsgInjwithParseData
namespace Go.Proofs.YtcphfhfockjljaaDoor.Msg
open Go.ChangeShapes Go.WideShapes Go.ChangeAt Go.RowKit
set_option linter.unusedVariables false
set_option linter.unusedSimpArgs false

/-- a box (a struct of one list) made at W, with a list in it that is being built -/
def PBox {α : Type} (O : World → Value → α → List Nat → Prop) (e : TypeId) (W w : World) (xs : List α) : Prop :=
  ∃ a cap, w.cell? ⟨W.heap.size, 0, none⟩ = some (.slice a xs.length cap) ∧ w.frozen? ⟨W.heap.size, 0, none⟩ = false ∧ LBuf O e (W.heap.size + 1) w (.slice a xs.length cap) xs ∧ Below W.heap.size W w ∧ W.heap.size < w.heap.size
def SBox (W w : World) (xs : List ByteArray) : Prop :=
  ∃ a cap, w.cell? ⟨W.heap.size, 0, none⟩ = some (.slice a xs.length cap) ∧ w.frozen? ⟨W.heap.size, 0, none⟩ = false ∧ SBuf (W.heap.size + 1) w (.slice a xs.length cap) xs ∧ Below W.heap.size W w ∧ W.heap.size < w.heap.size
theorem PBox.start {α : Type} (O : World → Value → α → List Nat → Prop) (e t : TypeId) (W : World) : PBox O e W (W.alloc (Obj.cells #[.slice none 0 0] t)) [] :=
  ⟨none, 0, by simp, by simp, LBuf.nil O e _ _, (Below.refl _ _).alloc (Nat.le_refl _) _, by simp⟩
theorem SBox.start (t : TypeId) (W : World) : SBox W (W.alloc (Obj.cells #[.slice none 0 0] t)) [] :=
  ⟨none, 0, by simp, by simp, SBuf.nil _ _, (Below.refl _ _).alloc (Nat.le_refl _) _, by simp⟩
theorem own_form {base : Nat} {e : TypeId} {w : World} {v : Value} {n : Nat} {vs : List Value} (h : w.ownsRow base e 1 v n vs) : ∃ a cap, v = .slice a n cap := by
  obtain ⟨hl, ⟨rfl, h0⟩ | ⟨g, cap, cur, rfl, hg, hs, rest⟩⟩ := h
  · exact ⟨none, 0, by rw [h0]⟩
  · exact ⟨_, _, rfl⟩
theorem PBox.put {α : Type} {O : World → Value → α → List Nat → Prop} (hkeep : ∀ w w' v x bs, O w v x bs → w.heap.size ≤ w'.heap.size → (∀ d ∈ bs, w'.heap[d]? = w.heap[d]?) → O w' v x bs)
    {e : TypeId} {W w : World} {xs : List α} {a : Option Addr} {cap n : Nat} {u : Value} (hn : n = xs.length) (hc : w.cell? ⟨W.heap.size, 0, none⟩ = some u) (hf : w.frozen? ⟨W.heap.size, 0, none⟩ = false) (hL : LBuf O e (W.heap.size + 1) w (.slice a n cap) xs) (hb : Below W.heap.size W w) (hs : W.heap.size < w.heap.size) :
    PBox O e W (w.setCell ⟨W.heap.size, 0, none⟩ (.slice a n cap)) xs := by
  subst hn
  exact ⟨a, cap, World.cell?_setCell_same _ _ _ hc, by rw [World.frozen?_setCell]; exact hf, LBuf.above hkeep hL (by rw [Deep.nblk_setCell]; exact Nat.le_refl _) (fun b hb' => Deep.blk_setCell_other _ _ _ _ (by simp; omega)), hb.setCell (by simp) _, by rw [Deep.nblk_setCell]; exact hs⟩
theorem SBox.put {W w : World} {xs : List ByteArray} {a : Option Addr} {cap n : Nat} {u : Value} (hn : n = xs.length) (hc : w.cell? ⟨W.heap.size, 0, none⟩ = some u) (hf : w.frozen? ⟨W.heap.size, 0, none⟩ = false) (hL : SBuf (W.heap.size + 1) w (.slice a n cap) xs) (hb : Below W.heap.size W w) (hs : W.heap.size < w.heap.size) :
    SBox W (w.setCell ⟨W.heap.size, 0, none⟩ (.slice a n cap)) xs := by
  subst hn
  exact ⟨a, cap, World.cell?_setCell_same _ _ _ hc, by rw [World.frozen?_setCell]; exact hf, own_above hL (fun b hb' => Deep.blk_setCell_other _ _ _ _ (by simp; omega)), hb.setCell (by simp) _, by rw [Deep.nblk_setCell]; exact hs⟩

def plainO (d : ByteArray) (hd : d.size = 5) (t : ByteArray) : Option ByteArray := (plainL d[0] d[1] d[2] d[3] d[4] t.data.toList).map txt
theorem ret_no {α : Type} {x : Option α} {u : Value} (h : x = none) : Ending.returned (.tuple #[u, .bool false]) = .returned (.tuple #[u, .bool x.isSome]) := by subst h; rfl
theorem ret_yes {α : Type} {x : Option α} {y : α} {u : Value} (h : x = some y) : Ending.returned (.tuple #[u, .bool true]) = .returned (.tuple #[u, .bool x.isSome]) := by subst h; rfl
theorem long_no {xs : List Field} (h : longB xs = false) : xs.length ≤ 30 ∧ ∀ f ∈ xs, f.length ≤ 30 ∧ ∀ r ∈ f, r.length ≤ 20 := by
  unfold longB at h
  rw [Bool.or_eq_false_iff] at h
  refine ⟨by simpa using h.1, fun f hf => ?_⟩
  have h2 : xs.all fldLB = true := by simpa using h.2
  have h3 := List.all_eq_true.1 h2 f hf
  unfold fldLB at h3
  rw [Bool.and_eq_true] at h3
  exact ⟨by simpa using h3.1, fun r hr => by have := List.all_eq_true.1 h3.2 r hr; simpa [repLB] using this⟩

end Go.Proofs.YtcphfhfockjljaaDoor.Msg

namespace Go.Proofs.YtcphfhfockjljaaDoor.Msg
open Go.ChangeShapes Go.WideShapes Go.ChangeAt Go.RowKit
set_option linter.unusedVariables false
set_option linter.unusedSimpArgs false

/-! a list of segments that is being built: two cells an element -/
def segCells : List Seg → List Value → List Value
  | x :: xs, u :: us => .string x.name :: u :: segCells xs us
  | _, _ => []
theorem segCells_snoc : ∀ (xs : List Seg) (us : List Value) (x : Seg) (u : Value), us.length = xs.length → segCells (xs ++ [x]) (us ++ [u]) = segCells xs us ++ [.string x.name, u]
  | [], [], x, u, _ => rfl
  | y :: xs, v :: us, x, u, h => by
    simp only [List.length_cons, Nat.add_right_cancel_iff] at h
    simp only [List.cons_append, segCells, segCells_snoc xs us x u h]
theorem segCells_at : ∀ (xs : List Seg) (us : List Value) (i : Nat) (h : us.length = xs.length) (hi : i < xs.length), (segCells xs us)[i * 2]? = some (.string xs[i].name) ∧ (segCells xs us)[i * 2 + 1]? = some (us[i]'(by omega))
  | x :: xs, u :: us, 0, _, _ => ⟨rfl, rfl⟩
  | x :: xs, u :: us, i + 1, h, hi => by
    simp only [List.length_cons, Nat.add_right_cancel_iff] at h
    have := segCells_at xs us i h (by simpa using hi)
    have e1 : (i + 1) * 2 = i * 2 + 1 + 1 := by omega
    rw [e1]
    simpa [segCells] using this
theorem own_lt2 {base : Nat} {e : TypeId} {sz : Nat} {w : World} {v : Value} {n : Nat} {vs : List Value} (h : w.ownsRow base e sz v n vs) {b : Nat} (hb : v.ownBlock = some b) : base ≤ b ∧ b < w.heap.size := by
  obtain ⟨hl, ⟨rfl, h0⟩ | ⟨g, cap, cur, rfl, hg, hs, rest⟩⟩ := h
  · simp [Value.ownBlock] at hb
  · simp [Value.ownBlock] at hb
    subst hb
    exact ⟨hg, by rw [Array.getElem?_eq_some_iff] at hs; exact hs.1⟩
theorem own_below2 {base : Nat} {e : TypeId} {sz : Nat} {w w' : World} {v : Value} {n : Nat} {vs : List Value} (h : w.ownsRow base e sz v n vs) (hb : Below w.heap.size w w') : w'.ownsRow base e sz v n vs := by
  obtain ⟨hl, ⟨rfl, h0⟩ | ⟨g, cap, cur, rfl, hg, hs, rest⟩⟩ := h
  · exact ⟨hl, .inl ⟨rfl, h0⟩⟩
  · refine ⟨hl, .inr ⟨g, cap, cur, rfl, hg, ?_, rest⟩⟩
    rw [hb.block g (by rw [Array.getElem?_eq_some_iff] at hs; exact hs.1)]
    exact hs
theorem own_above2 {base : Nat} {e : TypeId} {sz : Nat} {w w' : World} {v : Value} {n : Nat} {vs : List Value} (h : w.ownsRow base e sz v n vs) (hb : ∀ b, base ≤ b → w'.heap[b]? = w.heap[b]?) : w'.ownsRow base e sz v n vs := by
  obtain ⟨hl, ⟨rfl, h0⟩ | ⟨g, cap, cur, rfl, hg, hs, rest⟩⟩ := h
  · exact ⟨hl, .inl ⟨rfl, h0⟩⟩
  · exact ⟨hl, .inr ⟨g, cap, cur, rfl, hg, by rw [hb g hg]; exact hs, rest⟩⟩
theorem own_form2 {base : Nat} {e : TypeId} {sz : Nat} {w : World} {v : Value} {n : Nat} {vs : List Value} (h : w.ownsRow base e sz v n vs) : ∃ a cap, v = .slice a n cap := by
  obtain ⟨hl, ⟨rfl, h0⟩ | ⟨g, cap, cur, rfl, hg, hs, rest⟩⟩ := h
  · exact ⟨none, 0, by rw [h0]⟩
  · exact ⟨_, _, rfl⟩

structure SegBuf (base : Nat) (w : World) (v : Value) (xs : List Seg) (us : List Value) (bss : List (List Nat)) : Prop where
  l1 : us.length = xs.length
  l2 : bss.length = xs.length
  row : w.ownsRow base 44 2 v xs.length (segCells xs us)
  nd : bss.flatten.Nodup
  el : ∀ i (h : i < xs.length) (h1 : i < us.length) (h2 : i < bss.length), (xs[i].name.size ≤ 9223372036854775807 ∧ OFields w us[i] xs[i].fields bss[i]) ∧ ∀ b ∈ bss[i], base ≤ b ∧ b < w.heap.size ∧ v.ownBlock ≠ some b
theorem SegBuf.nil (base : Nat) (w : World) : SegBuf base w (.slice none 0 0) [] [] [] :=
  ⟨rfl, rfl, ⟨rfl, .inl ⟨rfl, rfl⟩⟩, by simp, fun i h => absurd h (by simp)⟩
theorem SegBuf.above {base : Nat} {w w' : World} {v : Value} {xs : List Seg} {us : List Value} {bss : List (List Nat)} (h : SegBuf base w v xs us bss) (hs : w.heap.size ≤ w'.heap.size) (hb : ∀ b, base ≤ b → w'.heap[b]? = w.heap[b]?) : SegBuf base w' v xs us bss :=
  ⟨h.l1, h.l2, own_above2 h.row hb, h.nd, fun i hi g1 g2 => by
    obtain ⟨⟨k0, k1⟩, k2⟩ := h.el i hi g1 g2
    exact ⟨⟨k0, OAt.kept keptO_field k1 hs fun d hd => hb d (k2 d hd).1⟩, fun b hb' => ⟨(k2 b hb').1, Nat.lt_of_lt_of_le (k2 b hb').2.1 hs, (k2 b hb').2.2⟩⟩⟩
theorem SegBuf.kept {base : Nat} {w w' : World} {v : Value} {xs : List Seg} {us : List Value} {bss : List (List Nat)} (h : SegBuf base w v xs us bss) (hb : Below w.heap.size w w') : SegBuf base w' v xs us bss :=
  ⟨h.l1, h.l2, own_below2 h.row hb, h.nd, fun i hi g1 g2 => by
    obtain ⟨⟨k0, k1⟩, k2⟩ := h.el i hi g1 g2
    exact ⟨⟨k0, OAt.kept keptO_field k1 hb.size fun d hd => hb.block d (k2 d hd).2.1⟩, fun b hb' => ⟨(k2 b hb').1, Nat.lt_of_lt_of_le (k2 b hb').2.1 hb.size, (k2 b hb').2.2⟩⟩⟩
theorem SegBuf.push {base : Nat} {w w3 w4 : World} {v v' u : Value} {xs : List Seg} {us : List Value} {bss : List (List Nat)} {x : Seg} {bs : List Nat} (h : SegBuf base w v xs us bss) (hbase : base ≤ w.heap.size)
    (hb : Below w.heap.size w w3) (hx : x.name.size ≤ 9223372036854775807) (hu : OFields w3 u x.fields bs) (hf : ∀ b ∈ bs, w.heap.size ≤ b) (hnd : bs.Nodup)
    {n : Nat} (hn : n = xs.length) (ho : w4.ownsRow base 44 2 v' (n + 1) (segCells xs us ++ [.string x.name, u])) (hg : w3.grownBy w4 v.ownBlock) (hat : v'.ownBlock = v.ownBlock ∨ v'.ownBlock = some w3.heap.size) :
    SegBuf base w4 v' (xs ++ [x]) (us ++ [u]) (bss ++ [bs]) := by
  subst hn
  obtain ⟨h1, h2, h3, h4, h5⟩ := h
  have hown : ∀ b, v.ownBlock = some b → b < w.heap.size := fun b hb' => (own_lt2 h3 hb').2
  have hold : ∀ b, b < w.heap.size → v.ownBlock ≠ some b → w4.heap[b]? = w.heap[b]? := fun b hb1 hb2 => (hg.block b (Nat.lt_of_lt_of_le hb1 hb.size) (fun e => hb2 e.symm)).trans (hb.block b hb1)
  have hnew : ∀ b ∈ bs, v.ownBlock ≠ some b := fun b hb1 e => by have := hown b e; have := hf b hb1; omega
  have hs34 := hg.size
  have hlt3 := OAt.lt ltO_field hu
  refine ⟨by simp [h1], by simp [h2], by rw [segCells_snoc _ _ _ _ h1]; simpa using ho, ?_, fun i hi g1 g2 => ?_⟩
  · rw [List.flatten_append, List.flatten_cons, List.flatten_nil, List.append_nil, List.nodup_append]
    refine ⟨h4, hnd, fun a ha c hc e => ?_⟩
    subst e
    rw [List.mem_flatten] at ha
    obtain ⟨l, hl, ha⟩ := ha
    obtain ⟨i, hi, rfl⟩ := List.getElem_of_mem hl
    have := ((h5 i (by omega) (by omega) hi).2 a ha).2.1
    have := hf a hc
    omega
  · by_cases hlt : i < xs.length
    · obtain ⟨⟨k0, k1⟩, k2⟩ := h5 i hlt (by omega) (by omega)
      have a1 : (us ++ [u])[i] = us[i]'(by omega) := List.getElem_append_left (by omega)
      have a2 : (bss ++ [bs])[i] = bss[i]'(by omega) := List.getElem_append_left (by omega)
      have a3 : (xs ++ [x])[i] = xs[i] := List.getElem_append_left hlt
      rw [a1, a2, a3]
      refine ⟨⟨k0, OAt.kept keptO_field k1 (Nat.le_trans hb.size hs34) fun d hd => hold d (k2 d hd).2.1 (k2 d hd).2.2⟩, fun b hb' => ⟨(k2 b hb').1, by have := (k2 b hb').2.1; have := hb.size; omega, ?_⟩⟩
      rcases hat with hat | hat
      · rw [hat]; exact (k2 b hb').2.2
      · rw [hat]; intro e; injection e with e; have := (k2 b hb').2.1; have := hb.size; omega
    · have e1 : i = xs.length := by simp at hi; omega
      subst e1
      have e2 : (us ++ [u])[xs.length] = u := by rw [List.getElem_append_right (by omega)]; simp [h1]
      have e3 : (bss ++ [bs])[xs.length] = bs := by rw [List.getElem_append_right (by omega)]; simp [h2]
      have e4 : (xs ++ [x])[xs.length] = x := by rw [List.getElem_append_right (Nat.le_refl _)]; simp
      rw [e2, e3, e4]
      refine ⟨⟨hx, OAt.kept keptO_field hu hs34 fun d hd => hg.block d (hlt3 d hd) (fun e => hnew d hd e.symm)⟩, fun b hb' => ⟨Nat.le_trans hbase (hf b hb'), Nat.lt_of_lt_of_le (hlt3 b hb') hs34, ?_⟩⟩
      rcases hat with hat | hat
      · rw [hat]; exact hnew b hb'
      · rw [hat]; intro e; injection e with e; have := hlt3 b hb'; omega
/-- it is an owned list of segments -/
theorem SegBuf.segs {base : Nat} {w : World} {v : Value} {xs : List Seg} {us : List Value} {bss : List (List Nat)} (h : SegBuf base w v xs us bss) (hl : xs.length ≤ 9223372036854775807) :
    ∃ bs, OSegs w v xs bs ∧ bs.Nodup ∧ ∀ b ∈ bs, base ≤ b := by
  obtain ⟨h1, h2, h3, h4, h5⟩ := h
  obtain ⟨hlen, ⟨rfl, h0⟩ | ⟨g, cap, cur, rfl, hg, hs, hcap, hm, hsz, htk⟩⟩ := h3
  · have : xs = [] := List.length_eq_zero_iff.1 h0
    subst this
    exact ⟨[], ⟨by simp, .inl ⟨_, _, rfl, rfl, rfl⟩⟩, by simp, by simp⟩
  · have hglt : g < w.heap.size := by rw [Array.getElem?_eq_some_iff] at hs; exact hs.1
    have hcell : ∀ j (u : Value), j < xs.length * 2 → (segCells xs us)[j]? = some u → w.cell? ⟨g, j, none⟩ = some u := by
      intro j u hj hu
      rw [← htk, List.getElem?_take, if_pos hj] at hu
      simp only [World.cell?, hs]
      rw [← Array.getElem?_toList]
      exact hu
    refine ⟨g :: bss.flatten, ⟨hl, .inr ⟨g, 0, cap, bss, rfl, hglt, rfl, h2, fun i hi hi2 => ?_⟩⟩, ?_, ?_⟩
    · obtain ⟨⟨k0, k1⟩, k2⟩ := h5 i hi (by omega) hi2
      obtain ⟨c1, c2⟩ := segCells_at xs us i h1 hi
      refine ⟨by have := hcell _ _ (by omega) c1; simpa using this, ?_, k0, us[i]'(by omega), by have := hcell _ _ (by omega) c2; simpa using this, k1⟩
      simp [World.frozen?, hs]
    · rw [List.nodup_cons]
      refine ⟨fun hm => ?_, h4⟩
      rw [List.mem_flatten] at hm
      obtain ⟨l, hl', hm⟩ := hm
      obtain ⟨i, hi, rfl⟩ := List.getElem_of_mem hl'
      exact ((h5 i (by omega) (by omega) hi).2 g hm).2.2 (by simp [Value.ownBlock])
    · intro b hb
      rw [List.mem_cons, List.mem_flatten] at hb
      rcases hb with rfl | ⟨l, hl', hm⟩
      · exact hg
      · obtain ⟨i, hi, rfl⟩ := List.getElem_of_mem hl'
        exact ((h5 i (by omega) (by omega) hi).2 b hm).1
end Go.Proofs.YtcphfhfockjljaaDoor.Msg

namespace Go.Proofs.YtcphfhfockjljaaDoor.Msg
set_option linter.unusedVariables false
set_option linter.unusedSimpArgs false

/-! the first piece -/
theorem cutGo_skip (c : UInt8) : ∀ (a b cur : List UInt8), (∀ x ∈ a, x ≠ c) → cutGo c cur (a ++ b) = cutGo c (cur ++ a) b
  | [], b, cur, _ => by simp
  | x :: a, b, cur, h => by
    rw [List.cons_append]
    conv => lhs; unfold cutGo
    rw [if_neg (h x (by simp)), cutGo_skip c a b (cur ++ [x]) (fun y hy => h y (by simp [hy]))]
    simp
theorem cutGo_head (c : UInt8) : ∀ (l cur : List UInt8), ∃ t ts, cutGo c cur l = (cur ++ t) :: ts
  | [], cur => ⟨[], [], by simp [cutGo]⟩
  | x :: l, cur => by
    unfold cutGo
    split
    · exact ⟨[], cutGo c [] l, by simp⟩
    · obtain ⟨t, ts, h⟩ := cutGo_head c l (cur ++ [x])
      exact ⟨x :: t, ts, by rw [h]; simp⟩
theorem cutL_head (c : UInt8) (a b : List UInt8) (h : ∀ x ∈ a, x ≠ c) : ∃ t ts, cutL c (a ++ b) = (a ++ t) :: ts := by
  unfold cutL
  rw [cutGo_skip c a b [] h]
  obtain ⟨t, ts, h2⟩ := cutGo_head c b ([] ++ a)
  exact ⟨t, ts, by rw [h2]; simp⟩
end Go.Proofs.YtcphfhfockjljaaDoor.Msg
