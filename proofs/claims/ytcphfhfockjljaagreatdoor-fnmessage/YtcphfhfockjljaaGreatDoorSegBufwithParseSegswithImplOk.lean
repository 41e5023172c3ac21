import Derived.Test.YtcphfhfockjljaaGreatDoorImplSplitwithImplCutwithParseUnesc
import Derived.Test.YtcphfhfockjljaaGreatDoorFlatKitwithFlatAppwithCutPure
import Derived.Test.YtcphfhfockjljaaGreatDoorMsgOkwithParseByteswithParsePlain
namespace Go.Proofs.YtcphfhfockjljaaGreatDoor.Msg
open Go.ChangeShapes Go.WideShapes Go.ChangeAt Go.RowKit
set_option linter.unusedVariables false
set_option linter.unusedSimpArgs false

/-! a list of segments that is being built: two cells an element -/
def segCells : List Seg → List Value → List Value
  | x :: xs, u :: us => .string x.name :: u :: segCells xs us
  | _, _ => []
theorem segCells_snoc : ∀ (xs : List Seg) (us : List Value) (x : Seg) (u : Value), us.length = xs.length → segCells (xs ++ [x]) (us ++ [u]) = segCells xs us ++ [.string x.name, u]
  | [], [], x, u, _ => rfl
  | y :: xs, v :: us, x, u, h => by
    simp only [List.length_cons, Nat.add_right_cancel_iff] at h
    simp only [List.cons_append, segCells, segCells_snoc xs us x u h]
theorem segCells_at : ∀ (xs : List Seg) (us : List Value) (i : Nat) (h : us.length = xs.length) (hi : i < xs.length), (segCells xs us)[i * 2]? = some (.string xs[i].name) ∧ (segCells xs us)[i * 2 + 1]? = some (us[i]'(by omega))
  | x :: xs, u :: us, 0, _, _ => ⟨rfl, rfl⟩
  | x :: xs, u :: us, i + 1, h, hi => by
    simp only [List.length_cons, Nat.add_right_cancel_iff] at h
    have := segCells_at xs us i h (by simpa using hi)
    have e1 : (i + 1) * 2 = i * 2 + 1 + 1 := by omega
    rw [e1]
    simpa [segCells] using this
theorem own_lt2 {base : Nat} {e : TypeId} {sz : Nat} {w : World} {v : Value} {n : Nat} {vs : List Value} (h : w.ownsRow base e sz v n vs) {b : Nat} (hb : v.ownBlock = some b) : base ≤ b ∧ b < w.heap.size := by
  obtain ⟨hl, ⟨rfl, h0⟩ | ⟨g, cap, cur, rfl, hg, hs, rest⟩⟩ := h
  · simp [Value.ownBlock] at hb
  · simp [Value.ownBlock] at hb
    subst hb
    exact ⟨hg, by rw [Array.getElem?_eq_some_iff] at hs; exact hs.1⟩
theorem own_below2 {base : Nat} {e : TypeId} {sz : Nat} {w w' : World} {v : Value} {n : Nat} {vs : List Value} (h : w.ownsRow base e sz v n vs) (hb : Below w.heap.size w w') : w'.ownsRow base e sz v n vs := by
  obtain ⟨hl, ⟨rfl, h0⟩ | ⟨g, cap, cur, rfl, hg, hs, rest⟩⟩ := h
  · exact ⟨hl, .inl ⟨rfl, h0⟩⟩
  · refine ⟨hl, .inr ⟨g, cap, cur, rfl, hg, ?_, rest⟩⟩
    rw [hb.block g (by rw [Array.getElem?_eq_some_iff] at hs; exact hs.1)]
    exact hs
theorem own_above2 {base : Nat} {e : TypeId} {sz : Nat} {w w' : World} {v : Value} {n : Nat} {vs : List Value} (h : w.ownsRow base e sz v n vs) (hb : ∀ b, base ≤ b → w'.heap[b]? = w.heap[b]?) : w'.ownsRow base e sz v n vs := by
  obtain ⟨hl, ⟨rfl, h0⟩ | ⟨g, cap, cur, rfl, hg, hs, rest⟩⟩ := h
  · exact ⟨hl, .inl ⟨rfl, h0⟩⟩
  · exact ⟨hl, .inr ⟨g, cap, cur, rfl, hg, by rw [hb g hg]; exact hs, rest⟩⟩
theorem own_form2 {base : Nat} {e : TypeId} {sz : Nat} {w : World} {v : Value} {n : Nat} {vs : List Value} (h : w.ownsRow base e sz v n vs) : ∃ a cap, v = .slice a n cap := by
  obtain ⟨hl, ⟨rfl, h0⟩ | ⟨g, cap, cur, rfl, hg, hs, rest⟩⟩ := h
  · exact ⟨none, 0, by rw [h0]⟩
  · exact ⟨_, _, rfl⟩

structure SegBuf (base : Nat) (w : World) (v : Value) (xs : List Seg) (us : List Value) (bss : List (List Nat)) : Prop where
  l1 : us.length = xs.length
  l2 : bss.length = xs.length
  row : w.ownsRow base 41 2 v xs.length (segCells xs us)
  nd : bss.flatten.Nodup
  el : ∀ i (h : i < xs.length) (h1 : i < us.length) (h2 : i < bss.length), (xs[i].name.size ≤ 9223372036854775807 ∧ OFields w us[i] xs[i].fields bss[i]) ∧ ∀ b ∈ bss[i], base ≤ b ∧ b < w.heap.size ∧ v.ownBlock ≠ some b
theorem SegBuf.nil (base : Nat) (w : World) : SegBuf base w (.slice none 0 0) [] [] [] :=
  ⟨rfl, rfl, ⟨rfl, .inl ⟨rfl, rfl⟩⟩, by simp, fun i h => absurd h (by simp)⟩
theorem SegBuf.above {base : Nat} {w w' : World} {v : Value} {xs : List Seg} {us : List Value} {bss : List (List Nat)} (h : SegBuf base w v xs us bss) (hs : w.heap.size ≤ w'.heap.size) (hb : ∀ b, base ≤ b → w'.heap[b]? = w.heap[b]?) : SegBuf base w' v xs us bss :=
  ⟨h.l1, h.l2, own_above2 h.row hb, h.nd, fun i hi g1 g2 => by
    obtain ⟨⟨k0, k1⟩, k2⟩ := h.el i hi g1 g2
    exact ⟨⟨k0, OAt.kept keptO_field k1 hs fun d hd => hb d (k2 d hd).1⟩, fun b hb' => ⟨(k2 b hb').1, Nat.lt_of_lt_of_le (k2 b hb').2.1 hs, (k2 b hb').2.2⟩⟩⟩
theorem SegBuf.kept {base : Nat} {w w' : World} {v : Value} {xs : List Seg} {us : List Value} {bss : List (List Nat)} (h : SegBuf base w v xs us bss) (hb : Below w.heap.size w w') : SegBuf base w' v xs us bss :=
  ⟨h.l1, h.l2, own_below2 h.row hb, h.nd, fun i hi g1 g2 => by
    obtain ⟨⟨k0, k1⟩, k2⟩ := h.el i hi g1 g2
    exact ⟨⟨k0, OAt.kept keptO_field k1 hb.size fun d hd => hb.block d (k2 d hd).2.1⟩, fun b hb' => ⟨(k2 b hb').1, Nat.lt_of_lt_of_le (k2 b hb').2.1 hb.size, (k2 b hb').2.2⟩⟩⟩
theorem SegBuf.push {base : Nat} {w w3 w4 : World} {v v' u : Value} {xs : List Seg} {us : List Value} {bss : List (List Nat)} {x : Seg} {bs : List Nat} (h : SegBuf base w v xs us bss) (hbase : base ≤ w.heap.size)
    (hb : Below w.heap.size w w3) (hx : x.name.size ≤ 9223372036854775807) (hu : OFields w3 u x.fields bs) (hf : ∀ b ∈ bs, w.heap.size ≤ b) (hnd : bs.Nodup)
    {n : Nat} (hn : n = xs.length) (ho : w4.ownsRow base 41 2 v' (n + 1) (segCells xs us ++ [.string x.name, u])) (hg : w3.grownBy w4 v.ownBlock) (hat : v'.ownBlock = v.ownBlock ∨ v'.ownBlock = some w3.heap.size) :
    SegBuf base w4 v' (xs ++ [x]) (us ++ [u]) (bss ++ [bs]) := by
  subst hn
  obtain ⟨h1, h2, h3, h4, h5⟩ := h
  have hown : ∀ b, v.ownBlock = some b → b < w.heap.size := fun b hb' => (own_lt2 h3 hb').2
  have hold : ∀ b, b < w.heap.size → v.ownBlock ≠ some b → w4.heap[b]? = w.heap[b]? := fun b hb1 hb2 => (hg.block b (Nat.lt_of_lt_of_le hb1 hb.size) (fun e => hb2 e.symm)).trans (hb.block b hb1)
  have hnew : ∀ b ∈ bs, v.ownBlock ≠ some b := fun b hb1 e => by have := hown b e; have := hf b hb1; omega
  have hs34 := hg.size
  have hlt3 := OAt.lt ltO_field hu
  refine ⟨by simp [h1], by simp [h2], by rw [segCells_snoc _ _ _ _ h1]; simpa using ho, ?_, fun i hi g1 g2 => ?_⟩
  · rw [List.flatten_append, List.flatten_cons, List.flatten_nil, List.append_nil, List.nodup_append]
    refine ⟨h4, hnd, fun a ha c hc e => ?_⟩
    subst e
    rw [List.mem_flatten] at ha
    obtain ⟨l, hl, ha⟩ := ha
    obtain ⟨i, hi, rfl⟩ := List.getElem_of_mem hl
    have := ((h5 i (by omega) (by omega) hi).2 a ha).2.1
    have := hf a hc
    omega
  · by_cases hlt : i < xs.length
    · obtain ⟨⟨k0, k1⟩, k2⟩ := h5 i hlt (by omega) (by omega)
      have a1 : (us ++ [u])[i] = us[i]'(by omega) := List.getElem_append_left (by omega)
      have a2 : (bss ++ [bs])[i] = bss[i]'(by omega) := List.getElem_append_left (by omega)
      have a3 : (xs ++ [x])[i] = xs[i] := List.getElem_append_left hlt
      rw [a1, a2, a3]
      refine ⟨⟨k0, OAt.kept keptO_field k1 (Nat.le_trans hb.size hs34) fun d hd => hold d (k2 d hd).2.1 (k2 d hd).2.2⟩, fun b hb' => ⟨(k2 b hb').1, by have := (k2 b hb').2.1; have := hb.size; omega, ?_⟩⟩
      rcases hat with hat | hat
      · rw [hat]; exact (k2 b hb').2.2
      · rw [hat]; intro e; injection e with e; have := (k2 b hb').2.1; have := hb.size; omega
    · have e1 : i = xs.length := by simp at hi; omega
      subst e1
      have e2 : (us ++ [u])[xs.length] = u := by rw [List.getElem_append_right (by omega)]; simp [h1]
      have e3 : (bss ++ [bs])[xs.length] = bs := by rw [List.getElem_append_right (by omega)]; simp [h2]
      have e4 : (xs ++ [x])[xs.length] = x := by rw [List.getElem_append_right (Nat.le_refl _)]; simp
      rw [e2, e3, e4]
      refine ⟨⟨hx, OAt.kept keptO_field hu hs34 fun d hd => hg.block d (hlt3 d hd) (fun e => hnew d hd e.symm)⟩, fun b hb' => ⟨Nat.le_trans hbase (hf b hb'), Nat.lt_of_lt_of_le (hlt3 b hb') hs34, ?_⟩⟩
      rcases hat with hat | hat
      · rw [hat]; exact hnew b hb'
      · rw [hat]; intro e; injection e with e; have := hlt3 b hb'; omega
/-- it is an owned list of segments -/
theorem SegBuf.segs {base : Nat} {w : World} {v : Value} {xs : List Seg} {us : List Value} {bss : List (List Nat)} (h : SegBuf base w v xs us bss) (hl : xs.length ≤ 9223372036854775807) :
    ∃ bs, OSegs w v xs bs ∧ bs.Nodup ∧ ∀ b ∈ bs, base ≤ b := by
  obtain ⟨h1, h2, h3, h4, h5⟩ := h
  obtain ⟨hlen, ⟨rfl, h0⟩ | ⟨g, cap, cur, rfl, hg, hs, hcap, hm, hsz, htk⟩⟩ := h3
  · have : xs = [] := List.length_eq_zero_iff.1 h0
    subst this
    exact ⟨[], ⟨by simp, .inl ⟨_, _, rfl, rfl, rfl⟩⟩, by simp, by simp⟩
  · have hglt : g < w.heap.size := by rw [Array.getElem?_eq_some_iff] at hs; exact hs.1
    have hcell : ∀ j (u : Value), j < xs.length * 2 → (segCells xs us)[j]? = some u → w.cell? ⟨g, j, none⟩ = some u := by
      intro j u hj hu
      rw [← htk, List.getElem?_take, if_pos hj] at hu
      simp only [World.cell?, hs]
      rw [← Array.getElem?_toList]
      exact hu
    refine ⟨g :: bss.flatten, ⟨hl, .inr ⟨g, 0, cap, bss, rfl, hglt, rfl, h2, fun i hi hi2 => ?_⟩⟩, ?_, ?_⟩
    · obtain ⟨⟨k0, k1⟩, k2⟩ := h5 i hi (by omega) hi2
      obtain ⟨c1, c2⟩ := segCells_at xs us i h1 hi
      refine ⟨by have := hcell _ _ (by omega) c1; simpa using this, ?_, k0, us[i]'(by omega), by have := hcell _ _ (by omega) c2; simpa using this, k1⟩
      simp [World.frozen?, hs]
    · rw [List.nodup_cons]
      refine ⟨fun hm => ?_, h4⟩
      rw [List.mem_flatten] at hm
      obtain ⟨l, hl', hm⟩ := hm
      obtain ⟨i, hi, rfl⟩ := List.getElem_of_mem hl'
      exact ((h5 i (by omega) (by omega) hi).2 g hm).2.2 (by simp [Value.ownBlock])
    · intro b hb
      rw [List.mem_cons, List.mem_flatten] at hb
      rcases hb with rfl | ⟨l, hl', hm⟩
      · exact hg
      · obtain ⟨i, hi, rfl⟩ := List.getElem_of_mem hl'
        exact ((h5 i (by omega) (by omega) hi).2 b hm).1
end Go.Proofs.YtcphfhfockjljaaGreatDoor.Msg

namespace Go.Proofs.YtcphfhfockjljaaGreatDoor.Msg
open Go.ChangeShapes Go.WideShapes Go.ChangeAt Go.RowKit
set_option linter.unusedVariables false
set_option linter.unusedSimpArgs false

/-! Parse, said over lists -/
def fieldsT (d : ByteArray) (hd : d.size = 5) (l : List UInt8) : List Field := (fieldsL d[0] d[1] d[2] l).map fieldT
def restL (i : Nat) (p : List UInt8) : List UInt8 := if i = 0 then p.drop 8 else p.drop 3
/-- one piece: a segment, or the code -/
def segL (d : ByteArray) (hd : d.size = 5) (i : Nat) (p : List UInt8) : Except Nat Seg :=
  if p.length < 3 ∨ nameB (txt (p.take 3)) = false ∨ (0 < i ∧ p.take 3 = [77, 83, 72]) then .error 4
  else if (restL i p).head?.any (fun c => c != d[0]) = true then .error 4
  else if 250 ≤ i ∨ longB (fieldsT d hd (restL i p)) = true then .error 5
  else match allO (allO (allO (plainO d hd))) (fieldsT d hd (restL i p)) with
    | none => .error 6
    | some g => .ok ⟨txt (p.take 3), g⟩
def segsGo (d : ByteArray) (hd : d.size = 5) : Nat → List (List UInt8) → Except Nat (List Seg)
  | _, [] => .ok []
  | i, p :: ps => match segL d hd i p with
    | .error c => .error c
    | .ok x => (segsGo d hd (i + 1) ps).map (x :: ·)
theorem segs_step {d : ByteArray} {hd : d.size = 5} {ps : List (List UInt8)} {k : Nat} (hk : k < ps.length) {acc : List Seg} {x : Seg} (h : segsGo d hd 0 ps = (segsGo d hd k (ps.drop k)).map (acc ++ ·)) (hx : segL d hd k ps[k] = .ok x) :
    segsGo d hd 0 ps = (segsGo d hd (k + 1) (ps.drop (k + 1))).map ((acc ++ [x]) ++ ·) := by
  rw [h, List.drop_eq_getElem_cons hk]
  have e1 : segsGo d hd k (ps[k] :: ps.drop (k + 1)) = (segsGo d hd (k + 1) (ps.drop (k + 1))).map (x :: ·) := by
    conv => lhs; unfold segsGo
    rw [hx]
  rw [e1]
  cases segsGo d hd (k + 1) (ps.drop (k + 1)) with
  | error c => rfl
  | ok ys => simp [Except.map]
theorem segs_fail {d : ByteArray} {hd : d.size = 5} {ps : List (List UInt8)} {k c : Nat} (hk : k < ps.length) {acc : List Seg} (h : segsGo d hd 0 ps = (segsGo d hd k (ps.drop k)).map (acc ++ ·)) (hx : segL d hd k ps[k] = .error c) : segsGo d hd 0 ps = .error c := by
  rw [h, List.drop_eq_getElem_cons hk]
  have e1 : segsGo d hd k (ps[k] :: ps.drop (k + 1)) = .error c := by
    conv => lhs; unfold segsGo
    rw [hx]
  rw [e1]
  rfl
theorem segs_done {d : ByteArray} {hd : d.size = 5} {ps : List (List UInt8)} {k : Nat} (hk : ps.length ≤ k) {acc : List Seg} (h : segsGo d hd 0 ps = (segsGo d hd k (ps.drop k)).map (acc ++ ·)) : segsGo d hd 0 ps = .ok acc := by
  rw [h, List.drop_eq_nil_of_le hk]
  simp [segsGo, Except.map]
/-- the pieces without an empty one at the end -/
def piecesL (l : List UInt8) : List (List UInt8) := if (cutL 13 l).getLast? = some [] then (cutL 13 l).dropLast else cutL 13 l
def headB (s : ByteArray) : Bool := decide (8 ≤ s.size) && ((s.extract 0 3).toList == [77, 83, 72] && (delimsB (s.extract 3 8) && (decide (s.size ≤ 8) || (s.data.toList[8]? == some 13 || s.data.toList[8]? == s.data.toList[3]?))))
theorem head_size {s : ByteArray} (h : headB s = true) : (s.extract 3 8).size = 5 := by
  unfold headB at h
  rw [Bool.and_eq_true] at h
  have : 8 ≤ s.size := by simpa using h.1
  rw [ByteArray.size_extract]
  omega
def parseL (s : ByteArray) : Except Nat (List Seg) :=
  if s.size = 0 ∨ 40000 < s.size then .error 1
  else if bytesB s = false then .error 2
  else if h : headB s = true then segsGo (s.extract 3 8) (head_size h) 0 (piecesL s.data.toList)
  else .error 3

/-! sizes -/
theorem trimE_mem {α : Type} {p : α → Bool} {xs : List α} {x : α} (h : x ∈ trimE p xs) : x ∈ xs := List.mem_of_mem_take h
theorem compsL_sz (c1 : UInt8) (l : List UInt8) : ∀ c ∈ compsL c1 l, c.length ≤ l.length := fun c h => cutL_sz c1 l c (trimE_mem h)
theorem repsL_sz (c1 c2 : UInt8) (l : List UInt8) : ∀ r ∈ repsL c1 c2 l, ∀ c ∈ r, c.length ≤ l.length := fun r hr c hc => by
  have := trimE_mem hr
  rw [List.mem_map] at this
  obtain ⟨p, hp, rfl⟩ := this
  exact Nat.le_trans (compsL_sz c1 p c hc) (cutL_sz c2 l p hp)
theorem fieldsL_sz (c0 c1 c2 : UInt8) (l : List UInt8) : ∀ f ∈ fieldsL c0 c1 c2 l, ∀ r ∈ f, ∀ c ∈ r, c.length ≤ l.length := fun f hf r hr c hc => by
  cases l with
  | nil => cases hf
  | cons x l =>
    have := trimE_mem hf
    rw [List.mem_map] at this
    obtain ⟨p, hp, rfl⟩ := this
    have h1 := repsL_sz c1 c2 p r hr c hc
    have h2 := cutL_sz c0 l p hp
    simp only [List.length_cons]
    omega
theorem fieldsT_sz (d : ByteArray) (hd : d.size = 5) (l : List UInt8) (hl : l.length ≤ 1048576) : ∀ f ∈ fieldsT d hd l, ∀ r ∈ f, ∀ c ∈ r, c.size ≤ 1048576 := fun f hf r hr c hc => by
  unfold fieldsT at hf
  rw [List.mem_map] at hf
  obtain ⟨f', hf', rfl⟩ := hf
  unfold fieldT at hr
  rw [List.mem_map] at hr
  obtain ⟨r', hr', rfl⟩ := hr
  unfold repT at hc
  rw [List.mem_map] at hc
  obtain ⟨c', hc', rfl⟩ := hc
  rw [txt_size]
  have := fieldsL_sz _ _ _ l f' hf' r' hr' c' hc'
  omega
end Go.Proofs.YtcphfhfockjljaaGreatDoor.Msg

namespace Go.Proofs.YtcphfhfockjljaaGreatDoor.Msg
open Go.ChangeShapes Go.WideShapes Go.ChangeAt Go.RowKit
set_option linter.unusedVariables false
set_option linter.unusedSimpArgs false

set_option maxHeartbeats 400000 in
theorem isCapital_any (c : UInt8) (w : World) :
    Calls Tryz.prog 75 #[.int .u8 (c.toNat : Int)] w fun e w' => e = .returned (.bool (capB c)) ∧ w' = w := by
  have HC : Hid (capB c = (decide (65 ≤ c.toNat) && decide (c.toNat ≤ 90))) := rfl
  by_cases h1 : (65 : Int) ≤ (c.toNat : Int)
  · by_cases h2 : (c.toNat : Int) ≤ 90
    · go_enter Tryz.func75, Tryz.ntmps75
      go_wp2
      go_ret
      exact ⟨ret_bool (by rw [HC.out, decide_eq_true (by omega), decide_eq_true (by omega)]; rfl), rfl⟩
    · go_enter Tryz.func75, Tryz.ntmps75
      go_wp2
      go_ret
      exact ⟨ret_bool (by rw [HC.out, decide_eq_false (p := c.toNat ≤ 90) (by omega), Bool.and_false]), rfl⟩
  · go_enter Tryz.func75, Tryz.ntmps75
    go_wp2
    go_ret
    exact ⟨ret_bool (by rw [HC.out, decide_eq_false (p := 65 ≤ c.toNat) (by omega)]; rfl), rfl⟩

set_option maxHeartbeats 400000 in
theorem isDigit_any (c : UInt8) (w : World) :
    Calls Tryz.prog 76 #[.int .u8 (c.toNat : Int)] w fun e w' => e = .returned (.bool (digB c)) ∧ w' = w := by
  have HC : Hid (digB c = (decide (48 ≤ c.toNat) && decide (c.toNat ≤ 57))) := rfl
  by_cases h1 : (48 : Int) ≤ (c.toNat : Int)
  · by_cases h2 : (c.toNat : Int) ≤ 57
    · go_enter Tryz.func76, Tryz.ntmps76
      go_wp2
      go_ret
      exact ⟨ret_bool (by rw [HC.out, decide_eq_true (by omega), decide_eq_true (by omega)]; rfl), rfl⟩
    · go_enter Tryz.func76, Tryz.ntmps76
      go_wp2
      go_ret
      exact ⟨ret_bool (by rw [HC.out, decide_eq_false (p := c.toNat ≤ 57) (by omega), Bool.and_false]), rfl⟩
  · go_enter Tryz.func76, Tryz.ntmps76
    go_wp2
    go_ret
    exact ⟨ret_bool (by rw [HC.out, decide_eq_false (p := 48 ≤ c.toNat) (by omega)]; rfl), rfl⟩

set_option maxHeartbeats 400000 in
theorem isPlain_any (s : ByteArray) (w : World) (hs : s.size ≤ 9223372036854775807) :
    Calls Tryz.prog 44 #[.string s] w fun e w' => e = .returned (.bool (plainB s)) ∧ w' = w := by
  go_enter Tryz.func44, Tryz.ntmps44
  go_wp2
  go_loop [6] (fun i => ∃ k : Nat, k ≤ s.size ∧ i = .int .i64 k ∧ (s.data.toList.take k).all plainC = true) (fun i => s.size - (intOf i).toNat)
  case atStart => exact ⟨0, Nat.zero_le _, rfl, rfl⟩
  case round =>
    obtain ⟨k, hk, rfl, hall⟩ := hrel
    have HA := hide hall
    clear hall
    have hsz : s.data.toList.length = s.size := by simp
    by_cases hlt : k < s.size
    · have HK : Hid (∀ h, s.data.toList[k]'h = s[k]) := fun h => rfl
      have HP : Hid (plainC s[k] = (decide (32 ≤ s[k].toNat) && decide (s[k].toNat ≤ 126))) := rfl
      by_cases h1 : (s[k].toNat : Int) < 32
      · have HF : Hid (plainC s[k] = false) := by rw [HP.out, decide_eq_false (by omega)]; rfl
        have HZ := hide (all_fail (p := plainC) (xs := s.data.toList) (k := k) (by omega) (by rw [HK.out]; exact HF.out))
        clear hsz
        go_wp2
        go_ret
        exact ⟨ret_bool HZ.out.symm, rfl⟩
      · by_cases h2 : (126 : Int) < (s[k].toNat : Int)
        · have HF : Hid (plainC s[k] = false) := by rw [HP.out, decide_eq_false (p := s[k].toNat ≤ 126) (by omega), Bool.and_false]; trivial
          have HZ := hide (all_fail (p := plainC) (xs := s.data.toList) (k := k) (by omega) (by rw [HK.out]; exact HF.out))
          clear hsz
          go_wp2
          go_ret
          exact ⟨ret_bool HZ.out.symm, rfl⟩
        · have HF : Hid (plainC s[k] = true) := by rw [HP.out, decide_eq_true (by omega), decide_eq_true (by omega)]; rfl
          have HZ := hide (all_step (p := plainC) (xs := s.data.toList) (k := k) (by omega) HA.out (by rw [HK.out]; exact HF.out))
          clear hsz
          go_wp2
          go_round
          case rel => exact ⟨k + 1, by omega, by go_num, HZ.out⟩
          case measure => simp [intOf]; omega
    · have HZ := hide (all_done (by omega) HA.out)
      clear hsz
      go_wp2
      go_ret
      exact ⟨ret_bool HZ.out.symm, rfl⟩

set_option maxHeartbeats 1000000 in
theorem isSegmentName_any (s : ByteArray) (w : World) (hs : s.size ≤ 9223372036854775807) :
    Calls Tryz.prog 60 #[.string s] w fun e w' => e = .returned (.bool (nameB s)) ∧ w' = w := by
  by_cases h3 : s.size = 3
  · have HN := hide (name_yes s h3)
    have hne : ((s.size : Int) != 3) = false := by simp; omega
    have h30 : (0 : Int) < (s.size : Int) := by omega
    have hne2 : (s.size : Int) = 3 := by omega
    cases hc : capB (s[0]'(by omega))
    · have HC := hide hc
      clear hc
      go_enter Tryz.func60, Tryz.ntmps60
      go_wp2_with fail
      refine (isCapital_any (s[0]'(by omega)) _).mono ?_
      rintro e w' ⟨rfl, rfl⟩
      rw [HC.out]
      go_wp2_with fail
      go_ret
      exact ⟨ret_bool (by rw [HN.out, HC.out]; rfl), rfl⟩
    · have HC := hide hc
      clear hc
      go_enter Tryz.func60, Tryz.ntmps60
      go_wp2_with fail
      refine (isCapital_any (s[0]'(by omega)) _).mono ?_
      rintro e w' ⟨rfl, rfl⟩
      rw [HC.out]
      go_wp2_with fail
      go_loop [15] (fun i => ∃ k : Nat, k ≤ 3 ∧ i = .int .i64 k ∧ ∀ j (h : j < s.size), j < k → tailB s[j] = true) (fun i => 3 - (intOf i).toNat)
      case atStart => exact ⟨0, by omega, rfl, fun j _ h2 => absurd h2 (by omega)⟩
      case round =>
        obtain ⟨k, hk, rfl, hall⟩ := hrel
        have HA := hide hall
        clear hall
        by_cases hlt : k < 3
        · have hks : k < s.size := by omega
          have hks' : (k : Int) < (s.size : Int) := by omega
          have HT : Hid (tailB s[k] = (capB s[k] || digB s[k])) := rfl
          have HBad : Hid (tailB s[k] = false → nameB s = false) := fun hf => by
            rw [HN.out]
            rcases (by omega : k = 0 ∨ k = 1 ∨ k = 2) with rfl | rfl | rfl
            · rw [(Bool.or_eq_false_iff.1 hf).1]; rfl
            · change (_ && (tailB s[1] && tailB _)) = false
              rw [hf]; simp
            · change (_ && (tailB _ && tailB s[2])) = false
              rw [hf]; simp
          have HGood : Hid (tailB s[k] = true → ∀ j (h : j < s.size), j < k + 1 → tailB s[j] = true) := fun ht j h h2 => by
            by_cases e : j = k
            · subst e; exact ht
            · exact HA.out j h (by omega)
          cases hcap : capB s[k]
          · have HCap := hide hcap
            clear hcap
            cases hdig : digB s[k]
            · have HDig := hide hdig
              clear hdig
              go_wp2_with fail
              refine (isCapital_any s[k] _).mono ?_
              rintro e w' ⟨rfl, rfl⟩
              rw [HCap.out]
              go_wp2_with fail
              refine (isDigit_any s[k] _).mono ?_
              rintro e w' ⟨rfl, rfl⟩
              rw [HDig.out]
              go_wp2_with fail
              go_ret
              exact ⟨ret_bool (HBad.out (by rw [HT.out, HCap.out, HDig.out]; rfl)).symm, rfl⟩
            · have HDig := hide hdig
              clear hdig
              go_wp2_with fail
              refine (isCapital_any s[k] _).mono ?_
              rintro e w' ⟨rfl, rfl⟩
              rw [HCap.out]
              go_wp2_with fail
              refine (isDigit_any s[k] _).mono ?_
              rintro e w' ⟨rfl, rfl⟩
              rw [HDig.out]
              go_wp2_with fail
              go_round
              case rel => exact ⟨k + 1, by omega, by go_num, HGood.out (by rw [HT.out, HCap.out, HDig.out]; rfl)⟩
              case measure => simp [intOf]; omega
          · have HCap := hide hcap
            clear hcap
            go_wp2_with fail
            refine (isCapital_any s[k] _).mono ?_
            rintro e w' ⟨rfl, rfl⟩
            rw [HCap.out]
            go_wp2_with fail
            go_round
            case rel => exact ⟨k + 1, by omega, by go_num, HGood.out (by rw [HT.out, HCap.out]; rfl)⟩
            case measure => simp [intOf]; omega
        · obtain rfl : k = 3 := by omega
          have HFin : Hid (nameB s = true) := by
            rw [HN.out, HC.out]
            change (true && (tailB _ && tailB _)) = true
            rw [HA.out 1 (by omega) (by omega), HA.out 2 (by omega) (by omega)]
            rfl
          go_wp2_with fail
          go_ret
          exact ⟨ret_bool HFin.out.symm, rfl⟩
  · have HN := hide (name_no s h3)
    have hne : ((s.size : Int) != 3) = true := by simp; omega
    have hne2 : ¬ (s.size : Int) = 3 := by omega
    go_enter Tryz.func60, Tryz.ntmps60
    go_wp2_with fail
    go_ret
    exact ⟨ret_bool HN.out.symm, rfl⟩
end Go.Proofs.YtcphfhfockjljaaGreatDoor.Msg
