import Derived.Test.YtjpdgcodjnnljaaBufZero
import Derived.Lib.ConvBytes
namespace Go.Proofs.Ytjpdgcodjnnljaa.Msg
open Go.ChangeShapes Go.WideShapes Go.ChangeAt Go.RowKit
set_option linter.unusedVariables false
set_option linter.unusedSimpArgs false

/-- no cell of the row is frozen -/
def Free (fz : Nat × Nat) (n : Nat) : Prop := fz.2 = 0 ∨ n ≤ fz.1
theorem Free.at {w : World} {g o n : Nat} {cur : Array Value} {t : TypeId} {fz : Nat × Nat} (hg : w.heap[g]? = some (.cells cur t fz)) (hf : Free fz n) (ho : o < n) : w.frozen? ⟨g, o, none⟩ = false := by
  obtain ⟨lo, hi⟩ := fz
  simp only [World.frozen?, hg]
  rcases hf with h | h
  · simp only at h; subst h; simp
  · simp only at h
    have : ¬ lo ≤ o := by omega
    simp [this]
/-- stores into such a row -/
theorem store_row {P : Program} (g o : Nat) (t : TypeId) (fz : Nat × Nat) : ∀ (vs : List Value) (i : Nat) (cur : Array Value) (w : World), w.heap[g]? = some (.cells cur t fz) → Free fz cur.size → o + i + vs.length ≤ cur.size → (∀ v ∈ vs, v.oneCell' = true) →
    ∃ cur', (storeCells ⟨g, o, none⟩ vs i).run P w = .ok () (w.setRow g cur') ∧ cur'.toList = cur.toList.take (o + i) ++ vs ++ cur.toList.drop (o + i + vs.length)
  | [], i, cur, w, hg, _, _, _ => ⟨cur, by rw [setRow_self w g cur t fz hg]; rfl, by simp⟩
  | v :: rest, i, cur, w, hg, hf, hl, h1 => by
    have hi : o + i < cur.size := by simp at hl; omega
    have hst : (store ((⟨g, o, none⟩ : Addr).add i) v).run P w = .ok () (w.setRow g (cur.setIfInBounds (o + i) v)) := by
      rw [show (⟨g, o, none⟩ : Addr).add i = ⟨g, o + i, none⟩ by unfold Addr.add; split <;> simp_all, run_store P w _ v _ (h1 v (by simp)), show w.cell? ⟨g, o + i, none⟩ = some cur[o + i] by simp [World.cell?, hg, hi]]
      simp [Free.at hg hf hi, setCell_eq_setRow w g (o + i) cur t fz v hg]
    obtain ⟨cur', h2, h3⟩ := store_row (P := P) g o t fz rest (i + 1) (cur.setIfInBounds (o + i) v) (w.setRow g (cur.setIfInBounds (o + i) v)) (setRow_heap w g cur _ t _ hg) (by simpa using hf) (by simp at hl ⊢; omega) (fun x hx => h1 x (by simp [hx]))
    refine ⟨cur', ?_, ?_⟩
    · simp only [storeCells, Sem.run_bind, hst, Result.andThen_ok, h2, setRow_setRow]
    · rw [h3]
      have e := list_seg_step cur.toList (o + i) v rest (by simp at hl ⊢; omega)
      simpa [Array.toList_setIfInBounds, Nat.add_assoc] using e

/-- a slice of bytes that the call owns, be its row made of a text or not -/
def BufB (base : Nat) (w : World) (v : Value) (bs : List UInt8) : Prop :=
  ∃ g cap cur fz, v = .slice (some ⟨g, 0, none⟩) bs.length cap ∧ base ≤ g ∧ w.heap[g]? = some (.cells cur 5 fz) ∧ Free fz cur.size ∧ bs.length ≤ cap ∧ cap ≤ maxLen ∧ cur.size = cap ∧ cur.toList.take bs.length = u8s bs
theorem BufB.of_text (w : World) (s : ByteArray) (hs : s.size ≤ 9223372036854775807) : BufB w.heap.size (Lib.bytesWorld w 5 s) (.slice (some ⟨w.heap.size, 0, none⟩) s.size (grownCap w s.size 0 5)) s.data.toList := by
  have hge := grownCap_ge w s.size 0 5
  have hcm : grownCap w s.size 0 5 ≤ maxLen := grownCap_le_maxLen w s.size 0 5 (by unfold maxLen; omega)
  have hsz : (Lib.bytesCells w 5 s).size = grownCap w s.size 0 5 := by
    simp only [Lib.bytesCells, Array.size_append, Array.size_map, Array.size_replicate]
    have : s.data.size = s.size := rfl
    omega
  refine ⟨w.heap.size, _, Lib.bytesCells w 5 s, _, by simp, Nat.le_refl _, Lib.bytesWorld_at_new w 5 s, .inr (Nat.le_refl _), by simpa using hge, hcm, hsz, ?_⟩
  have h1 : s.data.toList.length = s.size := by simp
  rw [h1]
  simp only [Lib.bytesCells, Array.toList_append, Array.toList_map]
  rw [List.take_append_of_le_length (by simp), List.take_of_length_le (by simp)]
  rfl
theorem bytesWorld_below (w : World) (s : ByteArray) : Below w.heap.size w (Lib.bytesWorld w 5 s) :=
  ⟨rfl, rfl, rfl, by rw [Lib.bytesWorld_size]; omega, fun k hk => Lib.bytesWorld_at_old w 5 s k hk⟩
theorem BufB.below {base : Nat} {w w' : World} {v : Value} {bs : List UInt8} (h : BufB base w v bs) (hb : Below w.heap.size w w') : BufB base w' v bs := by
  obtain ⟨g, cap, cur, fz, rfl, hg, hs, rest⟩ := h
  exact ⟨g, cap, cur, fz, rfl, hg, by rw [hb.block g (by rw [Array.getElem?_eq_some_iff] at hs; exact hs.1)]; exact hs, rest⟩
/-- the text of its first n bytes -/
theorem BufB.string {base : Nat} {w : World} {v : Value} {bs : List UInt8} (h : BufB base w v bs) {n : Nat} (hn : n ≤ bs.length) :
    ∃ g cap, v = .slice (some ⟨g, 0, none⟩) bs.length cap ∧ bs.length ≤ cap ∧ cap ≤ 9223372036854775807 ∧ Sem.run Try.prog (convert 22 9 (.slice (some ⟨g, 0, none⟩) n cap)) w = .ok (.string ⟨(bs.take n).toArray⟩) w := by
  obtain ⟨g, cap, cur, fz, rfl, hg, hs, hf, hc, hm, hsz, ht⟩ := h
  refine ⟨g, cap, rfl, hc, by unfold maxLen at hm; omega, ?_⟩
  rw [run_convert_bytes_arg w 22 5 Try.underlying22 Try.underlying5 g 0 n cap ((bs.take n).map fun c => (c.toNat : Int)) (by simp; omega) ?_ 9 Try.underlying9]
  · congr 2
    unfold strOfNums
    congr 2
    rw [List.map_map]
    conv => rhs; rw [← List.map_id (bs.take n)]
    apply List.map_congr_left
    intro c _
    simp
  · intro i hi
    have hin : i < n := by simpa [Nat.min_eq_left hn] using hi
    have h2 : cur.toList[i]? = some (.int .u8 (((bs.take n).map fun c => (c.toNat : Int))[i]'(by simp; omega))) := by
      have h3 : (cur.toList.take bs.length)[i]? = some (.int .u8 ((bs[i]'(by omega)).toNat : Int)) := by rw [ht]; simp [u8s, show i < bs.length by omega]
      rw [List.getElem?_take, if_pos (by omega)] at h3
      rw [h3]
      simp
    simp only [World.cell?, hs, Nat.zero_add]
    rw [← Array.getElem?_toList, h2]
    simp [List.getElem?_take, hin, show i < bs.length by omega]

theorem add_none' (g o j : Nat) : (⟨g, o, none⟩ : Addr).add j = ⟨g, o + j, none⟩ := by
  unfold Addr.add
  split <;> simp_all
/-- bytes of a text behind it -/
theorem append_strB {P : Program} (w : World) (base : Nat) (t u ty : TypeId) (i : TypeInfo) (ht : P.underlying t = some (.slice 5)) (hu : P.underlying u = some .string) (hi : P.info? 5 = some i) (hz : i.zero = some (.int .u8 0))
    (hsize : i.size = 1) (hby : i.bytes = 1) (v : Value) (bs : List UInt8) (hown : BufB base w v bs) (s : ByteArray) (hl : bs.length + s.size ≤ 70368744177664) (hbase : base ≤ w.heap.size) :
    ∃ v' w', (Builtin.append_ #[t, u] ty #[v, .string s]).run P w = .ok v' w' ∧ BufB base w' v' (bs ++ s.data.toList) ∧ Below base w w' := by
  obtain ⟨g, cap, cur, fz, rfl, hg, hs, hf, hc, hm, hsz, htk⟩ := hown
  have hgl : g < w.heap.size := by rw [Array.getElem?_eq_some_iff] at hs; exact hs.1
  have hd : s.data.toList.length = s.size := by simp
  have hlen : (bs ++ s.data.toList).length = bs.length + s.size := by rw [List.length_append, hd]
  have hu8 : u8s (bs ++ s.data.toList) = u8s bs ++ Lib.strCells s := by simp [u8s, Lib.strCells]
  have hul : (u8s bs).length = bs.length := by simp [u8s]
  by_cases hroom : bs.length + s.size ≤ cap
  · obtain ⟨cur', h1, h2⟩ := store_row (P := P) g bs.length 5 fz (Lib.strCells s) 0 cur w hs hf (by rw [Lib.strCells_length]; omega) (Lib.strCells_oneCell s)
    have hcur : cur'.size = cap := by
      have := congrArg List.length h2
      simp only [List.length_append, List.length_take, List.length_drop, Lib.strCells_length, Array.length_toList] at this
      omega
    refine ⟨.slice (some ⟨g, 0, none⟩) (bs.length + s.size) cap, w.setRow g cur', ?_, ⟨g, cap, cur', fz, by rw [hlen], hg, setRow_heap w g cur cur' 5 fz hs, by rw [hcur, ← hsz]; exact hf, by omega, hm, hcur, ?_⟩, ?_⟩
    · have hfc := Lib.run_firstCells_string (P := P) w 1 s
      simp [Builtin.append_, run_underlying ht, run_underlying hu, sizeOf, typeInfo, hi, hsize, Builtin.lenOf, hroom, hfc, Addr.add_lit, h1]
    · rw [h2, hlen, Nat.add_zero, List.append_assoc, htk, hu8, ← List.append_assoc, List.take_append_of_le_length (by rw [List.length_append, hul, Lib.strCells_length]; omega), List.take_of_length_le (by rw [List.length_append, hul, Lib.strCells_length]; omega)]
    · exact ⟨rfl, rfl, rfl, by simp [World.setRow], fun k hk => setRow_other w g k cur' (by omega)⟩
  · have hcells : ∀ j x, (u8s bs)[j]? = some x → w.cell? ((⟨g, 0, none⟩ : Addr).add j) = some x := fun j x hx => by
      rw [← htk] at hx
      rw [List.getElem?_take] at hx
      split at hx
      · rw [add_none']
        simp only [World.cell?, hs, Nat.zero_add]
        rw [← Array.getElem?_toList]
        simpa using hx
      · cases hx
    have hr := Lib.run_append_grow_string (P := P) w t u ty 5 i (.int .u8 0) ht hu hi hz ⟨g, 0, none⟩ bs.length cap (u8s bs) (by rw [hsize, hul]; omega) hcells s (by omega) (by omega) (by rw [hby]; exact growslice_fits (by omega) (by omega))
    refine ⟨_, _, hr, ?_, ?_⟩
    · have hge := grownCap_ge w (bs.length + s.size) cap 5
      have hcm : grownCap w (bs.length + s.size) cap 5 ≤ maxLen := grownCap_le_maxLen w (bs.length + s.size) cap 5 (by unfold maxLen; omega)
      refine ⟨w.heap.size, _, _, (0, 0), by rw [hlen], hbase, heap_alloc_new w.drew _, .inl rfl, by omega, hcm, ?_, ?_⟩
      · have hz1 : (Value.int IntKind.u8 0).cells.size = 1 := rfl
        simp only [Array.size_append, List.size_toArray, size_zeroCells, hz1, hul, Lib.strCells_length]
        omega
      · rw [hlen, hu8]
        simp only [Array.toList_append]
        rw [List.take_append_of_le_length (by simp [hul, Lib.strCells_length]), List.take_of_length_le (by simp [hul, Lib.strCells_length])]
    · exact ((Below.refl base w).drew).alloc (by simpa using hbase) _
/-- at the operation -/
theorem wpList_strB {P : Program} (w : World) {ops : Array Oper} {rest : List Oper} {o : Oper} {a : Act} {Q : Exit → Act → World → Prop} (hgd : o.guard = none) (sl x : Operand) (t u : TypeId)
    (ho : o.op = .call { callee := .builtin .append, args := #[sl, x], argTypes := #[t, u] })
    (base : Nat) (i : TypeInfo) (ht : P.underlying t = some (.slice 5)) (hu : P.underlying u = some .string) (hi : P.info? 5 = some i) (hz : i.zero = some (.int .u8 0)) (hsize : i.size = 1) (hby : i.bytes = 1)
    (v : Value) (bs : List UInt8) (hs : a.eval sl = v) (hown : BufB base w v bs) (s : ByteArray) (hx : a.eval x = .string s) (hl : bs.length + s.size ≤ 70368744177664) (hbase : base ≤ w.heap.size)
    (h : ∀ v' w', BufB base w' v' (bs ++ s.data.toList) → Below base w w' → wpList P ops Q rest (a.put o.dst v') w') :
    wpList P ops Q (o :: rest) a w := by
  refine wpList_plain hgd fun K hK => ?_
  obtain ⟨v', w', hr, h2, h3⟩ := append_strB (P := P) w base t u o.type i ht hu hi hz hsize hby v bs hown s hl hbase
  unfold Oper.wp execOp
  simp only [ho, resolve, invoke, builtin, Sem.run_bind, Sem.run_pure, Result.andThen_ok, List.map_toArray, List.map_cons, List.map_nil, hs, hx, hr]
  exact hK _ _ (h v' w' h2 h3)
theorem wpList_zerosB {P : Program} (w : World) {ops : Array Oper} {rest : List Oper} {o : Oper} {a : Act} {Q : Exit → Act → World → Prop} (hgd : o.guard = none) (sl x : Operand) (t u st : TypeId)
    (ho : o.op = .call { callee := .builtin .append, args := #[sl, x], argTypes := #[t, u] })
    (base : Nat) (i : TypeInfo) (ht : P.underlying t = some (.slice 5)) (hu : P.underlying u = some (.int .i64)) (hst : P.underlying st = some .string) (hi : P.info? 5 = some i) (hz : i.zero = some (.int .u8 0)) (hsize : i.size = 1) (hby : i.bytes = 1)
    (v : Value) (bs : List UInt8) (hs : a.eval sl = v) (hown : BufB base w v bs) (n : Nat) (hx : a.eval x = .int .i64 (n : Int)) (hl : bs.length + n ≤ 70368744177664) (hbase : base ≤ w.heap.size)
    (h : ∀ v' w', BufB base w' v' (bs ++ List.replicate n 0) → Below base w w' → wpList P ops Q rest (a.put o.dst v') w') :
    wpList P ops Q (o :: rest) a w := by
  refine wpList_plain hgd fun K hK => ?_
  obtain ⟨v', w', hr, h2, h3⟩ := append_strB (P := P) w base t st o.type i ht hst hi hz hsize hby v bs hown (zeroB n) (by rw [zeroB_size]; exact hl) hbase
  rw [zeroB_data] at h2
  obtain ⟨g, cap, cur, fz, rfl, _⟩ := hown
  rw [← append_zeros (P := P) w t u st o.type 5 i ht hu hst hi hz hsize hby (some ⟨g, 0, none⟩) bs.length cap n (by omega)] at hr
  unfold Oper.wp execOp
  simp only [ho, resolve, invoke, builtin, Sem.run_bind, Sem.run_pure, Result.andThen_ok, List.map_toArray, List.map_cons, List.map_nil, hs, hx, hr]
  exact hK _ _ (h v' w' h2 h3)
/-- one byte, out of a row of its own -/
theorem append_one {P : Program} (w : World) (t st ty : TypeId) (i : TypeInfo) (ht : P.underlying t = some (.slice 5)) (hst : P.underlying st = some .string) (hi : P.info? 5 = some i) (hz : i.zero = some (.int .u8 0))
    (hsize : i.size = 1) (hby : i.bytes = 1) (b : Option Addr) (sLen sCap : Nat) (ad : Addr) (c : UInt8) (hc : w.cell? ad = some (.int .u8 c.toNat)) (hn : sLen + 1 ≤ 140737488355328) (olds : Array Value) (hold : (Builtin.firstCells 1 sLen (.slice b sLen sCap)).run P w.drew = .ok olds w.drew) :
    (Builtin.append_ #[t, t] ty #[.slice b sLen sCap, .slice (some ad) 1 1]).run P w = (Builtin.append_ #[t, st] ty #[.slice b sLen sCap, .string ⟨#[c]⟩]).run P w := by
  have hs1 : (⟨#[c]⟩ : ByteArray).size = 1 := rfl
  have h4 : ¬ (9223372036854775807 : Int) < (sLen : Int) + 1 := by omega
  have hf : ∀ W : World, (Builtin.firstCells 1 1 (.string ⟨#[c]⟩)).run P W = .ok #[.int .u8 c.toNat] W := fun W => by
    have := Lib.run_firstCells_string (P := P) W 1 ⟨#[c]⟩
    rw [hs1] at this
    exact this
  have hg : ∀ W : World, W.cell? ad = some (.int .u8 c.toNat) → (Builtin.firstCells 1 1 (.slice (some ad) 1 1)).run P W = .ok #[.int .u8 c.toNat] W := fun W hW => by
    have := run_firstCells_some (P := P) W 1 1 ad 1 1 [.int .u8 c.toNat] rfl (fun j v hj => by
      cases j with
      | zero => simp at hj; subst hj; simpa [Addr.add] using hW
      | succ j => simp at hj)
    exact this
  by_cases hroom : sLen + 1 ≤ sCap
  · simp [Builtin.append_, run_underlying ht, run_underlying hst, sizeOf, typeInfo, hi, hsize, hby, Builtin.lenOf, hs1, zeroValue, hz, hroom, hf, hg w hc]
  · have h5 : ¬ (281474976710656 < Builtin.nextslicecap (sLen + 1) sCap) := by
      have := growslice_fits (need := sLen + 1) (old := sCap) (bytes := 1) (by omega) (by omega)
      omega
    have hgd := hg w.drew (by simpa using hc)
    simp [Builtin.append_, run_underlying ht, run_underlying hst, sizeOf, typeInfo, hi, hsize, hby, Builtin.lenOf, hs1, zeroValue, hz, hroom, h4, h5, hf, Question.forced, hold, hgd]
theorem wpList_oneB {P : Program} (w : World) {ops : Array Oper} {rest : List Oper} {o : Oper} {a : Act} {Q : Exit → Act → World → Prop} (hgd : o.guard = none) (sl x : Operand) (t st : TypeId)
    (ho : o.op = .call { callee := .builtin .append, args := #[sl, x], argTypes := #[t, t] })
    (base : Nat) (i : TypeInfo) (ht : P.underlying t = some (.slice 5)) (hst : P.underlying st = some .string) (hi : P.info? 5 = some i) (hz : i.zero = some (.int .u8 0)) (hsize : i.size = 1) (hby : i.bytes = 1)
    (v : Value) (bs : List UInt8) (hs : a.eval sl = v) (hown : BufB base w v bs) (ad : Addr) (c : UInt8) (hc : w.cell? ad = some (.int .u8 c.toNat)) (hx : a.eval x = .slice (some ad) 1 1) (hl : bs.length + 1 ≤ 70368744177664) (hbase : base ≤ w.heap.size)
    (h : ∀ v' w', BufB base w' v' (bs ++ [c]) → Below base w w' → wpList P ops Q rest (a.put o.dst v') w') :
    wpList P ops Q (o :: rest) a w := by
  refine wpList_plain hgd fun K hK => ?_
  obtain ⟨v', w', hr, h2, h3⟩ := append_strB (P := P) w base t st o.type i ht hst hi hz hsize hby v bs hown ⟨#[c]⟩ (by have : (⟨#[c]⟩ : ByteArray).size = 1 := rfl; omega) hbase
  obtain ⟨g, cap, cur, fz, rfl, _, hsg, _, _, _, _, htk⟩ := hown
  have hul : (u8s bs).length = bs.length := by simp [u8s]
  have hcells : ∀ j x, (u8s bs)[j]? = some x → w.drew.cell? ((⟨g, 0, none⟩ : Addr).add j) = some x := fun j x hx => by
    rw [← htk] at hx
    rw [List.getElem?_take] at hx
    split at hx
    · rw [add_none']
      have e : w.drew.cell? ⟨g, 0 + j, none⟩ = w.cell? ⟨g, 0 + j, none⟩ := rfl
      rw [e]
      simp only [World.cell?, hsg, Nat.zero_add]
      rw [← Array.getElem?_toList]
      simpa using hx
    · cases hx
  have hfo := run_firstCells_some (P := P) w.drew 1 bs.length ⟨g, 0, none⟩ bs.length cap (u8s bs) (by rw [hul]; omega) hcells
  rw [← append_one (P := P) w t st o.type i ht hst hi hz hsize hby (some ⟨g, 0, none⟩) bs.length cap ad c hc (by omega) _ hfo] at hr
  unfold Oper.wp execOp
  simp only [ho, resolve, invoke, builtin, Sem.run_bind, Sem.run_pure, Result.andThen_ok, List.map_toArray, List.map_cons, List.map_nil, hs, hx, hr]
  exact hK _ _ (h v' w' h2 h3)
end Go.Proofs.Ytjpdgcodjnnljaa.Msg
