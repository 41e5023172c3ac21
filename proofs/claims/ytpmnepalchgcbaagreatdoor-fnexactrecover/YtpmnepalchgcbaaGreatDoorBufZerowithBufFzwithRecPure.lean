import Derived.Test.YtpmnepalchgcbaaGreatDoorBkApply2withBufPutwithBufStr
import Derived.Lib.ConvBytes
namespace Go.Proofs.YtpmnepalchgcbaaGreatDoor.Msg
open Go.ChangeShapes Go.WideShapes Go.ChangeAt Go.RowKit
set_option linter.unusedVariables false
set_option linter.unusedSimpArgs false

/-- n zeros -/
def zeroB (n : Nat) : ByteArray := ⟨(List.replicate n (0 : UInt8)).toArray⟩
theorem zeroB_size (n : Nat) : (zeroB n).size = n := by simp [zeroB, ByteArray.size]
theorem zeroB_data (n : Nat) : (zeroB n).data.toList = List.replicate n 0 := by simp [zeroB]
theorem zeroB_cells (n : Nat) : (Lib.strCells (zeroB n)).toArray = Builtin.zeroCells (Value.int .u8 0).cells n := by
  apply Array.ext'
  simp only [Lib.strCells, zeroB_data, Builtin.zeroCells, Value.cells]
  apply List.ext_getElem
  · simp
  · intro i h1 h2
    simp [Nat.mod_one]

theorem wrap_small (n : Nat) (h : n ≤ 140737488355328) : IntKind.i64.wrap (n : Int) = (n : Int) := by
  rw [IntKind.wrap_i64]
  omega
/-- 'append(b, make([]byte, n)...)' is 'append(b, s...)' of n zeros -/
theorem append_zeros {P : Program} (w : World) (t u st ty e : TypeId) (i : TypeInfo) (ht : P.underlying t = some (.slice e)) (hu : P.underlying u = some (.int .i64)) (hst : P.underlying st = some .string) (hi : P.info? e = some i) (hz : i.zero = some (.int .u8 0))
    (hsize : i.size = 1) (hby : i.bytes = 1) (b : Option Addr) (sLen sCap n : Nat) (hn : sLen + n ≤ 140737488355328) :
    (Builtin.append_ #[t, u] ty #[.slice b sLen sCap, .int .i64 (n : Int)]).run P w = (Builtin.append_ #[t, st] ty #[.slice b sLen sCap, .string (zeroB n)]).run P w := by
  have h1 : IntKind.i64.wrap (n : Int) = (n : Int) := by
    exact wrap_small n (by omega)
  have h2 : ¬ (n : Int) < 0 := by omega
  have h3 : ¬ (281474976710656 : Int) < (n : Int) := by omega
  have h4 : ¬ (9223372036854775807 : Int) < (sLen : Int) + (n : Int) := by omega
  have hf : ∀ W : World, (Builtin.firstCells 1 n (.string (zeroB n))).run P W = .ok (Builtin.zeroCells (Value.int .u8 0).cells n) W := fun W => by
    have := Lib.run_firstCells_string (P := P) W 1 (zeroB n)
    rw [zeroB_size, zeroB_cells] at this
    exact this
  have h10 : IntKind.i64.wrap 0 = 0 := by have := wrap_small 0 (by omega); simpa using this
  have hz0 : Builtin.zeroCells (Value.int .u8 0).cells 0 = #[] := by simp [Builtin.zeroCells]
  by_cases hroom : sLen + n ≤ sCap
  · by_cases h0 : n = 0
    · subst h0
      simp [Builtin.append_, run_underlying ht, run_underlying hu, run_underlying hst, sizeOf, typeInfo, hi, hsize, hby, Builtin.lenOf, asInt, asIntOf, h10, zeroB_size, zeroValue, hz, hf, hz0]
      simp only [Nat.add_zero] at hroom
      simp [hroom]
    · simp [Builtin.append_, run_underlying ht, run_underlying hu, run_underlying hst, sizeOf, typeInfo, hi, hsize, hby, Builtin.lenOf, asInt, asIntOf, h1, h2, h3, zeroB_size, zeroValue, hz, hroom, hf, h0]
  · have h5 : ¬ (281474976710656 < Builtin.nextslicecap (sLen + n) sCap) := by
      have := growslice_fits (need := sLen + n) (old := sCap) (bytes := 1) (by omega) (by omega)
      omega
    by_cases h0 : n = 0
    · subst h0
      simp [Builtin.append_, run_underlying ht, run_underlying hu, run_underlying hst, sizeOf, typeInfo, hi, hsize, hby, Builtin.lenOf, asInt, asIntOf, h10, zeroB_size, zeroValue, hz, hf, hz0]
      simp only [Nat.add_zero, Int.ofNat_zero, Int.add_zero] at hroom h4 h5
      simp [hroom, h4, h5]
    · simp [Builtin.append_, run_underlying ht, run_underlying hu, run_underlying hst, sizeOf, typeInfo, hi, hsize, hby, Builtin.lenOf, asInt, asIntOf, h1, h2, h3, h4, h5, zeroB_size, zeroValue, hz, hroom, hf, h0]
end Go.Proofs.YtpmnepalchgcbaaGreatDoor.Msg

namespace Go.Proofs.YtpmnepalchgcbaaGreatDoor.Msg
open Go.ChangeShapes Go.WideShapes Go.ChangeAt Go.RowKit
set_option linter.unusedVariables false
set_option linter.unusedSimpArgs false

/-- no cell of the row is frozen -/
def Free (fz : Nat × Nat) (n : Nat) : Prop := fz.2 = 0 ∨ n ≤ fz.1
theorem Free.at {w : World} {g o n : Nat} {cur : Array Value} {t : TypeId} {fz : Nat × Nat} (hg : w.heap[g]? = some (.cells cur t fz)) (hf : Free fz n) (ho : o < n) : w.frozen? ⟨g, o, none⟩ = false := by
  obtain ⟨lo, hi⟩ := fz
  simp only [World.frozen?, hg]
  rcases hf with h | h
  · simp only at h; subst h; simp
  · simp only at h
    have : ¬ lo ≤ o := by omega
    simp [this]
/-- stores into such a row -/
theorem store_row {P : Program} (g o : Nat) (t : TypeId) (fz : Nat × Nat) : ∀ (vs : List Value) (i : Nat) (cur : Array Value) (w : World), w.heap[g]? = some (.cells cur t fz) → Free fz cur.size → o + i + vs.length ≤ cur.size → (∀ v ∈ vs, v.oneCell' = true) →
    ∃ cur', (storeCells ⟨g, o, none⟩ vs i).run P w = .ok () (w.setRow g cur') ∧ cur'.toList = cur.toList.take (o + i) ++ vs ++ cur.toList.drop (o + i + vs.length)
  | [], i, cur, w, hg, _, _, _ => ⟨cur, by rw [setRow_self w g cur t fz hg]; rfl, by simp⟩
  | v :: rest, i, cur, w, hg, hf, hl, h1 => by
    have hi : o + i < cur.size := by simp at hl; omega
    have hst : (store ((⟨g, o, none⟩ : Addr).add i) v).run P w = .ok () (w.setRow g (cur.setIfInBounds (o + i) v)) := by
      rw [show (⟨g, o, none⟩ : Addr).add i = ⟨g, o + i, none⟩ by unfold Addr.add; split <;> simp_all, run_store P w _ v _ (h1 v (by simp)), show w.cell? ⟨g, o + i, none⟩ = some cur[o + i] by simp [World.cell?, hg, hi]]
      simp [Free.at hg hf hi, setCell_eq_setRow w g (o + i) cur t fz v hg]
    obtain ⟨cur', h2, h3⟩ := store_row (P := P) g o t fz rest (i + 1) (cur.setIfInBounds (o + i) v) (w.setRow g (cur.setIfInBounds (o + i) v)) (setRow_heap w g cur _ t _ hg) (by simpa using hf) (by simp at hl ⊢; omega) (fun x hx => h1 x (by simp [hx]))
    refine ⟨cur', ?_, ?_⟩
    · simp only [storeCells, Sem.run_bind, hst, Result.andThen_ok, h2, setRow_setRow]
    · rw [h3]
      have e := list_seg_step cur.toList (o + i) v rest (by simp at hl ⊢; omega)
      simpa [Array.toList_setIfInBounds, Nat.add_assoc] using e

/-- a slice of bytes that the call owns, be its row made of a text or not -/
def BufB (base : Nat) (w : World) (v : Value) (bs : List UInt8) : Prop :=
  ∃ g cap cur fz, v = .slice (some ⟨g, 0, none⟩) bs.length cap ∧ base ≤ g ∧ w.heap[g]? = some (.cells cur 5 fz) ∧ Free fz cur.size ∧ bs.length ≤ cap ∧ cap ≤ maxLen ∧ cur.size = cap ∧ cur.toList.take bs.length = u8s bs
theorem BufB.of_text (w : World) (s : ByteArray) (hs : s.size ≤ 9223372036854775807) : BufB w.heap.size (Lib.bytesWorld w 5 s) (.slice (some ⟨w.heap.size, 0, none⟩) s.size (grownCap w s.size 0 5)) s.data.toList := by
  have hge := grownCap_ge w s.size 0 5
  have hcm : grownCap w s.size 0 5 ≤ maxLen := grownCap_le_maxLen w s.size 0 5 (by unfold maxLen; omega)
  have hsz : (Lib.bytesCells w 5 s).size = grownCap w s.size 0 5 := by
    simp only [Lib.bytesCells, Array.size_append, Array.size_map, Array.size_replicate]
    have : s.data.size = s.size := rfl
    omega
  refine ⟨w.heap.size, _, Lib.bytesCells w 5 s, _, by simp, Nat.le_refl _, Lib.bytesWorld_at_new w 5 s, .inr (Nat.le_refl _), by simpa using hge, hcm, hsz, ?_⟩
  have h1 : s.data.toList.length = s.size := by simp
  rw [h1]
  simp only [Lib.bytesCells, Array.toList_append, Array.toList_map]
  rw [List.take_append_of_le_length (by simp), List.take_of_length_le (by simp)]
  rfl
theorem bytesWorld_below (w : World) (s : ByteArray) : Below w.heap.size w (Lib.bytesWorld w 5 s) :=
  ⟨rfl, rfl, rfl, by rw [Lib.bytesWorld_size]; omega, fun k hk => Lib.bytesWorld_at_old w 5 s k hk⟩
theorem BufB.below {base : Nat} {w w' : World} {v : Value} {bs : List UInt8} (h : BufB base w v bs) (hb : Below w.heap.size w w') : BufB base w' v bs := by
  obtain ⟨g, cap, cur, fz, rfl, hg, hs, rest⟩ := h
  exact ⟨g, cap, cur, fz, rfl, hg, by rw [hb.block g (by rw [Array.getElem?_eq_some_iff] at hs; exact hs.1)]; exact hs, rest⟩
/-- the text of its first n bytes -/
theorem BufB.string {base : Nat} {w : World} {v : Value} {bs : List UInt8} (h : BufB base w v bs) {n : Nat} (hn : n ≤ bs.length) :
    ∃ g cap, v = .slice (some ⟨g, 0, none⟩) bs.length cap ∧ bs.length ≤ cap ∧ cap ≤ 9223372036854775807 ∧ Sem.run Tryz.prog (convert 80 9 (.slice (some ⟨g, 0, none⟩) n cap)) w = .ok (.string ⟨(bs.take n).toArray⟩) w := by
  obtain ⟨g, cap, cur, fz, rfl, hg, hs, hf, hc, hm, hsz, ht⟩ := h
  refine ⟨g, cap, rfl, hc, by unfold maxLen at hm; omega, ?_⟩
  rw [run_convert_bytes_arg w 80 5 Tryz.underlying80 Tryz.underlying5 g 0 n cap ((bs.take n).map fun c => (c.toNat : Int)) (by simp; omega) ?_ 9 Tryz.underlying9]
  · congr 2
    unfold strOfNums
    congr 2
    rw [List.map_map]
    conv => rhs; rw [← List.map_id (bs.take n)]
    apply List.map_congr_left
    intro c _
    simp
  · intro i hi
    have hin : i < n := by simpa [Nat.min_eq_left hn] using hi
    have h2 : cur.toList[i]? = some (.int .u8 (((bs.take n).map fun c => (c.toNat : Int))[i]'(by simp; omega))) := by
      have h3 : (cur.toList.take bs.length)[i]? = some (.int .u8 ((bs[i]'(by omega)).toNat : Int)) := by rw [ht]; simp [u8s, show i < bs.length by omega]
      rw [List.getElem?_take, if_pos (by omega)] at h3
      rw [h3]
      simp
    simp only [World.cell?, hs, Nat.zero_add]
    rw [← Array.getElem?_toList, h2]
    simp [List.getElem?_take, hin, show i < bs.length by omega]

theorem add_none' (g o j : Nat) : (⟨g, o, none⟩ : Addr).add j = ⟨g, o + j, none⟩ := by
  unfold Addr.add
  split <;> simp_all
/-- bytes of a text behind it -/
theorem append_strB {P : Program} (w : World) (base : Nat) (t u ty : TypeId) (i : TypeInfo) (ht : P.underlying t = some (.slice 5)) (hu : P.underlying u = some .string) (hi : P.info? 5 = some i) (hz : i.zero = some (.int .u8 0))
    (hsize : i.size = 1) (hby : i.bytes = 1) (v : Value) (bs : List UInt8) (hown : BufB base w v bs) (s : ByteArray) (hl : bs.length + s.size ≤ 70368744177664) (hbase : base ≤ w.heap.size) :
    ∃ v' w', (Builtin.append_ #[t, u] ty #[v, .string s]).run P w = .ok v' w' ∧ BufB base w' v' (bs ++ s.data.toList) ∧ Below base w w' := by
  obtain ⟨g, cap, cur, fz, rfl, hg, hs, hf, hc, hm, hsz, htk⟩ := hown
  have hgl : g < w.heap.size := by rw [Array.getElem?_eq_some_iff] at hs; exact hs.1
  have hd : s.data.toList.length = s.size := by simp
  have hlen : (bs ++ s.data.toList).length = bs.length + s.size := by rw [List.length_append, hd]
  have hu8 : u8s (bs ++ s.data.toList) = u8s bs ++ Lib.strCells s := by simp [u8s, Lib.strCells]
  have hul : (u8s bs).length = bs.length := by simp [u8s]
  by_cases hroom : bs.length + s.size ≤ cap
  · obtain ⟨cur', h1, h2⟩ := store_row (P := P) g bs.length 5 fz (Lib.strCells s) 0 cur w hs hf (by rw [Lib.strCells_length]; omega) (Lib.strCells_oneCell s)
    have hcur : cur'.size = cap := by
      have := congrArg List.length h2
      simp only [List.length_append, List.length_take, List.length_drop, Lib.strCells_length, Array.length_toList] at this
      omega
    refine ⟨.slice (some ⟨g, 0, none⟩) (bs.length + s.size) cap, w.setRow g cur', ?_, ⟨g, cap, cur', fz, by rw [hlen], hg, setRow_heap w g cur cur' 5 fz hs, by rw [hcur, ← hsz]; exact hf, by omega, hm, hcur, ?_⟩, ?_⟩
    · have hfc := Lib.run_firstCells_string (P := P) w 1 s
      simp [Builtin.append_, run_underlying ht, run_underlying hu, sizeOf, typeInfo, hi, hsize, Builtin.lenOf, hroom, hfc, Addr.add_lit, h1]
    · rw [h2, hlen, Nat.add_zero, List.append_assoc, htk, hu8, ← List.append_assoc, List.take_append_of_le_length (by rw [List.length_append, hul, Lib.strCells_length]; omega), List.take_of_length_le (by rw [List.length_append, hul, Lib.strCells_length]; omega)]
    · exact ⟨rfl, rfl, rfl, by simp [World.setRow], fun k hk => setRow_other w g k cur' (by omega)⟩
  · have hcells : ∀ j x, (u8s bs)[j]? = some x → w.cell? ((⟨g, 0, none⟩ : Addr).add j) = some x := fun j x hx => by
      rw [← htk] at hx
      rw [List.getElem?_take] at hx
      split at hx
      · rw [add_none']
        simp only [World.cell?, hs, Nat.zero_add]
        rw [← Array.getElem?_toList]
        simpa using hx
      · cases hx
    have hr := Lib.run_append_grow_string (P := P) w t u ty 5 i (.int .u8 0) ht hu hi hz ⟨g, 0, none⟩ bs.length cap (u8s bs) (by rw [hsize, hul]; omega) hcells s (by omega) (by omega) (by rw [hby]; exact growslice_fits (by omega) (by omega))
    refine ⟨_, _, hr, ?_, ?_⟩
    · have hge := grownCap_ge w (bs.length + s.size) cap 5
      have hcm : grownCap w (bs.length + s.size) cap 5 ≤ maxLen := grownCap_le_maxLen w (bs.length + s.size) cap 5 (by unfold maxLen; omega)
      refine ⟨w.heap.size, _, _, (0, 0), by rw [hlen], hbase, heap_alloc_new w.drew _, .inl rfl, by omega, hcm, ?_, ?_⟩
      · have hz1 : (Value.int IntKind.u8 0).cells.size = 1 := rfl
        simp only [Array.size_append, List.size_toArray, size_zeroCells, hz1, hul, Lib.strCells_length]
        omega
      · rw [hlen, hu8]
        simp only [Array.toList_append]
        rw [List.take_append_of_le_length (by simp [hul, Lib.strCells_length]), List.take_of_length_le (by simp [hul, Lib.strCells_length])]
    · exact ((Below.refl base w).drew).alloc (by simpa using hbase) _
/-- at the operation -/
theorem wpList_strB {P : Program} (w : World) {ops : Array Oper} {rest : List Oper} {o : Oper} {a : Act} {Q : Exit → Act → World → Prop} (hgd : o.guard = none) (sl x : Operand) (t u : TypeId)
    (ho : o.op = .call { callee := .builtin .append, args := #[sl, x], argTypes := #[t, u] })
    (base : Nat) (i : TypeInfo) (ht : P.underlying t = some (.slice 5)) (hu : P.underlying u = some .string) (hi : P.info? 5 = some i) (hz : i.zero = some (.int .u8 0)) (hsize : i.size = 1) (hby : i.bytes = 1)
    (v : Value) (bs : List UInt8) (hs : a.eval sl = v) (hown : BufB base w v bs) (s : ByteArray) (hx : a.eval x = .string s) (hl : bs.length + s.size ≤ 70368744177664) (hbase : base ≤ w.heap.size)
    (h : ∀ v' w', BufB base w' v' (bs ++ s.data.toList) → Below base w w' → wpList P ops Q rest (a.put o.dst v') w') :
    wpList P ops Q (o :: rest) a w := by
  refine wpList_plain hgd fun K hK => ?_
  obtain ⟨v', w', hr, h2, h3⟩ := append_strB (P := P) w base t u o.type i ht hu hi hz hsize hby v bs hown s hl hbase
  unfold Oper.wp execOp
  simp only [ho, resolve, invoke, builtin, Sem.run_bind, Sem.run_pure, Result.andThen_ok, List.map_toArray, List.map_cons, List.map_nil, hs, hx, hr]
  exact hK _ _ (h v' w' h2 h3)
theorem wpList_zerosB {P : Program} (w : World) {ops : Array Oper} {rest : List Oper} {o : Oper} {a : Act} {Q : Exit → Act → World → Prop} (hgd : o.guard = none) (sl x : Operand) (t u st : TypeId)
    (ho : o.op = .call { callee := .builtin .append, args := #[sl, x], argTypes := #[t, u] })
    (base : Nat) (i : TypeInfo) (ht : P.underlying t = some (.slice 5)) (hu : P.underlying u = some (.int .i64)) (hst : P.underlying st = some .string) (hi : P.info? 5 = some i) (hz : i.zero = some (.int .u8 0)) (hsize : i.size = 1) (hby : i.bytes = 1)
    (v : Value) (bs : List UInt8) (hs : a.eval sl = v) (hown : BufB base w v bs) (n : Nat) (hx : a.eval x = .int .i64 (n : Int)) (hl : bs.length + n ≤ 70368744177664) (hbase : base ≤ w.heap.size)
    (h : ∀ v' w', BufB base w' v' (bs ++ List.replicate n 0) → Below base w w' → wpList P ops Q rest (a.put o.dst v') w') :
    wpList P ops Q (o :: rest) a w := by
  refine wpList_plain hgd fun K hK => ?_
  obtain ⟨v', w', hr, h2, h3⟩ := append_strB (P := P) w base t st o.type i ht hst hi hz hsize hby v bs hown (zeroB n) (by rw [zeroB_size]; exact hl) hbase
  rw [zeroB_data] at h2
  obtain ⟨g, cap, cur, fz, rfl, _⟩ := hown
  rw [← append_zeros (P := P) w t u st o.type 5 i ht hu hst hi hz hsize hby (some ⟨g, 0, none⟩) bs.length cap n (by omega)] at hr
  unfold Oper.wp execOp
  simp only [ho, resolve, invoke, builtin, Sem.run_bind, Sem.run_pure, Result.andThen_ok, List.map_toArray, List.map_cons, List.map_nil, hs, hx, hr]
  exact hK _ _ (h v' w' h2 h3)
/-- one byte, out of a row of its own -/
theorem append_one {P : Program} (w : World) (t st ty : TypeId) (i : TypeInfo) (ht : P.underlying t = some (.slice 5)) (hst : P.underlying st = some .string) (hi : P.info? 5 = some i) (hz : i.zero = some (.int .u8 0))
    (hsize : i.size = 1) (hby : i.bytes = 1) (b : Option Addr) (sLen sCap : Nat) (ad : Addr) (c : UInt8) (hc : w.cell? ad = some (.int .u8 c.toNat)) (hn : sLen + 1 ≤ 140737488355328) (olds : Array Value) (hold : (Builtin.firstCells 1 sLen (.slice b sLen sCap)).run P w.drew = .ok olds w.drew) :
    (Builtin.append_ #[t, t] ty #[.slice b sLen sCap, .slice (some ad) 1 1]).run P w = (Builtin.append_ #[t, st] ty #[.slice b sLen sCap, .string ⟨#[c]⟩]).run P w := by
  have hs1 : (⟨#[c]⟩ : ByteArray).size = 1 := rfl
  have h4 : ¬ (9223372036854775807 : Int) < (sLen : Int) + 1 := by omega
  have hf : ∀ W : World, (Builtin.firstCells 1 1 (.string ⟨#[c]⟩)).run P W = .ok #[.int .u8 c.toNat] W := fun W => by
    have := Lib.run_firstCells_string (P := P) W 1 ⟨#[c]⟩
    rw [hs1] at this
    exact this
  have hg : ∀ W : World, W.cell? ad = some (.int .u8 c.toNat) → (Builtin.firstCells 1 1 (.slice (some ad) 1 1)).run P W = .ok #[.int .u8 c.toNat] W := fun W hW => by
    have := run_firstCells_some (P := P) W 1 1 ad 1 1 [.int .u8 c.toNat] rfl (fun j v hj => by
      cases j with
      | zero => simp at hj; subst hj; simpa [Addr.add] using hW
      | succ j => simp at hj)
    exact this
  by_cases hroom : sLen + 1 ≤ sCap
  · simp [Builtin.append_, run_underlying ht, run_underlying hst, sizeOf, typeInfo, hi, hsize, hby, Builtin.lenOf, hs1, zeroValue, hz, hroom, hf, hg w hc]
  · have h5 : ¬ (281474976710656 < Builtin.nextslicecap (sLen + 1) sCap) := by
      have := growslice_fits (need := sLen + 1) (old := sCap) (bytes := 1) (by omega) (by omega)
      omega
    have hgd := hg w.drew (by simpa using hc)
    simp [Builtin.append_, run_underlying ht, run_underlying hst, sizeOf, typeInfo, hi, hsize, hby, Builtin.lenOf, hs1, zeroValue, hz, hroom, h4, h5, hf, Question.forced, hold, hgd]
theorem wpList_oneB {P : Program} (w : World) {ops : Array Oper} {rest : List Oper} {o : Oper} {a : Act} {Q : Exit → Act → World → Prop} (hgd : o.guard = none) (sl x : Operand) (t st : TypeId)
    (ho : o.op = .call { callee := .builtin .append, args := #[sl, x], argTypes := #[t, t] })
    (base : Nat) (i : TypeInfo) (ht : P.underlying t = some (.slice 5)) (hst : P.underlying st = some .string) (hi : P.info? 5 = some i) (hz : i.zero = some (.int .u8 0)) (hsize : i.size = 1) (hby : i.bytes = 1)
    (v : Value) (bs : List UInt8) (hs : a.eval sl = v) (hown : BufB base w v bs) (ad : Addr) (c : UInt8) (hc : w.cell? ad = some (.int .u8 c.toNat)) (hx : a.eval x = .slice (some ad) 1 1) (hl : bs.length + 1 ≤ 70368744177664) (hbase : base ≤ w.heap.size)
    (h : ∀ v' w', BufB base w' v' (bs ++ [c]) → Below base w w' → wpList P ops Q rest (a.put o.dst v') w') :
    wpList P ops Q (o :: rest) a w := by
  refine wpList_plain hgd fun K hK => ?_
  obtain ⟨v', w', hr, h2, h3⟩ := append_strB (P := P) w base t st o.type i ht hst hi hz hsize hby v bs hown ⟨#[c]⟩ (by have : (⟨#[c]⟩ : ByteArray).size = 1 := rfl; omega) hbase
  obtain ⟨g, cap, cur, fz, rfl, _, hsg, _, _, _, _, htk⟩ := hown
  have hul : (u8s bs).length = bs.length := by simp [u8s]
  have hcells : ∀ j x, (u8s bs)[j]? = some x → w.drew.cell? ((⟨g, 0, none⟩ : Addr).add j) = some x := fun j x hx => by
    rw [← htk] at hx
    rw [List.getElem?_take] at hx
    split at hx
    · rw [add_none']
      have e : w.drew.cell? ⟨g, 0 + j, none⟩ = w.cell? ⟨g, 0 + j, none⟩ := rfl
      rw [e]
      simp only [World.cell?, hsg, Nat.zero_add]
      rw [← Array.getElem?_toList]
      simpa using hx
    · cases hx
  have hfo := run_firstCells_some (P := P) w.drew 1 bs.length ⟨g, 0, none⟩ bs.length cap (u8s bs) (by rw [hul]; omega) hcells
  rw [← append_one (P := P) w t st o.type i ht hst hi hz hsize hby (some ⟨g, 0, none⟩) bs.length cap ad c hc (by omega) _ hfo] at hr
  unfold Oper.wp execOp
  simp only [ho, resolve, invoke, builtin, Sem.run_bind, Sem.run_pure, Result.andThen_ok, List.map_toArray, List.map_cons, List.map_nil, hs, hx, hr]
  exact hK _ _ (h v' w' h2 h3)
end Go.Proofs.YtpmnepalchgcbaaGreatDoor.Msg

namespace Go.Proofs.YtpmnepalchgcbaaGreatDoor.Msg
set_option linter.unusedVariables false
set_option linter.unusedSimpArgs false

/-! a record: its size, its text, its padding, its marks -/
def szL (n : Nat) : List UInt8 := [UInt8.ofNat n, UInt8.ofNat (n / 256), UInt8.ofNat (n / 65536)]
def bodyL (l : List UInt8) : List UInt8 := szL l.length ++ l
def padN (m : Nat) : Nat := (31 - m % 31) % 31
def paddedL (B : List UInt8) : List UInt8 := B ++ List.replicate (padN B.length) 0
/-- the bytes of P up to i, a mark behind each 31st -/
def markU (P : List UInt8) : Nat → List UInt8
  | 0 => []
  | i + 1 => markU P i ++ [P.getD i 0] ++ (if i % 31 = 30 then [if i < 31 then 65 else 66] else [])
def recL (l : List UInt8) : List UInt8 := markU (paddedL (bodyL l)) (paddedL (bodyL l)).length
def recB (s : ByteArray) : ByteArray := if s.size ≤ 60000 then ⟨(recL s.data.toList).toArray⟩ else ⟨#[]⟩

theorem bodyL_length (l : List UInt8) : (bodyL l).length = l.length + 3 := by simp [bodyL, szL]
theorem padded_length (B : List UInt8) : (paddedL B).length = (B.length + 30) / 31 * 31 := by
  simp only [paddedL, List.length_append, List.length_replicate, padN]
  omega
theorem markU_length (P : List UInt8) : ∀ i, (markU P i).length = i + i / 31
  | 0 => rfl
  | i + 1 => by
    have ih := markU_length P i
    unfold markU
    split
    · simp only [List.length_append, List.length_cons, List.length_nil, ih]; omega
    · simp only [List.length_append, List.length_cons, List.length_nil, ih]; omega
theorem markU_run (P : List UInt8) (k : Nat) : ∀ c, c ≤ 30 → 31 * k + c ≤ P.length → markU P (31 * k + c) = markU P (31 * k) ++ (P.drop (31 * k)).take c
  | 0, _, _ => by simp
  | c + 1, hc, hl => by
    have ih := markU_run P k c (by omega) (by omega)
    show markU P (31 * k + c + 1) = _
    conv => lhs; unfold markU
    rw [if_neg (by omega), ih, List.append_nil, List.append_assoc, List.take_succ_eq_append_getElem (by rw [List.length_drop]; omega), List.getElem_drop, List.getD_eq_getElem?_getD, List.getElem?_eq_getElem (by omega)]
    rfl
theorem markU_sector (P : List UInt8) (k : Nat) (hl : 31 * (k + 1) ≤ P.length) : markU P (31 * (k + 1)) = markU P (31 * k) ++ (P.drop (31 * k)).take 31 ++ [if k = 0 then 65 else 66] := by
  have ih := markU_run P k 30 (by omega) (by omega)
  show markU P (31 * k + 30 + 1) = _
  conv => lhs; unfold markU
  rw [if_pos (by omega), ih, List.take_succ_eq_append_getElem (i := 30) (by rw [List.length_drop]; omega), List.getElem_drop, List.getD_eq_getElem?_getD, List.getElem?_eq_getElem (by omega)]
  have e : (if 31 * k + 30 < 31 then (65 : UInt8) else 66) = if k = 0 then 65 else 66 := by
    by_cases h : k = 0
    · rw [if_pos h, if_pos (by omega)]
    · rw [if_neg h, if_neg (by omega)]
  rw [e]
  simp only [Option.getD_some, List.append_assoc]

/-! what the program puts, chunk by chunk -/
def chunkL (B : List UInt8) (j : Nat) : List UInt8 := (B.drop (31 * j)).take 31
theorem chunkL_length (B : List UInt8) (j : Nat) : (chunkL B j).length = min 31 (B.length - 31 * j) := by simp [chunkL]
def recStep (B acc : List UInt8) (j : Nat) : List UInt8 := acc ++ chunkL B j ++ List.replicate (31 - (chunkL B j).length) 0 ++ [if acc.length = 0 then 65 else 66]
def recP (B : List UInt8) (pre : List Nat) : List UInt8 := pre.foldl (recStep B) []
theorem recP_snoc (B : List UInt8) (pre : List Nat) (j : Nat) : recP B (pre ++ [j]) = recStep B (recP B pre) j := by simp [recP]
theorem recStep_length (B acc : List UInt8) (j : Nat) : (recStep B acc j).length = acc.length + 32 := by
  have := chunkL_length B j
  simp only [recStep, List.length_append, List.length_replicate, List.length_cons, List.length_nil]
  omega
theorem recP_length (B : List UInt8) (pre : List Nat) : (recP B pre).length = 32 * pre.length := by
  unfold recP
  have : ∀ (pre : List Nat) (acc : List UInt8), (pre.foldl (recStep B) acc).length = acc.length + 32 * pre.length := by
    intro pre
    induction pre with
    | nil => intro acc; simp
    | cons j pre ih => intro acc; simp only [List.foldl_cons, ih, recStep_length, List.length_cons]; omega
  simpa using this pre []
theorem take_padded (B : List UInt8) (k : Nat) (hk : 31 * k < B.length) : ((paddedL B).drop (31 * k)).take 31 = chunkL B k ++ List.replicate (31 - (chunkL B k).length) 0 := by
  have hc := chunkL_length B k
  unfold paddedL
  rw [List.drop_append_of_le_length (by omega), List.take_append]
  unfold chunkL at hc ⊢
  congr 1
  rw [hc, List.length_drop, List.take_replicate]
  congr 1
  unfold padN
  omega
theorem recP_range (B : List UInt8) : ∀ k, k ≤ (B.length + 30) / 31 → recP B (List.range k) = markU (paddedL B) (31 * k)
  | 0, _ => rfl
  | k + 1, hk => by
    have ih := recP_range B k (by omega)
    have hl : (recP B (List.range k)).length = 32 * k := by rw [recP_length, List.length_range]
    rw [List.range_succ, recP_snoc, markU_sector _ _ (by rw [padded_length]; omega), ← ih, take_padded B k (by omega)]
    unfold recStep
    rw [hl]
    have e : (if 32 * k = 0 then (65 : UInt8) else 66) = if k = 0 then 65 else 66 := by
      by_cases h : k = 0
      · rw [if_pos h, if_pos (by omega)]
      · rw [if_neg h, if_neg (by omega)]
    rw [e]
    simp only [List.append_assoc]
/-- the number of sectors -/
def sectN (n : Nat) : Nat := (n + 33) / 31
theorem recL_eq (l : List UInt8) : recL l = recP (bodyL l) (List.range (sectN l.length)) := by
  unfold recL
  have h := padded_length (bodyL l)
  have e : ((bodyL l).length + 30) / 31 = sectN l.length := by rw [bodyL_length]; unfold sectN; omega
  rw [e] at h
  rw [h, Nat.mul_comm, recP_range (bodyL l) _ (by rw [e]; exact Nat.le_refl _)]
theorem recL_length (l : List UInt8) : (recL l).length = 32 * sectN l.length := by rw [recL_eq, recP_length, List.length_range]
theorem recB_size {s : ByteArray} (h : s.size ≤ 60000) : (recB s).size = 32 * sectN s.size := by
  unfold recB
  rw [if_pos h]
  show (recL s.data.toList).toArray.size = _
  rw [List.size_toArray, recL_length]
  simp
end Go.Proofs.YtpmnepalchgcbaaGreatDoor.Msg
