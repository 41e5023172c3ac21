import Derived.Test.YtpmnepalchgcbaaDoorMsgDatawithMsgSzwithMsgSz2
import Derived.OwnWalk
import Derived.Maps.AppendAt
import Derived.Laws.BytesArg
import Derived.Deep.Heap
import Derived.Test.YtpmnepalchgcbaaDoorMsgTowithMsgTo2withTblSz
namespace Go.Proofs.YtpmnepalchgcbaaDoor.Msg
open Go.ChangeShapes Go.WideShapes Go.ChangeAt Go.RowKit
set_option linter.unusedVariables false
set_option linter.unusedSimpArgs false

def u8s (bs : List UInt8) : List Value := bs.map fun c => .int .u8 c.toNat
/-- a slice of bytes that the call owns, from block 'base' on -/
def Buf (base : Nat) (w : World) (v : Value) (bs : List UInt8) : Prop := w.ownsRow base 5 1 v bs.length (u8s bs)
theorem info_u8 : (Tryd.prog.info? 5).map (fun i => (i.zero, i.size, i.bytes)) = some (some (.int .u8 0), 1, 1) := by kernel_rfl
theorem u8_facts : ∃ i, Tryd.prog.info? 5 = some i ∧ i.zero = some (.int .u8 0) ∧ i.size = 1 ∧ i.bytes = 1 := by
  have h := info_u8
  cases hi : Tryd.prog.info? 5 with
  | none => rw [hi] at h; cases h
  | some i =>
    rw [hi] at h
    simp only [Option.map_some, Option.some.injEq, Prod.mk.injEq] at h
    exact ⟨i, rfl, h.1, h.2.1, h.2.2⟩
theorem Buf.alloc {base : Nat} {w : World} {v : Value} {bs : List UInt8} (h : Buf base w v bs) (o : Obj) : Buf base (w.alloc o) v bs := World.ownsRow.alloc h o

/-- nothing but the slice's own row has turned; the new slice lies there, or in a new block -/
def Grew (w : World) (v : Value) (w' : World) (u : Value) : Prop := w.grownBy w' v.ownBlock ∧ (u.ownBlock = v.ownBlock ∨ ∃ g, u.ownBlock = some g ∧ w.heap.size ≤ g)
theorem Grew.refl (w : World) (v : Value) : Grew w v w v := ⟨⟨rfl, rfl, rfl, Nat.le_refl _, fun _ _ _ => rfl⟩, .inl rfl⟩
theorem Grew.trans {w w1 w2 : World} {v v1 v2 : Value} (h : Grew w v w1 v1) (k : Grew w1 v1 w2 v2) : Grew w v w2 v2 := by
  obtain ⟨a, b⟩ := h
  obtain ⟨c, d⟩ := k
  refine ⟨⟨c.os.trans a.os, c.tape.trans a.tape, c.output.trans a.output, Nat.le_trans a.size c.size, fun x hx hn => ?_⟩, ?_⟩
  · refine (c.block x (Nat.lt_of_lt_of_le hx a.size) ?_).trans (a.block x hx hn)
    rcases b with b | ⟨g, b, hg⟩
    · rw [b]; exact hn
    · rw [b]; intro e; injection e with e; omega
  · rcases d with d | ⟨g, d, hg⟩
    · rw [d]; rcases b with b | ⟨g, b, hg⟩
      · exact .inl b
      · exact .inr ⟨g, b, hg⟩
    · exact .inr ⟨g, d, Nat.le_trans a.size hg⟩
theorem Grew.alloc {w w1 : World} {v v1 : Value} (h : Grew w v w1 v1) (o : Obj) : Grew w v (w1.alloc o) v1 := by
  obtain ⟨a, b⟩ := h
  exact ⟨⟨a.os, a.tape, a.output, by rw [Deep.nblk_alloc]; exact Nat.le_succ_of_le a.size, fun x hx hn => by rw [Deep.blk_alloc_lt _ _ _ (Nat.lt_of_lt_of_le hx a.size)]; exact a.block x hx hn⟩, b⟩
theorem Grew.below {w w1 : World} {v v1 : Value} {base : Nat} (h : Grew w v w1 v1) (hb : base ≤ v.ownBlock.getD base) (hs : base ≤ w.heap.size) : Below base w w1 :=
  ⟨h.1.os, h.1.tape, h.1.output, h.1.size, fun k hk => h.1.block k (by omega) (by intro e; rw [← e] at hb; simp at hb; omega)⟩
/-- a block that is not the slice's own is as it was -/
theorem Grew.block {w w1 : World} {v v1 : Value} (h : Grew w v w1 v1) {b : Nat} (hb : b < w.heap.size) (hn : v.ownBlock ≠ some b) : w1.heap[b]? = w.heap[b]? := h.1.block b hb (fun e => hn e.symm)

/-- behind an append of one byte -/
theorem Buf.snoc {base : Nat} {w wr w' : World} {v0 v v' : Value} {bs : List UInt8} (c : UInt8) (o : Obj) (hb : Grew w v0 wr v)
    {n : Nat} (hl : n = bs.length) (h : w'.ownsRow base 5 1 v' (n + 1) (u8s bs ++ [.int .u8 c.toNat])) (hg : (wr.alloc o).grownBy w' v.ownBlock) (hat : v'.ownBlock = v.ownBlock ∨ v'.ownBlock = some (wr.heap.size + 1)) :
    Buf base w' v' (bs ++ [c]) ∧ Grew w v0 w' v' := by
  subst hl
  refine ⟨by unfold Buf; simpa [u8s] using h, (hb.alloc o).trans ⟨hg, ?_⟩⟩
  rcases hat with hat | hat
  · exact .inl hat
  · exact .inr ⟨_, hat, by rw [Deep.nblk_alloc]; exact Nat.le_refl _⟩

theorem Buf.own {base : Nat} {w : World} {v : Value} {bs : List UInt8} (h : Buf base w v bs) : base ≤ v.ownBlock.getD base := by
  obtain ⟨_, ⟨rfl, _⟩ | ⟨g, cap, cur, rfl, hg, _⟩⟩ := h
  · simp [Value.ownBlock]
  · simpa [Value.ownBlock] using hg

theorem new_cell (w : World) (x : Value) (t : TypeId) : ∀ (j : Nat) (u : Value), [x][j]? = some u → (w.alloc (.cells #[x] t)).cell? ((⟨w.heap.size, 0, none⟩ : Addr).add j) = some u := by
  intro j u hj
  cases j with
  | zero =>
    simp at hj
    subst hj
    simp [Addr.add]
  | succ j => simp at hj
theorem one_u8 (n : Int) : ∀ u ∈ [Value.int .u8 n], u.oneCell' = true := by
  intro u hu
  simp at hu
  subst hu
  rfl

theorem take_snoc (s : ByteArray) (k : Nat) (h : k < s.size) : s.data.toList.take (k + 1) = s.data.toList.take k ++ [s[k]] := by
  rw [List.take_succ_eq_append_getElem (by simpa using h)]; rfl

set_option maxRecDepth 100000 in
set_option maxHeartbeats 400000 in
theorem put_any (base : Nat) (bs : List UInt8) (s : ByteArray) (v : Value) (w : World) (hown : Buf base w v bs) (hbase : base ≤ w.heap.size) (hl : bs.length + s.size ≤ 70368744177664) :
    Calls Tryd.prog 11 #[v, .string s] w fun e w' => ∃ u, e = .returned u ∧ Buf base w' u (bs ++ s.data.toList) ∧ Grew w v w' u := by
  obtain ⟨i0, hi, hz0, hz1, hz2⟩ := u8_facts
  go_enter Tryd.func11, Tryd.ntmps11
  go_wp2
  go_loopw [0, 5] (fun v1 i wr => ∃ k : Nat, k ≤ s.size ∧ i = .int .i64 k ∧ Buf base wr v1 (bs ++ s.data.toList.take k) ∧ Grew w v wr v1) (fun _ i _ => s.size - (intOf i).toNat)
  case atStart => exact ⟨0, Nat.zero_le _, rfl, by simpa using hown, Grew.refl _ _⟩
  case round =>
    obtain ⟨k, hk, rfl, hbuf, hb⟩ := hrel
    by_cases hlt : k < s.size
    · have HT := hide (take_snoc s k hlt)
      have hlen : (bs ++ s.data.toList.take k).length ≤ bs.length + k := by simp; omega
      have hz : base ≤ wr.heap.size := Nat.le_trans hbase hb.1.size
      go_wp2_with (first
        | (at_builtin; refine wpList_append_own_at _ rfl _ _ 35 rfl base 5 i0 (.int .u8 0) 1 1 Tryd.underlying35 hi hz0 hz1 hz2 rfl (by decide) _ _ _ rfl (World.ownsRow.alloc hbuf _) ⟨wr.heap.size, 0, none⟩ 1 1 [.int .u8 s[k].toNat] rfl rfl ?c1 ?c2 ?c3 ?c4 ?c5 ?_)
        | go_in)
      case c1 => exact new_cell _ _ _
      case c2 => exact one_u8 _
      case c3 => unfold maxLen; omega
      case c4 => omega
      case c5 => simp; omega
      · intro v' w' hown' hgrow hnil hat
        have R := Buf.snoc (bs := bs ++ s.data.toList.take k) s[k] _ hb (by simp; omega) hown' hgrow hat
        clear hown' hgrow hnil hat hbuf hb
        go_wp2
        go_roundw
        case rel => exact ⟨k + 1, by omega, by go_num, by rw [HT.out, ← List.append_assoc]; exact R.1, R.2⟩
        case measure => simp [intOf]; omega
    · go_wp2
      go_ret
      exact ⟨_, rfl, by rw [List.take_of_length_le (by simp; omega)] at hbuf; exact hbuf, hb⟩
end Go.Proofs.YtpmnepalchgcbaaDoor.Msg

namespace Go.Proofs.YtpmnepalchgcbaaDoor.Msg
open Go.ChangeShapes Go.WideShapes Go.ChangeAt Go.RowKit
set_option linter.unusedVariables false
set_option linter.unusedSimpArgs false

/-- a text out of bytes -/
def txt (l : List UInt8) : ByteArray := ⟨l.toArray⟩
theorem txt_data (l : List UInt8) : (txt l).data.toList = l := by simp [txt]
theorem txt_size (l : List UInt8) : (txt l).size = l.length := by simp [txt, ByteArray.size]
theorem txt_of (s : ByteArray) : txt s.data.toList = s := by cases s; simp [txt]
theorem txt_extract (s : ByteArray) (a b : Nat) : s.extract a b = txt ((s.data.toList.take b).drop a) := by
  have : (s.extract a b).data.toList = (s.data.toList.take b).drop a := by
    rw [ByteArray.data_extract, Array.toList_extract]
    simp [List.extract, List.drop_take]
  rw [← this, txt_of]

/-- a text cut at every byte c: the pieces, 'cur' being what stands of the first -/
def cutGo (c : UInt8) (cur : List UInt8) : List UInt8 → List (List UInt8)
  | [] => [cur]
  | x :: xs => if x = c then cur :: cutGo c [] xs else cutGo c (cur ++ [x]) xs
def cutL (c : UInt8) (l : List UInt8) : List (List UInt8) := cutGo c [] l

/-- a slice of texts that the call owns -/
def SBuf (base : Nat) (w : World) (v : Value) (xs : List ByteArray) : Prop := w.ownsRow base 9 1 v xs.length (xs.map Value.string)
theorem str_facts : ∃ i, Tryd.prog.info? 9 = some i ∧ i.zero = some (.string ByteArray.empty) ∧ i.size = 1 ∧ i.bytes = 16 := by
  have h := info_string
  cases hi : Tryd.prog.info? 9 with
  | none => rw [hi] at h; cases h
  | some i =>
    rw [hi] at h
    simp only [Option.map_some, Option.some.injEq, Prod.mk.injEq] at h
    exact ⟨i, rfl, h.1, h.2.1, h.2.2⟩
theorem SBuf.empty (base : Nat) (w : World) (hb : base ≤ w.heap.size) : SBuf base (w.alloc (.cells #[] 9)) (.slice (some ⟨w.heap.size, 0, none⟩) 0 0) [] :=
  World.ownsRow_lit (base := base) (e := 9) (size := 1) w #[] 0 hb (by unfold maxLen; omega) rfl
theorem SBuf.snoc {base : Nat} {w wr w' : World} {v0 v v' : Value} {xs : List ByteArray} (x : ByteArray) (o : Obj) (hb : Grew w v0 wr v)
    {n : Nat} (hl : n = xs.length) (h : w'.ownsRow base 9 1 v' (n + 1) (xs.map Value.string ++ [.string x])) (hg : (wr.alloc o).grownBy w' v.ownBlock) (hat : v'.ownBlock = v.ownBlock ∨ v'.ownBlock = some (wr.heap.size + 1)) :
    SBuf base w' v' (xs ++ [x]) ∧ Grew w v0 w' v' := by
  subst hl
  refine ⟨by unfold SBuf; simpa using h, (hb.alloc o).trans ⟨hg, ?_⟩⟩
  rcases hat with hat | hat
  · exact .inl hat
  · exact .inr ⟨_, hat, by rw [Deep.nblk_alloc]; exact Nat.le_refl _⟩
theorem one_str (s : ByteArray) : ∀ u ∈ [Value.string s], u.oneCell' = true := by
  intro u hu
  simp at hu
  subst hu
  rfl
/-- the first n of an owned row of one-cell elements -/
theorem own_cells {base : Nat} {e : TypeId} {w : World} {v : Value} {cs : List Value} (h : w.ownsRow base e 1 v cs.length cs) :
    (cs = [] ∧ v = .slice none 0 0) ∨ ∃ g cap, v = .slice (some ⟨g, 0, none⟩) cs.length cap ∧ base ≤ g ∧ g < w.heap.size ∧ (∀ i (hi : i < cs.length), w.cell? ⟨g, i, none⟩ = some cs[i] ∧ w.frozen? ⟨g, i, none⟩ = false) := by
  obtain ⟨hlen, ⟨rfl, h0⟩ | ⟨g, cap, cur, rfl, hg, hs, hcap, hm, hsz, htk⟩⟩ := h
  · exact .inl ⟨List.length_eq_zero_iff.1 h0, rfl⟩
  · refine .inr ⟨g, cap, rfl, hg, ?_, fun i hi => ⟨?_, ?_⟩⟩
    · rw [Array.getElem?_eq_some_iff] at hs; exact hs.1
    · have h3 : (cur.toList.take (cs.length * 1))[i]? = some cs[i] := by rw [htk]; simp [hi]
      rw [List.getElem?_take, if_pos (by omega)] at h3
      simp only [World.cell?, hs]
      rw [← Array.getElem?_toList, h3]
      rfl
    · simp [World.frozen?, hs]
theorem SBuf.toStrs {base : Nat} {w : World} {v : Value} {xs : List ByteArray} (h : SBuf base w v xs) (hl : xs.length ≤ 9223372036854775807) (hs : ∀ i (h : i < xs.length), xs[i].size ≤ 9223372036854775807) {n : Nat} (hn : n ≤ xs.length) :
    ∃ a cap, v = .slice a xs.length cap ∧ StrsAt base w (.slice a n cap) (xs.take n) := by
  have h' : w.ownsRow base 9 1 v (xs.map Value.string).length (xs.map Value.string) := by rw [List.length_map]; exact h
  rcases own_cells h' with ⟨h0, rfl⟩ | ⟨g, cap, rfl, hg, hlt, hc⟩
  · have hx : xs = [] := List.map_eq_nil_iff.1 h0
    subst hx
    have : n = 0 := by simpa using hn
    subst this
    exact ⟨none, 0, rfl, by simp, .inl ⟨none, 0, rfl, rfl⟩⟩
  · refine ⟨_, cap, by rw [List.length_map], by rw [List.length_take]; omega, .inr ⟨g, 0, cap, by rw [List.length_take, Nat.min_eq_left hn], ⟨hg, hlt⟩, fun i hi => ?_⟩⟩
    have hi' : i < xs.length := by rw [List.length_take] at hi; omega
    have := (hc i (by rw [List.length_map]; exact hi')).1
    simp only [List.getElem_map] at this
    exact ⟨by simpa [List.getElem_take] using this, by simpa [List.getElem_take] using hs i hi'⟩
end Go.Proofs.YtpmnepalchgcbaaDoor.Msg

namespace Go.Proofs.YtpmnepalchgcbaaDoor.Msg
set_option linter.unusedVariables false
set_option linter.unusedSimpArgs false

/-! the first piece -/
theorem cutGo_skip (c : UInt8) : ∀ (a b cur : List UInt8), (∀ x ∈ a, x ≠ c) → cutGo c cur (a ++ b) = cutGo c (cur ++ a) b
  | [], b, cur, _ => by simp
  | x :: a, b, cur, h => by
    rw [List.cons_append]
    conv => lhs; unfold cutGo
    rw [if_neg (h x (by simp)), cutGo_skip c a b (cur ++ [x]) (fun y hy => h y (by simp [hy]))]
    simp
theorem cutGo_head (c : UInt8) : ∀ (l cur : List UInt8), ∃ t ts, cutGo c cur l = (cur ++ t) :: ts
  | [], cur => ⟨[], [], by simp [cutGo]⟩
  | x :: l, cur => by
    unfold cutGo
    split
    · exact ⟨[], cutGo c [] l, by simp⟩
    · obtain ⟨t, ts, h⟩ := cutGo_head c l (cur ++ [x])
      exact ⟨x :: t, ts, by rw [h]; simp⟩
theorem cutL_head (c : UInt8) (a b : List UInt8) (h : ∀ x ∈ a, x ≠ c) : ∃ t ts, cutL c (a ++ b) = (a ++ t) :: ts := by
  unfold cutL
  rw [cutGo_skip c a b [] h]
  obtain ⟨t, ts, h2⟩ := cutGo_head c b ([] ++ a)
  exact ⟨t, ts, by rw [h2]; simp⟩
end Go.Proofs.YtpmnepalchgcbaaDoor.Msg
