import Derived.Test.YtpmnepalchgcbaaGreatDoorMsgEqwithMsgEq2withMsgTo
import Derived.Test.YtpmnepalchgcbaaGreatDoorBkApply2withBufPutwithBufStr
namespace Go.Proofs.YtpmnepalchgcbaaGreatDoor.Msg
open Go.ChangeShapes Go.WideShapes Go.ChangeAt Go.RowKit
set_option linter.unusedVariables false
set_option linter.unusedSimpArgs false

/-- a text out of bytes -/
def txt (l : List UInt8) : ByteArray := ⟨l.toArray⟩
theorem txt_data (l : List UInt8) : (txt l).data.toList = l := by simp [txt]
theorem txt_size (l : List UInt8) : (txt l).size = l.length := by simp [txt, ByteArray.size]
theorem txt_of (s : ByteArray) : txt s.data.toList = s := by cases s; simp [txt]
theorem txt_extract (s : ByteArray) (a b : Nat) : s.extract a b = txt ((s.data.toList.take b).drop a) := by
  have : (s.extract a b).data.toList = (s.data.toList.take b).drop a := by
    rw [ByteArray.data_extract, Array.toList_extract]
    simp [List.extract, List.drop_take]
  rw [← this, txt_of]

/-- a text cut at every byte c: the pieces, 'cur' being what stands of the first -/
def cutGo (c : UInt8) (cur : List UInt8) : List UInt8 → List (List UInt8)
  | [] => [cur]
  | x :: xs => if x = c then cur :: cutGo c [] xs else cutGo c (cur ++ [x]) xs
def cutL (c : UInt8) (l : List UInt8) : List (List UInt8) := cutGo c [] l

/-- a slice of texts that the call owns -/
def SBuf (base : Nat) (w : World) (v : Value) (xs : List ByteArray) : Prop := w.ownsRow base 9 1 v xs.length (xs.map Value.string)
theorem str_facts : ∃ i, Tryz.prog.info? 9 = some i ∧ i.zero = some (.string ByteArray.empty) ∧ i.size = 1 ∧ i.bytes = 16 := by
  have h := info_string
  cases hi : Tryz.prog.info? 9 with
  | none => rw [hi] at h; cases h
  | some i =>
    rw [hi] at h
    simp only [Option.map_some, Option.some.injEq, Prod.mk.injEq] at h
    exact ⟨i, rfl, h.1, h.2.1, h.2.2⟩
theorem SBuf.empty (base : Nat) (w : World) (hb : base ≤ w.heap.size) : SBuf base (w.alloc (.cells #[] 9)) (.slice (some ⟨w.heap.size, 0, none⟩) 0 0) [] :=
  World.ownsRow_lit (base := base) (e := 9) (size := 1) w #[] 0 hb (by unfold maxLen; omega) rfl
theorem SBuf.snoc {base : Nat} {w wr w' : World} {v0 v v' : Value} {xs : List ByteArray} (x : ByteArray) (o : Obj) (hb : Grew w v0 wr v)
    {n : Nat} (hl : n = xs.length) (h : w'.ownsRow base 9 1 v' (n + 1) (xs.map Value.string ++ [.string x])) (hg : (wr.alloc o).grownBy w' v.ownBlock) (hat : v'.ownBlock = v.ownBlock ∨ v'.ownBlock = some (wr.heap.size + 1)) :
    SBuf base w' v' (xs ++ [x]) ∧ Grew w v0 w' v' := by
  subst hl
  refine ⟨by unfold SBuf; simpa using h, (hb.alloc o).trans ⟨hg, ?_⟩⟩
  rcases hat with hat | hat
  · exact .inl hat
  · exact .inr ⟨_, hat, by rw [Deep.nblk_alloc]; exact Nat.le_refl _⟩
theorem one_str (s : ByteArray) : ∀ u ∈ [Value.string s], u.oneCell' = true := by
  intro u hu
  simp at hu
  subst hu
  rfl
/-- the first n of an owned row of one-cell elements -/
theorem own_cells {base : Nat} {e : TypeId} {w : World} {v : Value} {cs : List Value} (h : w.ownsRow base e 1 v cs.length cs) :
    (cs = [] ∧ v = .slice none 0 0) ∨ ∃ g cap, v = .slice (some ⟨g, 0, none⟩) cs.length cap ∧ base ≤ g ∧ g < w.heap.size ∧ (∀ i (hi : i < cs.length), w.cell? ⟨g, i, none⟩ = some cs[i] ∧ w.frozen? ⟨g, i, none⟩ = false) := by
  obtain ⟨hlen, ⟨rfl, h0⟩ | ⟨g, cap, cur, rfl, hg, hs, hcap, hm, hsz, htk⟩⟩ := h
  · exact .inl ⟨List.length_eq_zero_iff.1 h0, rfl⟩
  · refine .inr ⟨g, cap, rfl, hg, ?_, fun i hi => ⟨?_, ?_⟩⟩
    · rw [Array.getElem?_eq_some_iff] at hs; exact hs.1
    · have h3 : (cur.toList.take (cs.length * 1))[i]? = some cs[i] := by rw [htk]; simp [hi]
      rw [List.getElem?_take, if_pos (by omega)] at h3
      simp only [World.cell?, hs]
      rw [← Array.getElem?_toList, h3]
      rfl
    · simp [World.frozen?, hs]
theorem SBuf.toStrs {base : Nat} {w : World} {v : Value} {xs : List ByteArray} (h : SBuf base w v xs) (hl : xs.length ≤ 9223372036854775807) (hs : ∀ i (h : i < xs.length), xs[i].size ≤ 9223372036854775807) {n : Nat} (hn : n ≤ xs.length) :
    ∃ a cap, v = .slice a xs.length cap ∧ StrsAt base w (.slice a n cap) (xs.take n) := by
  have h' : w.ownsRow base 9 1 v (xs.map Value.string).length (xs.map Value.string) := by rw [List.length_map]; exact h
  rcases own_cells h' with ⟨h0, rfl⟩ | ⟨g, cap, rfl, hg, hlt, hc⟩
  · have hx : xs = [] := List.map_eq_nil_iff.1 h0
    subst hx
    have : n = 0 := by simpa using hn
    subst this
    exact ⟨none, 0, rfl, by simp, .inl ⟨none, 0, rfl, rfl⟩⟩
  · refine ⟨_, cap, by rw [List.length_map], by rw [List.length_take]; omega, .inr ⟨g, 0, cap, by rw [List.length_take, Nat.min_eq_left hn], ⟨hg, hlt⟩, fun i hi => ?_⟩⟩
    have hi' : i < xs.length := by rw [List.length_take] at hi; omega
    have := (hc i (by rw [List.length_map]; exact hi')).1
    simp only [List.getElem_map] at this
    exact ⟨by simpa [List.getElem_take] using this, by simpa [List.getElem_take] using hs i hi'⟩
end Go.Proofs.YtpmnepalchgcbaaGreatDoor.Msg

namespace Go.Proofs.YtpmnepalchgcbaaGreatDoor.Msg
set_option linter.unusedVariables false
set_option linter.unusedSimpArgs false

/-! the first piece -/
theorem cutGo_skip (c : UInt8) : ∀ (a b cur : List UInt8), (∀ x ∈ a, x ≠ c) → cutGo c cur (a ++ b) = cutGo c (cur ++ a) b
  | [], b, cur, _ => by simp
  | x :: a, b, cur, h => by
    rw [List.cons_append]
    conv => lhs; unfold cutGo
    rw [if_neg (h x (by simp)), cutGo_skip c a b (cur ++ [x]) (fun y hy => h y (by simp [hy]))]
    simp
theorem cutGo_head (c : UInt8) : ∀ (l cur : List UInt8), ∃ t ts, cutGo c cur l = (cur ++ t) :: ts
  | [], cur => ⟨[], [], by simp [cutGo]⟩
  | x :: l, cur => by
    unfold cutGo
    split
    · exact ⟨[], cutGo c [] l, by simp⟩
    · obtain ⟨t, ts, h⟩ := cutGo_head c l (cur ++ [x])
      exact ⟨x :: t, ts, by rw [h]; simp⟩
theorem cutL_head (c : UInt8) (a b : List UInt8) (h : ∀ x ∈ a, x ≠ c) : ∃ t ts, cutL c (a ++ b) = (a ++ t) :: ts := by
  unfold cutL
  rw [cutGo_skip c a b [] h]
  obtain ⟨t, ts, h2⟩ := cutGo_head c b ([] ++ a)
  exact ⟨t, ts, by rw [h2]; simp⟩
end Go.Proofs.YtpmnepalchgcbaaGreatDoor.Msg

namespace Go.Proofs.YtpmnepalchgcbaaGreatDoor.Msg
open Go.ChangeShapes Go.WideShapes Go.ChangeAt Go.RowKit
set_option linter.unusedVariables false
set_option linter.unusedSimpArgs false

theorem cut_hit {c : UInt8} {l : List UInt8} {k fr : Nat} (hk : k < l.length) (hf : fr ≤ k) (h : l[k] = c) : cutGo c ((l.take k).drop fr) (l.drop k) = ((l.take k).drop fr) :: cutGo c ((l.take (k + 1)).drop (k + 1)) (l.drop (k + 1)) := by
  rw [List.drop_eq_getElem_cons hk]
  conv => lhs; unfold cutGo
  rw [if_pos h]
  congr 2
  rw [List.drop_eq_nil_of_le (by rw [List.length_take]; omega)]
theorem cut_miss {c : UInt8} {l : List UInt8} {k fr : Nat} (hk : k < l.length) (hf : fr ≤ k) (h : l[k] ≠ c) : cutGo c ((l.take k).drop fr) (l.drop k) = cutGo c ((l.take (k + 1)).drop fr) (l.drop (k + 1)) := by
  rw [List.drop_eq_getElem_cons hk]
  conv => lhs; unfold cutGo
  rw [if_neg h]
  congr 1
  rw [List.take_succ_eq_append_getElem hk, List.drop_append_of_le_length (by rw [List.length_take]; omega)]
theorem cut_end {c : UInt8} {l : List UInt8} {k fr : Nat} (hk : l.length ≤ k) : cutGo c ((l.take k).drop fr) (l.drop k) = [l.drop fr] := by
  rw [List.drop_eq_nil_of_le hk, List.take_of_length_le hk]
  rfl

set_option maxRecDepth 100000 in
set_option maxHeartbeats 1000000 in
theorem cut_any (s : ByteArray) (c : UInt8) (w : World) (hs : s.size ≤ 1048576) :
    Calls Tryz.prog 23 #[.string s, .int .u8 (c.toNat : Int)] w fun e w' => ∃ u, e = .returned u ∧ SBuf w.heap.size w' u ((cutL c s.data.toList).map txt) ∧ Below w.heap.size w w' := by
  obtain ⟨i0, hi, hz0, hz1, hz2⟩ := str_facts
  have hsz : s.data.toList.length = s.size := by simp
  go_enter Tryz.func23, Tryz.ntmps23
  go_wp2
  go_loopw [5, 6, 7] (fun v5 f i wr => ∃ (k fr : Nat) (ds : List (List UInt8)), k ≤ s.size ∧ fr ≤ k ∧ i = .int .i64 (k : Int) ∧ f = .int .i64 (fr : Int) ∧ ds.length ≤ k ∧ SBuf w.heap.size wr v5 (ds.map txt) ∧
      ds ++ cutGo c ((s.data.toList.take k).drop fr) (s.data.toList.drop k) = cutL c s.data.toList ∧ Grew (w.alloc (.cells #[] 9)) (.slice (some ⟨w.heap.size, 0, none⟩) 0 0) wr v5) (fun _ _ i _ => s.size - (intOf i).toNat)
  case atStart => exact ⟨0, 0, [], Nat.zero_le _, Nat.le_refl _, rfl, rfl, Nat.le_refl _, SBuf.empty _ w (Nat.le_refl _), by simp [cutL], Grew.refl _ _⟩
  case round =>
    obtain ⟨k, fr, ds, hk, hfr, rfl, rfl, hdl, hbuf, heq, hg⟩ := hrel
    have HE := hide heq
    have HG := hide hg
    have hz : w.heap.size + 1 ≤ wr.heap.size := by have := hg.1.size; simp at this; omega
    clear heq hg
    by_cases hlt : k < s.size
    · have hkl : k < s.data.toList.length := by omega
      have HK : Hid (s.data.toList[k] = s[k]) := rfl
      by_cases hc : s[k] = c
      · have hc' : ((s[k].toNat : Int) == (c.toNat : Int)) = true := by rw [beq_iff_eq, hc]
        have HX := hide (txt_extract s fr k)
        have HN : Hid ((ds ++ [(s.data.toList.take k).drop fr]) ++ cutGo c ((s.data.toList.take (k + 1)).drop (k + 1)) (s.data.toList.drop (k + 1)) = cutL c s.data.toList) := by
          rw [List.append_assoc, ← HE.out, cut_hit hkl hfr (HK.out.trans hc)]; rfl
        have hb1 : (fr : Int) ≤ (k : Int) := by omega
        have hb2 : (k : Int) ≤ (s.size : Int) := by omega
        clear hsz hc
        go_wp2_with (first
          | (at_builtin; refine wpList_append_own_at _ rfl _ _ 29 rfl w.heap.size 9 i0 (.string ByteArray.empty) 1 16 Tryz.underlying29 hi hz0 hz1 hz2 rfl (by decide) _ _ _ rfl (World.ownsRow.alloc hbuf _) ⟨wr.heap.size, 0, none⟩ 1 1 [.string (s.extract fr k)] rfl rfl ?c1 ?c2 ?c3 ?c4 ?c5 ?_)
          | fail)
        case c1 => exact new_cell _ _ _
        case c2 => exact one_str _
        case c3 => unfold maxLen; rw [List.length_map]; omega
        case c4 => rw [List.length_map]; omega
        case c5 => simp; omega
        intro v' w' hown' hgrow hnil hat
        have R := SBuf.snoc (xs := ds.map txt) (s.extract fr k) _ HG.out (n := ds.length) (by simp) (by simpa using hown') hgrow hat
        obtain ⟨R1, R2⟩ := R
        have HR1 : Hid (SBuf w.heap.size w' v' ((ds ++ [(s.data.toList.take k).drop fr]).map txt)) := by rw [List.map_append, List.map_cons, List.map_nil, ← HX.out]; exact R1
        have HR2 := hide R2
        clear hown' hgrow hnil hat R1 R2 hbuf
        go_wp2_with fail
        go_roundw
        case rel => exact ⟨k + 1, k + 1, _, by omega, Nat.le_refl _, by go_num, by go_num, by rw [List.length_append, List.length_singleton]; omega, HR1.out, HN.out, HR2.out⟩
        case measure => simp [intOf]; omega
      · have hc' : ((s[k].toNat : Int) == (c.toNat : Int)) = false := by
          rw [beq_eq_false_iff_ne]
          intro h
          exact hc (UInt8.toNat_inj.1 (by omega))
        have HN : Hid (ds ++ cutGo c ((s.data.toList.take (k + 1)).drop fr) (s.data.toList.drop (k + 1)) = cutL c s.data.toList) := by
          rw [← HE.out, cut_miss hkl hfr (fun h => hc (HK.out.symm.trans h))]; rfl
        clear hsz hc
        go_wp2_with fail
        go_roundw
        case rel => exact ⟨k + 1, fr, ds, by omega, by omega, by go_num, rfl, by omega, hbuf, HN.out, HG.out⟩
        case measure => simp [intOf]; omega
    · have HX := hide (txt_extract s fr s.size)
      have HN : Hid (ds ++ [s.data.toList.drop fr] = cutL c s.data.toList) := by rw [← HE.out, cut_end (by omega)]; rfl
      have hb1 : (fr : Int) ≤ (s.size : Int) := by omega
      have HT : Hid (s.extract fr s.size = txt (s.data.toList.drop fr)) := by rw [HX.out, ← hsz, List.take_length]; rfl
      clear hsz
      go_wp2_with (first
        | (at_builtin; refine wpList_append_own_at _ rfl _ _ 29 rfl w.heap.size 9 i0 (.string ByteArray.empty) 1 16 Tryz.underlying29 hi hz0 hz1 hz2 rfl (by decide) _ _ _ rfl (World.ownsRow.alloc hbuf _) ⟨wr.heap.size, 0, none⟩ 1 1 [.string (s.extract fr s.size)] rfl rfl ?c1 ?c2 ?c3 ?c4 ?c5 ?_)
        | fail)
      case c1 => exact new_cell _ _ _
      case c2 => exact one_str _
      case c3 => unfold maxLen; rw [List.length_map]; omega
      case c4 => rw [List.length_map]; omega
      case c5 => simp; omega
      intro v' w' hown' hgrow hnil hat
      have R := SBuf.snoc (xs := ds.map txt) (s.extract fr s.size) _ HG.out (n := ds.length) (by simp) (by simpa using hown') hgrow hat
      obtain ⟨R1, R2⟩ := R
      have HR1 : Hid (SBuf w.heap.size w' v' ((cutL c s.data.toList).map txt)) := by rw [← HN.out, List.map_append, List.map_cons, List.map_nil, ← HT.out]; exact R1
      have HB : Hid (Below w.heap.size w w') := ((Below.refl w.heap.size w).alloc (Nat.le_refl _) _).trans (R2.below (base := w.heap.size) (by simp [Value.ownBlock]) (by simp))
      clear hown' hgrow hnil hat R1 R2 hbuf
      go_wp2_with fail
      go_ret
      exact ⟨_, rfl, HR1.out, HB.out⟩
end Go.Proofs.YtpmnepalchgcbaaGreatDoor.Msg
