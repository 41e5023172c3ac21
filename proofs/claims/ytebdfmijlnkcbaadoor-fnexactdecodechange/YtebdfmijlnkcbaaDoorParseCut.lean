import Derived.Test.YtebdfmijlnkcbaaDoorParseData
namespace Go.Proofs.YtebdfmijlnkcbaaDoor.Msg
open Go.ChangeShapes Go.WideShapes Go.ChangeAt Go.RowKit
set_option linter.unusedVariables false
set_option linter.unusedSimpArgs false

theorem cut_hit {c : UInt8} {l : List UInt8} {k fr : Nat} (hk : k < l.length) (hf : fr ≤ k) (h : l[k] = c) : cutGo c ((l.take k).drop fr) (l.drop k) = ((l.take k).drop fr) :: cutGo c ((l.take (k + 1)).drop (k + 1)) (l.drop (k + 1)) := by
  rw [List.drop_eq_getElem_cons hk]
  conv => lhs; unfold cutGo
  rw [if_pos h]
  congr 2
  rw [List.drop_eq_nil_of_le (by rw [List.length_take]; omega)]
theorem cut_miss {c : UInt8} {l : List UInt8} {k fr : Nat} (hk : k < l.length) (hf : fr ≤ k) (h : l[k] ≠ c) : cutGo c ((l.take k).drop fr) (l.drop k) = cutGo c ((l.take (k + 1)).drop fr) (l.drop (k + 1)) := by
  rw [List.drop_eq_getElem_cons hk]
  conv => lhs; unfold cutGo
  rw [if_neg h]
  congr 1
  rw [List.take_succ_eq_append_getElem hk, List.drop_append_of_le_length (by rw [List.length_take]; omega)]
theorem cut_end {c : UInt8} {l : List UInt8} {k fr : Nat} (hk : l.length ≤ k) : cutGo c ((l.take k).drop fr) (l.drop k) = [l.drop fr] := by
  rw [List.drop_eq_nil_of_le hk, List.take_of_length_le hk]
  rfl

set_option maxRecDepth 100000 in
set_option maxHeartbeats 1000000 in
theorem cut_any (s : ByteArray) (c : UInt8) (w : World) (hs : s.size ≤ 1048576) :
    Calls Tryd.prog 9 #[.string s, .int .u8 (c.toNat : Int)] w fun e w' => ∃ u, e = .returned u ∧ SBuf w.heap.size w' u ((cutL c s.data.toList).map txt) ∧ Below w.heap.size w w' := by
  obtain ⟨i0, hi, hz0, hz1, hz2⟩ := str_facts
  have hsz : s.data.toList.length = s.size := by simp
  go_enter Tryd.func9, Tryd.ntmps9
  go_wp2
  go_loopw [5, 6, 7] (fun v5 f i wr => ∃ (k fr : Nat) (ds : List (List UInt8)), k ≤ s.size ∧ fr ≤ k ∧ i = .int .i64 (k : Int) ∧ f = .int .i64 (fr : Int) ∧ ds.length ≤ k ∧ SBuf w.heap.size wr v5 (ds.map txt) ∧
      ds ++ cutGo c ((s.data.toList.take k).drop fr) (s.data.toList.drop k) = cutL c s.data.toList ∧ Grew (w.alloc (.cells #[] 9)) (.slice (some ⟨w.heap.size, 0, none⟩) 0 0) wr v5) (fun _ _ i _ => s.size - (intOf i).toNat)
  case atStart => exact ⟨0, 0, [], Nat.zero_le _, Nat.le_refl _, rfl, rfl, Nat.le_refl _, SBuf.empty _ w (Nat.le_refl _), by simp [cutL], Grew.refl _ _⟩
  case round =>
    obtain ⟨k, fr, ds, hk, hfr, rfl, rfl, hdl, hbuf, heq, hg⟩ := hrel
    have HE := hide heq
    have HG := hide hg
    have hz : w.heap.size + 1 ≤ wr.heap.size := by have := hg.1.size; simp at this; omega
    clear heq hg
    by_cases hlt : k < s.size
    · have hkl : k < s.data.toList.length := by omega
      have HK : Hid (s.data.toList[k] = s[k]) := rfl
      by_cases hc : s[k] = c
      · have hc' : ((s[k].toNat : Int) == (c.toNat : Int)) = true := by rw [beq_iff_eq, hc]
        have HX := hide (txt_extract s fr k)
        have HN : Hid ((ds ++ [(s.data.toList.take k).drop fr]) ++ cutGo c ((s.data.toList.take (k + 1)).drop (k + 1)) (s.data.toList.drop (k + 1)) = cutL c s.data.toList) := by
          rw [List.append_assoc, ← HE.out, cut_hit hkl hfr (HK.out.trans hc)]; rfl
        have hb1 : (fr : Int) ≤ (k : Int) := by omega
        have hb2 : (k : Int) ≤ (s.size : Int) := by omega
        clear hsz hc
        go_wp2_with (first
          | (at_builtin; refine wpList_append_own_at _ rfl _ _ 22 rfl w.heap.size 9 i0 (.string ByteArray.empty) 1 16 Tryd.underlying22 hi hz0 hz1 hz2 rfl (by decide) _ _ _ rfl (World.ownsRow.alloc hbuf _) ⟨wr.heap.size, 0, none⟩ 1 1 [.string (s.extract fr k)] rfl rfl ?c1 ?c2 ?c3 ?c4 ?c5 ?_)
          | fail)
        case c1 => exact new_cell _ _ _
        case c2 => exact one_str _
        case c3 => unfold maxLen; rw [List.length_map]; omega
        case c4 => rw [List.length_map]; omega
        case c5 => simp; omega
        intro v' w' hown' hgrow hnil hat
        have R := SBuf.snoc (xs := ds.map txt) (s.extract fr k) _ HG.out (n := ds.length) (by simp) (by simpa using hown') hgrow hat
        obtain ⟨R1, R2⟩ := R
        have HR1 : Hid (SBuf w.heap.size w' v' ((ds ++ [(s.data.toList.take k).drop fr]).map txt)) := by rw [List.map_append, List.map_cons, List.map_nil, ← HX.out]; exact R1
        have HR2 := hide R2
        clear hown' hgrow hnil hat R1 R2 hbuf
        go_wp2_with fail
        go_roundw
        case rel => exact ⟨k + 1, k + 1, _, by omega, Nat.le_refl _, by go_num, by go_num, by rw [List.length_append, List.length_singleton]; omega, HR1.out, HN.out, HR2.out⟩
        case measure => simp [intOf]; omega
      · have hc' : ((s[k].toNat : Int) == (c.toNat : Int)) = false := by
          rw [beq_eq_false_iff_ne]
          intro h
          exact hc (UInt8.toNat_inj.1 (by omega))
        have HN : Hid (ds ++ cutGo c ((s.data.toList.take (k + 1)).drop fr) (s.data.toList.drop (k + 1)) = cutL c s.data.toList) := by
          rw [← HE.out, cut_miss hkl hfr (fun h => hc (HK.out.symm.trans h))]; rfl
        clear hsz hc
        go_wp2_with fail
        go_roundw
        case rel => exact ⟨k + 1, fr, ds, by omega, by omega, by go_num, rfl, by omega, hbuf, HN.out, HG.out⟩
        case measure => simp [intOf]; omega
    · have HX := hide (txt_extract s fr s.size)
      have HN : Hid (ds ++ [s.data.toList.drop fr] = cutL c s.data.toList) := by rw [← HE.out, cut_end (by omega)]; rfl
      have hb1 : (fr : Int) ≤ (s.size : Int) := by omega
      have HT : Hid (s.extract fr s.size = txt (s.data.toList.drop fr)) := by rw [HX.out, ← hsz, List.take_length]; rfl
      clear hsz
      go_wp2_with (first
        | (at_builtin; refine wpList_append_own_at _ rfl _ _ 22 rfl w.heap.size 9 i0 (.string ByteArray.empty) 1 16 Tryd.underlying22 hi hz0 hz1 hz2 rfl (by decide) _ _ _ rfl (World.ownsRow.alloc hbuf _) ⟨wr.heap.size, 0, none⟩ 1 1 [.string (s.extract fr s.size)] rfl rfl ?c1 ?c2 ?c3 ?c4 ?c5 ?_)
        | fail)
      case c1 => exact new_cell _ _ _
      case c2 => exact one_str _
      case c3 => unfold maxLen; rw [List.length_map]; omega
      case c4 => rw [List.length_map]; omega
      case c5 => simp; omega
      intro v' w' hown' hgrow hnil hat
      have R := SBuf.snoc (xs := ds.map txt) (s.extract fr s.size) _ HG.out (n := ds.length) (by simp) (by simpa using hown') hgrow hat
      obtain ⟨R1, R2⟩ := R
      have HR1 : Hid (SBuf w.heap.size w' v' ((cutL c s.data.toList).map txt)) := by rw [← HN.out, List.map_append, List.map_cons, List.map_nil, ← HT.out]; exact R1
      have HB : Hid (Below w.heap.size w w') := ((Below.refl w.heap.size w).alloc (Nat.le_refl _) _).trans (R2.below (base := w.heap.size) (by simp [Value.ownBlock]) (by simp))
      clear hown' hgrow hnil hat R1 R2 hbuf
      go_wp2_with fail
      go_ret
      exact ⟨_, rfl, HR1.out, HB.out⟩
end Go.Proofs.YtebdfmijlnkcbaaDoor.Msg
