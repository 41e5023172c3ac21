import Derived.Test.YtcphfhfockjljaaGreatDoorDrawKitwithBufPutwithParseData
import Derived.Test.YtcphfhfockjljaaGreatDoorMsgEqwithMsgEq2withMsgTo
import Derived.Test.YtcphfhfockjljaaGreatDoorMsgDatawithMsgSzwithMsgSz2
import Derived.Laws.BytesArg
namespace Go.Proofs.YtcphfhfockjljaaGreatDoor.Msg
open Go.ChangeShapes Go.WideShapes Go.ChangeAt Go.RowKit
set_option linter.unusedVariables false
set_option linter.unusedSimpArgs false

theorem cut_hit {c : UInt8} {l : List UInt8} {k fr : Nat} (hk : k < l.length) (hf : fr ≤ k) (h : l[k] = c) : cutGo c ((l.take k).drop fr) (l.drop k) = ((l.take k).drop fr) :: cutGo c ((l.take (k + 1)).drop (k + 1)) (l.drop (k + 1)) := by
  rw [List.drop_eq_getElem_cons hk]
  conv => lhs; unfold cutGo
  rw [if_pos h]
  congr 2
  rw [List.drop_eq_nil_of_le (by rw [List.length_take]; omega)]
theorem cut_miss {c : UInt8} {l : List UInt8} {k fr : Nat} (hk : k < l.length) (hf : fr ≤ k) (h : l[k] ≠ c) : cutGo c ((l.take k).drop fr) (l.drop k) = cutGo c ((l.take (k + 1)).drop fr) (l.drop (k + 1)) := by
  rw [List.drop_eq_getElem_cons hk]
  conv => lhs; unfold cutGo
  rw [if_neg h]
  congr 1
  rw [List.take_succ_eq_append_getElem hk, List.drop_append_of_le_length (by rw [List.length_take]; omega)]
theorem cut_end {c : UInt8} {l : List UInt8} {k fr : Nat} (hk : l.length ≤ k) : cutGo c ((l.take k).drop fr) (l.drop k) = [l.drop fr] := by
  rw [List.drop_eq_nil_of_le hk, List.take_of_length_le hk]
  rfl

set_option maxRecDepth 100000 in
set_option maxHeartbeats 1000000 in
theorem cut_any (s : ByteArray) (c : UInt8) (w : World) (hs : s.size ≤ 1048576) :
    Calls Tryz.prog 28 #[.string s, .int .u8 (c.toNat : Int)] w fun e w' => ∃ u, e = .returned u ∧ SBuf w.heap.size w' u ((cutL c s.data.toList).map txt) ∧ Below w.heap.size w w' := by
  obtain ⟨i0, hi, hz0, hz1, hz2⟩ := str_facts
  have hsz : s.data.toList.length = s.size := by simp
  go_enter Tryz.func28, Tryz.ntmps28
  go_wp2
  go_loopw [5, 6, 7] (fun v5 f i wr => ∃ (k fr : Nat) (ds : List (List UInt8)), k ≤ s.size ∧ fr ≤ k ∧ i = .int .i64 (k : Int) ∧ f = .int .i64 (fr : Int) ∧ ds.length ≤ k ∧ SBuf w.heap.size wr v5 (ds.map txt) ∧
      ds ++ cutGo c ((s.data.toList.take k).drop fr) (s.data.toList.drop k) = cutL c s.data.toList ∧ Grew (w.alloc (.cells #[] 9)) (.slice (some ⟨w.heap.size, 0, none⟩) 0 0) wr v5) (fun _ _ i _ => s.size - (intOf i).toNat)
  case atStart => exact ⟨0, 0, [], Nat.zero_le _, Nat.le_refl _, rfl, rfl, Nat.le_refl _, SBuf.empty _ w (Nat.le_refl _), by simp [cutL], Grew.refl _ _⟩
  case round =>
    obtain ⟨k, fr, ds, hk, hfr, rfl, rfl, hdl, hbuf, heq, hg⟩ := hrel
    have HE := hide heq
    have HG := hide hg
    have hz : w.heap.size + 1 ≤ wr.heap.size := by have := hg.1.size; simp at this; omega
    clear heq hg
    by_cases hlt : k < s.size
    · have hkl : k < s.data.toList.length := by omega
      have HK : Hid (s.data.toList[k] = s[k]) := rfl
      by_cases hc : s[k] = c
      · have hc' : ((s[k].toNat : Int) == (c.toNat : Int)) = true := by rw [beq_iff_eq, hc]
        have HX := hide (txt_extract s fr k)
        have HN : Hid ((ds ++ [(s.data.toList.take k).drop fr]) ++ cutGo c ((s.data.toList.take (k + 1)).drop (k + 1)) (s.data.toList.drop (k + 1)) = cutL c s.data.toList) := by
          rw [List.append_assoc, ← HE.out, cut_hit hkl hfr (HK.out.trans hc)]; rfl
        have hb1 : (fr : Int) ≤ (k : Int) := by omega
        have hb2 : (k : Int) ≤ (s.size : Int) := by omega
        clear hsz hc
        go_wp2_with (first
          | (at_builtin; refine wpList_append_own_at _ rfl _ _ 38 rfl w.heap.size 9 i0 (.string ByteArray.empty) 1 16 Tryz.underlying38 hi hz0 hz1 hz2 rfl (by decide) _ _ _ rfl (World.ownsRow.alloc hbuf _) ⟨wr.heap.size, 0, none⟩ 1 1 [.string (s.extract fr k)] rfl rfl ?c1 ?c2 ?c3 ?c4 ?c5 ?_)
          | fail)
        case c1 => exact new_cell _ _ _
        case c2 => exact one_str _
        case c3 => unfold maxLen; rw [List.length_map]; omega
        case c4 => rw [List.length_map]; omega
        case c5 => simp; omega
        intro v' w' hown' hgrow hnil hat
        have R := SBuf.snoc (xs := ds.map txt) (s.extract fr k) _ HG.out (n := ds.length) (by simp) (by simpa using hown') hgrow hat
        obtain ⟨R1, R2⟩ := R
        have HR1 : Hid (SBuf w.heap.size w' v' ((ds ++ [(s.data.toList.take k).drop fr]).map txt)) := by rw [List.map_append, List.map_cons, List.map_nil, ← HX.out]; exact R1
        have HR2 := hide R2
        clear hown' hgrow hnil hat R1 R2 hbuf
        go_wp2_with fail
        go_roundw
        case rel => exact ⟨k + 1, k + 1, _, by omega, Nat.le_refl _, by go_num, by go_num, by rw [List.length_append, List.length_singleton]; omega, HR1.out, HN.out, HR2.out⟩
        case measure => simp [intOf]; omega
      · have hc' : ((s[k].toNat : Int) == (c.toNat : Int)) = false := by
          rw [beq_eq_false_iff_ne]
          intro h
          exact hc (UInt8.toNat_inj.1 (by omega))
        have HN : Hid (ds ++ cutGo c ((s.data.toList.take (k + 1)).drop fr) (s.data.toList.drop (k + 1)) = cutL c s.data.toList) := by
          rw [← HE.out, cut_miss hkl hfr (fun h => hc (HK.out.symm.trans h))]; rfl
        clear hsz hc
        go_wp2_with fail
        go_roundw
        case rel => exact ⟨k + 1, fr, ds, by omega, by omega, by go_num, rfl, by omega, hbuf, HN.out, HG.out⟩
        case measure => simp [intOf]; omega
    · have HX := hide (txt_extract s fr s.size)
      have HN : Hid (ds ++ [s.data.toList.drop fr] = cutL c s.data.toList) := by rw [← HE.out, cut_end (by omega)]; rfl
      have hb1 : (fr : Int) ≤ (s.size : Int) := by omega
      have HT : Hid (s.extract fr s.size = txt (s.data.toList.drop fr)) := by rw [HX.out, ← hsz, List.take_length]; rfl
      clear hsz
      go_wp2_with (first
        | (at_builtin; refine wpList_append_own_at _ rfl _ _ 38 rfl w.heap.size 9 i0 (.string ByteArray.empty) 1 16 Tryz.underlying38 hi hz0 hz1 hz2 rfl (by decide) _ _ _ rfl (World.ownsRow.alloc hbuf _) ⟨wr.heap.size, 0, none⟩ 1 1 [.string (s.extract fr s.size)] rfl rfl ?c1 ?c2 ?c3 ?c4 ?c5 ?_)
        | fail)
      case c1 => exact new_cell _ _ _
      case c2 => exact one_str _
      case c3 => unfold maxLen; rw [List.length_map]; omega
      case c4 => rw [List.length_map]; omega
      case c5 => simp; omega
      intro v' w' hown' hgrow hnil hat
      have R := SBuf.snoc (xs := ds.map txt) (s.extract fr s.size) _ HG.out (n := ds.length) (by simp) (by simpa using hown') hgrow hat
      obtain ⟨R1, R2⟩ := R
      have HR1 : Hid (SBuf w.heap.size w' v' ((cutL c s.data.toList).map txt)) := by rw [← HN.out, List.map_append, List.map_cons, List.map_nil, ← HT.out]; exact R1
      have HB : Hid (Below w.heap.size w w') := ((Below.refl w.heap.size w).alloc (Nat.le_refl _) _).trans (R2.below (base := w.heap.size) (by simp [Value.ownBlock]) (by simp))
      clear hown' hgrow hnil hat R1 R2 hbuf
      go_wp2_with fail
      go_ret
      exact ⟨_, rfl, HR1.out, HB.out⟩
end Go.Proofs.YtcphfhfockjljaaGreatDoor.Msg

namespace Go.Proofs.YtcphfhfockjljaaGreatDoor.Msg
open Go.ChangeShapes Go.WideShapes Go.ChangeAt Go.RowKit
set_option linter.unusedVariables false
set_option linter.unusedSimpArgs false

theorem bcells {W w1 : World} (hb : Below W.heap.size W w1) : (∀ b o, b < W.heap.size → w1.cell? ⟨b, o, none⟩ = W.cell? ⟨b, o, none⟩) ∧ (∀ b o, b < W.heap.size → w1.frozen? ⟨b, o, none⟩ = W.frozen? ⟨b, o, none⟩) :=
  ⟨fun b o h => hb.cell (p := ⟨b, o, none⟩) h, fun b o h => hb.frozen (p := ⟨b, o, none⟩) h⟩

theorem Same.setCell {lo : Nat} {w w' : World} (h : Same lo w w') {b o : Nat} (hb : b < lo) (v : Value) : Same lo w (w'.setCell ⟨b, o, none⟩ v) :=
  ⟨by rw [Deep.nblk_setCell]; exact h.1, fun k h1 h2 => by rw [Deep.blk_setCell_other _ _ _ _ (by simp; omega)]; exact h.2 k h1 h2⟩
theorem Same.drew {lo : Nat} {w w' : World} (h : Same lo w w') : Same lo w w'.drew := h

/-- the state of a loop that fills a row of new elements, one cell each -/
def Filling {α : Type} (A : Nat → World → Value → α → Prop) (w : World) (t : TypeId) (xs : List α) (k : Nat) (w1 : World) : Prop :=
  (∃ f, w1.rowIs w.heap.size t xs.length f ∧ ∀ j (h : j < xs.length), j < k → A (w.heap.size + 1) w1 (f j) xs[j]) ∧ Below w.heap.size w w1

theorem filling_step {α : Type} {A : Nat → World → Value → α → Prop} (hsame : ∀ lo w w' v x, A lo w v x → Same lo w w' → A lo w' v x) (hmono : ∀ lo lo' w v x, A lo w v x → lo' ≤ lo → A lo' w v x)
    {w wr w2 : World} {t : TypeId} {xs : List α} {k : Nat} (h : Filling A w t xs k wr) (hb2 : Below wr.heap.size wr w2) (hk : k < xs.length) {u : Value} (hu : A wr.heap.size w2 u xs[k]) :
    Filling A w t xs (k + 1) (w2.setCell ⟨w.heap.size, k, none⟩ u) := by
  obtain ⟨⟨f, hrow, hel⟩, hb⟩ := h
  have hlt := hrow.lt
  have hrow2 := hrow.of_block (hb2.block _ hlt)
  refine ⟨⟨_, hrow2.set k u, fun j hj hjk => ?_⟩, (hb.trans (hb2.mono hb.size)).setCell (by simp) _⟩
  by_cases e : j = k
  · subst e
    rw [if_pos rfl]
    exact hsame _ _ _ _ _ (hmono _ (w.heap.size + 1) _ _ _ hu (by omega)) ((Same.refl _ _).setCell (by omega) _)
  · rw [if_neg e]
    have h1 := hel j hj (by omega)
    exact hsame _ _ _ _ _ (hsame _ _ _ _ _ h1 (Same.of_below hb2)) ((Same.refl _ _).setCell (by omega) _)

theorem reps_of_filling {w w1 : World} {t : TypeId} {xs : List Rep} {cap : Nat} (hl : xs.length ≤ 9223372036854775807) (h : Filling StrsAt w t xs xs.length w1) :
    RepsAt w.heap.size w1 (.slice (some ⟨w.heap.size, 0, none⟩) xs.length cap) xs := by
  obtain ⟨⟨f, hrow, hel⟩, hb⟩ := h
  exact ⟨hl, .inr ⟨_, 0, cap, rfl, ⟨Nat.le_refl _, hrow.lt⟩, fun i hi => ⟨f i, by have := hrow.cell hi; simpa using this, At.mono mono_str (hel i hi hi) (by omega)⟩⟩⟩

theorem info_Rep : (Tryz.prog.info? 51).map (fun i => (i.zero, i.size, i.bytes)) = some (some (.agg #[.slice none 0 0]), 1, 24) := by kernel_rfl

end Go.Proofs.YtcphfhfockjljaaGreatDoor.Msg

namespace Go.Proofs.YtcphfhfockjljaaGreatDoor.Msg
open Go.ChangeShapes Go.WideShapes Go.ChangeAt Go.RowKit
set_option linter.unusedVariables false
set_option linter.unusedSimpArgs false

def digsF : Nat → Nat → List UInt8
  | 0, _ => []
  | f + 1, n => if n = 0 then [] else digsF f (n / 10) ++ [UInt8.ofNat (48 + n % 10)]
def digs (n : Nat) : List UInt8 := digsF n n
theorem digsF_fuel : ∀ (f g n : Nat), n ≤ f → n ≤ g → digsF f n = digsF g n
  | 0, g, n, h1, h2 => by
    obtain rfl : n = 0 := by omega
    cases g <;> simp [digsF]
  | f + 1, 0, n, h1, h2 => by
    obtain rfl : n = 0 := by omega
    simp [digsF]
  | f + 1, g + 1, n, h1, h2 => by
    unfold digsF
    by_cases h : n = 0
    · simp [h]
    · rw [if_neg h, if_neg h, digsF_fuel f g (n / 10) (by omega) (by omega)]
theorem digs_zero : digs 0 = [] := rfl
theorem digs_step (n : Nat) (h : n ≠ 0) : digs n = digs (n / 10) ++ [UInt8.ofNat (48 + n % 10)] := by
  unfold digs
  obtain ⟨m, rfl⟩ : ∃ m, n = m + 1 := ⟨n - 1, by omega⟩
  conv => lhs; unfold digsF
  rw [if_neg h, digsF_fuel m ((m + 1) / 10) ((m + 1) / 10) (by omega) (by omega)]
/-- the mark of number k (from 1) -/
def markT (k : Nat) : ByteArray := ⟨#[109]⟩ ++ ⟨(digs k).toArray⟩
theorem bytes_ext {a b : ByteArray} (h : a.data.toList = b.data.toList) : a = b := by
  cases a; cases b
  simp only [ByteArray.mk.injEq]
  exact Array.toList_inj.1 h
theorem digs_len : ∀ (f n : Nat), n ≤ f → n < 18446744073709551616 → (digs n).length ≤ 20 := by
  intro f n _ h
  have key : ∀ (j n : Nat), n < 10 ^ j → (digs n).length ≤ j := by
    intro j
    induction j with
    | zero => intro n hn; obtain rfl : n = 0 := by omega
              simp [digs_zero]
    | succ j ih =>
      intro n hn
      by_cases h0 : n = 0
      · subst h0; simp [digs_zero]
      · rw [digs_step n h0, List.length_append, List.length_singleton]
        have := ih (n / 10) (by rw [Nat.pow_succ] at hn; omega)
        omega
  exact key 20 n (by omega)

end Go.Proofs.YtcphfhfockjljaaGreatDoor.Msg
