import Derived.Test.YtcphfhfockjljaaGreatDoorFlatKitwithFlatAppwithCutPure
import Derived.Test.YtcphfhfockjljaaGreatDoorMarkDatawithParseCompswithMarkStr
import Derived.Lib.Split
import Derived.Lib.SplitLaws
import Derived.Lib.CountLaws
import Derived.Lib.IndexBytes
import Derived.Test.YtcphfhfockjljaaGreatDoorShelf
import Derived.Test.YtcphfhfockjljaaGreatDoorParseListswithTrimBufwithDrawComp
namespace Go.Proofs.YtcphfhfockjljaaGreatDoor.Msg
set_option linter.unusedVariables false
set_option linter.unusedSimpArgs false

theorem indexByte_parts (c : UInt8) : ∀ l : List UInt8, (Lib.indexByte l c = -1 ∧ ∀ x ∈ l, x ≠ c) ∨ ∃ i : Nat, Lib.indexByte l c = i ∧ i < l.length ∧ l = l.take i ++ c :: l.drop (i + 1) ∧ ∀ x ∈ l.take i, x ≠ c
  | [] => .inl ⟨rfl, fun _ h => by cases h⟩
  | b :: l => by
    by_cases hb : b = c
    · subst hb
      refine .inr ⟨0, ?_, by simp, by simp, fun x h => by simp at h⟩
      unfold Lib.indexByte
      rw [if_pos (by simp)]
      rfl
    · have hb' : (b == c) = false := by rw [beq_eq_false_iff_ne]; exact hb
      rcases indexByte_parts c l with ⟨h1, h2⟩ | ⟨i, h1, h2, h3, h4⟩
      · refine .inl ⟨?_, fun x hx => ?_⟩
        · unfold Lib.indexByte
          rw [hb', h1]; rfl
        · rw [List.mem_cons] at hx
          rcases hx with rfl | hx
          · exact hb
          · exact h2 x hx
      · refine .inr ⟨i + 1, ?_, by simp; omega, ?_, fun x hx => ?_⟩
        · unfold Lib.indexByte
          rw [hb', h1]
          have : ((i : Int) == -1) = false := by rw [beq_eq_false_iff_ne]; omega
          rw [this]
          simp only [Bool.false_eq_true, if_false]
          omega
        · rw [List.take_succ_cons, List.drop_succ_cons, List.cons_append, ← h3]
        · rw [List.take_succ_cons, List.mem_cons] at hx
          rcases hx with rfl | hx
          · exact hb
          · exact h4 x hx

theorem cutGo_hit (c : UInt8) (a b cur : List UInt8) (h : ∀ x ∈ a, x ≠ c) : cutGo c cur (a ++ c :: b) = (cur ++ a) :: cutGo c [] b := by
  rw [cutGo_skip c a (c :: b) cur h]
  conv => lhs; unfold cutGo
  rw [if_pos rfl]
theorem cutL_none (c : UInt8) (l : List UInt8) (h : ∀ x ∈ l, x ≠ c) : cutL c l = [l] := by
  unfold cutL
  have := cutGo_skip c l [] [] h
  rw [List.append_nil] at this
  rw [this]
  simp [cutGo]

theorem splitK_cut (c : UInt8) : ∀ (n : Nat) (l : List UInt8), l.length ≤ n → Lib.splitK [c] 0 (Lib.count l [c]) l = cutL c l
  | n, l, hn => by
    rcases indexByte_parts c l with ⟨h1, h2⟩ | ⟨i, h1, h2, h3, h4⟩
    · rw [Lib.count_miss (by rw [Lib.index_one]; exact h1), cutL_none c l h2]
      rfl
    · match n with
      | 0 => omega
      | n + 1 =>
        have hi : Lib.index l [c] = i := by rw [Lib.index_one]; exact h1
        have ih := splitK_cut c n (l.drop (i + 1)) (by simp; omega)
        rw [Lib.count_hit (by simp) hi, Nat.add_comm 1]
        unfold Lib.splitK
        rw [hi]
        have hm : ((i : Int) == -1) = false := by rw [beq_eq_false_iff_ne]; omega
        rw [hm]
        simp only [Bool.false_eq_true, if_false, Int.toNat_natCast, Nat.add_zero, List.length_cons, List.length_nil, Nat.zero_add]
        rw [ih]
        conv => rhs; rw [h3]
        unfold cutL
        rw [cutGo_hit c _ _ [] h4]
        rfl

theorem splitB_cut (c : UInt8) (s : ByteArray) : Lib.splitB ⟨#[c]⟩ 0 (Lib.countB s ⟨#[c]⟩) s = (cutL c s.data.toList).map txt := by
  have h1 := Lib.splitB_data ⟨#[c]⟩ 0 (Lib.countB s ⟨#[c]⟩) s
  have h2 : Lib.countB s ⟨#[c]⟩ = Lib.count s.data.toList [c] := rfl
  rw [h2] at h1 ⊢
  have h3 : Lib.splitK (⟨#[c]⟩ : ByteArray).data.toList 0 (Lib.count s.data.toList [c]) s.data.toList = cutL c s.data.toList := splitK_cut c _ _ (Nat.le_refl _)
  rw [h3] at h1
  rw [← h1, List.map_map]
  conv => lhs; rw [← List.map_id (Lib.splitB _ _ _ _)]
  apply List.map_congr_left
  intro x _
  exact (txt_of x).symm
theorem countB_cut (c : UInt8) (s : ByteArray) : Lib.countB s ⟨#[c]⟩ + 1 = (cutL c s.data.toList).length := by
  have h := Lib.splitB_all ⟨#[c]⟩ (Nat.le_refl 1) 0 _ s rfl
  rw [splitB_cut, List.length_map] at h
  exact h.symm
end Go.Proofs.YtcphfhfockjljaaGreatDoor.Msg

namespace Go.Proofs.YtcphfhfockjljaaGreatDoor.Msg
open Go.ChangeShapes Go.WideShapes Go.ChangeAt Go.RowKit
set_option linter.unusedVariables false
set_option linter.unusedSimpArgs false

/-- the library's variable that strings.Index reads holds some number -/
def Mx (w : World) : Prop := ∃ m, w.cell? ⟨0, 0, none⟩ = some (.int .i64 m)
theorem Mx.pos {w : World} (h : Mx w) : 0 < w.heap.size := by
  obtain ⟨m, h⟩ := h
  by_cases h0 : 0 < w.heap.size
  · exact h0
  · simp [World.cell?, Array.getElem?_eq_none (show w.heap.size ≤ 0 by omega)] at h
theorem Mx.below {w w' : World} (h : Mx w) {B : Nat} (hB : 0 < B) (hb : Below B w w') : Mx w' := by
  have hp := h.pos
  obtain ⟨m, h⟩ := h
  exact ⟨m, by rw [hb.cell (p := ⟨0, 0, none⟩) hB]; exact h⟩
theorem Mx.kept {w w' : World} (h : Mx w) (hb : Below w.heap.size w w') : Mx w' := h.below h.pos hb

theorem mark_text (c : UInt8) (w : World) : Sem.run Tryz.prog (convert 22 9 (.slice (some ⟨w.heap.size, 0, none⟩) 1 1)) (w.alloc (.cells #[.int .u8 (c.toNat : Int)] 5)) = .ok (.string ⟨#[c]⟩) (w.alloc (.cells #[.int .u8 (c.toNat : Int)] 5)) := by
  have h := run_convert_bytes_arg (w.alloc (.cells #[.int .u8 (c.toNat : Int)] 5)) 22 5 Tryz.underlying22 Tryz.underlying5 w.heap.size 0 1 1 [(c.toNat : Int)] rfl (by
    intro i hi
    have : i = 0 := by omega
    subst this
    simp) 9 Tryz.underlying9
  have e : strOfNums [(c.toNat : Int)] = (⟨#[c]⟩ : ByteArray) := by unfold strOfNums; simp
  rw [h, e]

set_option maxHeartbeats 1000000 in
theorem implCut_any (s : ByteArray) (c : UInt8) (w : World) (hs : s.size ≤ 1048576) (hm : Mx w) :
    Calls Tryz.prog 21 #[.string s, .int .u8 (c.toNat : Int)] w fun e w' => ∃ u, e = .returned u ∧ SBuf w.heap.size w' u ((cutL c s.data.toList).map txt) ∧ Below w.heap.size w w' := by
  have hp := hm.pos
  obtain ⟨m, hmc⟩ := hm
  have hb0 := (Below.refl w.heap.size w).alloc (Nat.le_refl _) (Obj.cells #[.int .u8 (c.toNat : Int)] 5)
  have hm2 : (w.alloc (.cells #[.int .u8 (c.toNat : Int)] 5)).cell? ⟨0, 0, none⟩ = some (.int .i64 m) := by rw [hb0.cell (p := ⟨0, 0, none⟩) hp]; exact hmc
  have hcv := mark_text c w
  have hn := countB_cut c s
  have hlen := cutL_len c s.data.toList
  have hsl : s.data.toList.length = s.size := by simp
  have HFIN : Hid (SBuf w.heap.size ((w.alloc (.cells #[.int .u8 (c.toNat : Int)] 5)).alloc (.cells ((Lib.splitB ⟨#[c]⟩ 0 (Lib.countB s ⟨#[c]⟩) s).map Value.string).toArray 9)) (.slice (some ⟨w.heap.size + 1, 0, none⟩) (Lib.countB s ⟨#[c]⟩ + 1) (Lib.countB s ⟨#[c]⟩ + 1)) ((cutL c s.data.toList).map txt)) := by
    have h := World.ownsRow_lit (base := w.heap.size) (e := 9) (size := 1) (w.alloc (.cells #[.int .u8 (c.toNat : Int)] 5)) ((Lib.splitB ⟨#[c]⟩ 0 (Lib.countB s ⟨#[c]⟩) s).map Value.string).toArray (Lib.countB s ⟨#[c]⟩ + 1) (by simp) (by unfold maxLen; omega) (by rw [splitB_cut, hn]; simp)
    have hs1 : (w.alloc (.cells #[.int .u8 (c.toNat : Int)] 5)).heap.size = w.heap.size + 1 := by simp
    rw [hs1] at h
    show World.ownsRow _ _ _ _ _ _ _
    rw [splitB_cut] at h ⊢
    rw [List.length_map, ← hn]
    simpa using h
  have HB : Hid (Below w.heap.size w ((w.alloc (.cells #[.int .u8 (c.toNat : Int)] 5)).alloc (.cells ((Lib.splitB ⟨#[c]⟩ 0 (Lib.countB s ⟨#[c]⟩) s).map Value.string).toArray 9))) := hb0.alloc (by simp) _
  clear hn hlen hsl hmc
  go_enter Tryz.func21, Tryz.ntmps21
  go_wp2_with fail
  refine (Tryz.strings_Split s ⟨#[c]⟩ m _ (by omega) hm2 (Nat.le_refl 1)).mono ?_
  rintro e w' ⟨rfl, rfl⟩
  clear hcv
  go_wp2_with fail
  go_ret
  exact ⟨_, rfl, HFIN.out, HB.out⟩
end Go.Proofs.YtcphfhfockjljaaGreatDoor.Msg

namespace Go.Proofs.YtcphfhfockjljaaGreatDoor.Msg
open Go.ChangeShapes Go.WideShapes Go.ChangeAt Go.RowKit
set_option linter.unusedVariables false
set_option linter.unusedSimpArgs false

/-- a box (a struct of one list) made at W, with a list in it that is being built -/
def PBox {α : Type} (O : World → Value → α → List Nat → Prop) (e : TypeId) (W w : World) (xs : List α) : Prop :=
  ∃ a cap, w.cell? ⟨W.heap.size, 0, none⟩ = some (.slice a xs.length cap) ∧ w.frozen? ⟨W.heap.size, 0, none⟩ = false ∧ LBuf O e (W.heap.size + 1) w (.slice a xs.length cap) xs ∧ Below W.heap.size W w ∧ W.heap.size < w.heap.size
def SBox (W w : World) (xs : List ByteArray) : Prop :=
  ∃ a cap, w.cell? ⟨W.heap.size, 0, none⟩ = some (.slice a xs.length cap) ∧ w.frozen? ⟨W.heap.size, 0, none⟩ = false ∧ SBuf (W.heap.size + 1) w (.slice a xs.length cap) xs ∧ Below W.heap.size W w ∧ W.heap.size < w.heap.size
theorem PBox.start {α : Type} (O : World → Value → α → List Nat → Prop) (e t : TypeId) (W : World) : PBox O e W (W.alloc (Obj.cells #[.slice none 0 0] t)) [] :=
  ⟨none, 0, by simp, by simp, LBuf.nil O e _ _, (Below.refl _ _).alloc (Nat.le_refl _) _, by simp⟩
theorem SBox.start (t : TypeId) (W : World) : SBox W (W.alloc (Obj.cells #[.slice none 0 0] t)) [] :=
  ⟨none, 0, by simp, by simp, SBuf.nil _ _, (Below.refl _ _).alloc (Nat.le_refl _) _, by simp⟩
theorem own_form {base : Nat} {e : TypeId} {w : World} {v : Value} {n : Nat} {vs : List Value} (h : w.ownsRow base e 1 v n vs) : ∃ a cap, v = .slice a n cap := by
  obtain ⟨hl, ⟨rfl, h0⟩ | ⟨g, cap, cur, rfl, hg, hs, rest⟩⟩ := h
  · exact ⟨none, 0, by rw [h0]⟩
  · exact ⟨_, _, rfl⟩
theorem PBox.put {α : Type} {O : World → Value → α → List Nat → Prop} (hkeep : ∀ w w' v x bs, O w v x bs → w.heap.size ≤ w'.heap.size → (∀ d ∈ bs, w'.heap[d]? = w.heap[d]?) → O w' v x bs)
    {e : TypeId} {W w : World} {xs : List α} {a : Option Addr} {cap n : Nat} {u : Value} (hn : n = xs.length) (hc : w.cell? ⟨W.heap.size, 0, none⟩ = some u) (hf : w.frozen? ⟨W.heap.size, 0, none⟩ = false) (hL : LBuf O e (W.heap.size + 1) w (.slice a n cap) xs) (hb : Below W.heap.size W w) (hs : W.heap.size < w.heap.size) :
    PBox O e W (w.setCell ⟨W.heap.size, 0, none⟩ (.slice a n cap)) xs := by
  subst hn
  exact ⟨a, cap, World.cell?_setCell_same _ _ _ hc, by rw [World.frozen?_setCell]; exact hf, LBuf.above hkeep hL (by rw [Deep.nblk_setCell]; exact Nat.le_refl _) (fun b hb' => Deep.blk_setCell_other _ _ _ _ (by simp; omega)), hb.setCell (by simp) _, by rw [Deep.nblk_setCell]; exact hs⟩
theorem SBox.put {W w : World} {xs : List ByteArray} {a : Option Addr} {cap n : Nat} {u : Value} (hn : n = xs.length) (hc : w.cell? ⟨W.heap.size, 0, none⟩ = some u) (hf : w.frozen? ⟨W.heap.size, 0, none⟩ = false) (hL : SBuf (W.heap.size + 1) w (.slice a n cap) xs) (hb : Below W.heap.size W w) (hs : W.heap.size < w.heap.size) :
    SBox W (w.setCell ⟨W.heap.size, 0, none⟩ (.slice a n cap)) xs := by
  subst hn
  exact ⟨a, cap, World.cell?_setCell_same _ _ _ hc, by rw [World.frozen?_setCell]; exact hf, own_above hL (fun b hb' => Deep.blk_setCell_other _ _ _ _ (by simp; omega)), hb.setCell (by simp) _, by rw [Deep.nblk_setCell]; exact hs⟩

def plainO (d : ByteArray) (hd : d.size = 5) (t : ByteArray) : Option ByteArray := (plainL d[0] d[1] d[2] d[3] d[4] t.data.toList).map txt
theorem ret_no {α : Type} {x : Option α} {u : Value} (h : x = none) : Ending.returned (.tuple #[u, .bool false]) = .returned (.tuple #[u, .bool x.isSome]) := by subst h; rfl
theorem ret_yes {α : Type} {x : Option α} {y : α} {u : Value} (h : x = some y) : Ending.returned (.tuple #[u, .bool true]) = .returned (.tuple #[u, .bool x.isSome]) := by subst h; rfl
theorem long_no {xs : List Field} (h : longB xs = false) : xs.length ≤ 30 ∧ ∀ f ∈ xs, f.length ≤ 30 ∧ ∀ r ∈ f, r.length ≤ 20 := by
  unfold longB at h
  rw [Bool.or_eq_false_iff] at h
  refine ⟨by simpa using h.1, fun f hf => ?_⟩
  have h2 : xs.all fldLB = true := by simpa using h.2
  have h3 := List.all_eq_true.1 h2 f hf
  unfold fldLB at h3
  rw [Bool.and_eq_true] at h3
  exact ⟨by simpa using h3.1, fun r hr => by have := List.all_eq_true.1 h3.2 r hr; simpa [repLB] using this⟩

set_option maxRecDepth 100000 in
set_option maxHeartbeats 4000000 in
theorem unescape_any (xs : List Field) (v : Value) (d : ByteArray) (w : World) (hd : d.size = 5) {lo : Nat} (hv : FieldsAt lo w v xs) (hlong : longB xs = false) (hz : ∀ f ∈ xs, ∀ r ∈ f, ∀ c ∈ r, c.size ≤ 1048576) :
    Calls Tryz.prog 32 #[v, .string d] w fun e w' => ∃ u, e = .returned (.tuple #[u, .bool (allO (allO (allO (plainO d hd))) xs).isSome]) ∧ (∀ ys, allO (allO (allO (plainO d hd))) xs = some ys → ∃ bs, OFields w' u ys bs ∧ bs.Nodup ∧ ∀ b ∈ bs, w.heap.size ≤ b) ∧ Below w.heap.size w w' := by
  obtain ⟨a, cap, rfl, hc⟩ := hv.form
  have HC := hide hc
  have HZ := hide hz
  obtain ⟨hl30, hlf⟩ := long_no hlong
  have HLF := hide hlf
  obtain ⟨i0, hi, hz0, hz1, hz2⟩ := str_facts
  obtain ⟨i1, hi1, hy0, hy1, hy2⟩ := info_facts info_Rep
  obtain ⟨i2, hi2, hx0, hx1, hx2⟩ := info_facts info_Field
  have HPD : Hid (∀ t, plainO d hd t = (plainL d[0] d[1] d[2] d[3] d[4] t.data.toList).map txt) := fun _ => rfl
  clear hc hz hlf hlong hv
  go_enter Tryz.func32, Tryz.ntmps32
  go_wp2_with fail
  go_loopg [6, 7] xs.length (fun n o i wr => ∃ (k : Nat) (acc : List Field), k ≤ xs.length ∧ n = xs.length - k ∧ i = .int .i64 k ∧ acc.length = k ∧ allO (allO (allO (plainO d hd))) xs = (allO (allO (allO (plainO d hd))) (xs.drop k)).map (acc ++ ·) ∧ LBuf OReps 49 w.heap.size wr o acc ∧ Below w.heap.size w wr)
  case atStart => exact ⟨0, [], Nat.zero_le _, by simp, rfl, rfl, by simp, LBuf.empty OReps 49 w.heap.size w (Nat.le_refl _), (Below.refl _ _).alloc (Nat.le_refl _) _⟩
  case round =>
    obtain ⟨k, acc, hk, rfl, rfl, hacc, hE, hL, hb⟩ := hrel
    obtain ⟨W1, rfl⟩ : ∃ x, x = wr := ⟨_, rfl⟩
    obtain ⟨V1, rfl⟩ : ∃ x, x = u6 := ⟨_, rfl⟩
    have hal : acc.length ≤ 30 := by omega
    have HA1 := hide hacc
    clear hacc
    have HE := hide hE
    have HL := hide hL
    have HB := hide hb
    have hW1 : w.heap.size ≤ W1.heap.size := hb.size
    clear hE hL hb
    by_cases hlt : k < xs.length
    · obtain ⟨b, off, rfl, _, hbl, vf, hcf, helf⟩ := HC.out k hlt
      have hcf' : w.cell? ⟨b, off + k, none⟩ = some vf := by simpa using hcf
      obtain ⟨a2, cap2, rfl, hcr⟩ := helf.form
      have HCR := hide hcr
      have HCF := hide hcf'
      obtain ⟨hf30, hr20⟩ := HLF.out xs[k] (List.getElem_mem hlt)
      have HR20 := hide hr20
      clear hcf hcf' hcr helf hr20
      go_wp2_with fail
      generalize hxk : xs[k] = f at *
      have HXK := hide hxk
      clear hxk
      go_loopg [9] f.length (fun n j wr => ∃ (q : Nat) (acc2 : List Rep), q ≤ f.length ∧ n = f.length - q ∧ j = .int .i64 q ∧ acc2.length = q ∧ allO (allO (plainO d hd)) f = (allO (allO (plainO d hd)) (f.drop q)).map (acc2 ++ ·) ∧ PBox OStrs 51 W1 wr acc2)
      case atStart => exact ⟨0, [], Nat.zero_le _, by simp, rfl, rfl, by simp, PBox.start OStrs 51 49 W1⟩
      case round =>
        obtain ⟨q, acc2, hq, rfl, rfl, hacc2, hE2, hX2⟩ := hrel
        obtain ⟨W2, rfl⟩ : ∃ x, x = wr := ⟨_, rfl⟩
        have hal2 : acc2.length ≤ 30 := by omega
        have HA2 := hide hacc2
        clear hacc2
        have HE2 := hide hE2
        obtain ⟨a5, cap5, hbc, hbf, hbL, hbb, hbs⟩ := hX2
        have HBL := hide hbL
        have HBB := hide hbb
        have HBC := hide (And.intro hbc hbf)
        have hwb : Below w.heap.size w W2 := HB.out.trans (hbb.mono hW1)
        have hf2 : W2.cell? ⟨b, off + k, none⟩ = some (.slice a2 f.length cap2) := by rw [hwb.cell (p := ⟨b, off + k, none⟩) hbl]; exact HCF.out
        have HWB := hide hwb
        clear hE2 hbL hbb hbf hwb
        by_cases hq2 : q < f.length
        · obtain ⟨b2, off2, rfl, _, hbl2, vr, hcr, helr⟩ := HCR.out q hq2
          have hcr' : w.cell? ⟨b2, off2 + q, none⟩ = some vr := by simpa using hcr
          obtain ⟨a3, cap3, rfl, hcc⟩ := helr.form
          have HCC := hide hcc
          have HCRR := hide hcr'
          have hr20 := HR20.out f[q] (List.getElem_mem hq2)
          have HZC : Hid (∀ c ∈ f[q], c.size ≤ 1048576) := HZ.out f (by rw [← HXK.out]; exact List.getElem_mem hlt) f[q] (List.getElem_mem hq2)
          clear hcr hcr' hcc helr hbc
          go_wp2_with fail
          generalize hfq : f[q] = r at *
          have HFQ := hide hfq
          clear hfq hf2
          go_loopg [11] r.length (fun n j wr => ∃ (p : Nat) (acc3 : List ByteArray), p ≤ r.length ∧ n = r.length - p ∧ j = .int .i64 p ∧ acc3.length = p ∧ allO (plainO d hd) r = (allO (plainO d hd) (r.drop p)).map (acc3 ++ ·) ∧ (∀ c ∈ acc3, c.size ≤ 1048576) ∧ SBox W2 wr acc3)
          case atStart => exact ⟨0, [], Nat.zero_le _, by simp, rfl, rfl, by simp, by simp, SBox.start 51 W2⟩
          case round =>
            obtain ⟨p, acc3, hp, rfl, rfl, hacc3, hE3, hsz3, hX3⟩ := hrel
            obtain ⟨W3, rfl⟩ : ∃ x, x = wr := ⟨_, rfl⟩
            have hal3 : acc3.length ≤ 20 := by omega
            have HA3 := hide hacc3
            clear hacc3
            have HE3 := hide hE3
            have HS3 := hide hsz3
            obtain ⟨a6, cap6, hrc, hrf, hrL, hrb, hrs⟩ := hX3
            have HRB := hide hrb
            have hwb3 : Below w.heap.size w W3 := HWB.out.trans (hrb.mono HWB.out.size)
            have hf3 : W3.cell? ⟨b, off + k, none⟩ = some (.slice (some ⟨b2, off2, none⟩) f.length cap2) := by rw [hwb3.cell (p := ⟨b, off + k, none⟩) hbl]; exact HCF.out
            have hr3 : W3.cell? ⟨b2, off2 + q, none⟩ = some (.slice a3 r.length cap3) := by rw [hwb3.cell (p := ⟨b2, off2 + q, none⟩) hbl2]; exact HCRR.out
            have hqi : (q : Int) < (f.length : Int) := by omega
            have hki : (k : Int) < (xs.length : Int) := by omega
            have HWB3 := hide hwb3
            clear hE3 hsz3 hrb hwb3
            by_cases hp2 : p < r.length
            · obtain ⟨b3, off3, rfl, _, hbl3, hcc, hcz⟩ := HCC.out p hp2
              have hcc' : W3.cell? ⟨b3, off3 + p, none⟩ = some (.string r[p]) := by rw [HWB3.out.cell (p := ⟨b3, off3 + p, none⟩) hbl3]; simpa using hcc
              have hsz := HZC.out r[p] (List.getElem_mem hp2)
              have hpi : (p : Int) < (r.length : Int) := by omega
              have HBOX := hide (And.intro hrc hrf)
              have HRL := hide hrL
              clear hcc hrc hrf hrL
              go_wp2_with fail
              refine (plainly_any r[p] d _ hsz hd).mono ?_
              rintro e w2 ⟨rfl, hb2⟩
              have hc2 : w2.cell? ⟨W2.heap.size, 0, none⟩ = some (.slice a6 acc3.length cap6) := by rw [hb2.cell (p := ⟨W2.heap.size, 0, none⟩) hrs]; exact HBOX.out.1
              have hfz2 : w2.frozen? ⟨W2.heap.size, 0, none⟩ = false := by rw [hb2.frozen (p := ⟨W2.heap.size, 0, none⟩) hrs]; exact HBOX.out.2
              have hown := own_below HRL.out hb2
              have hbw2 : Below W2.heap.size W2 w2 := HRB.out.trans (hb2.mono HRB.out.size)
              have HBW2 := hide hbw2
              have hs2 : W3.heap.size ≤ w2.heap.size := hb2.size
              have HBALL : Hid (Below w.heap.size w w2) := HWB.out.trans (hbw2.mono HWB.out.size)
              cases hpl : plainL d[0] d[1] d[2] d[3] d[4] r[p].data.toList with
              | none =>
                have HN3 : Hid (plainO d hd r[p] = none) := by rw [HPD.out, hpl]; rfl
                have HN2 : Hid (allO (plainO d hd) f[q] = none) := by rw [HFQ.out]; exact allO_fail hp2 HE3.out HN3.out
                have HN1 : Hid (allO (allO (plainO d hd)) xs[k] = none) := by rw [HXK.out]; exact allO_fail hq2 HE2.out HN2.out
                have HN0 : Hid (allO (allO (allO (plainO d hd))) xs = none) := allO_fail hlt HE.out HN1.out
                clear hpl hown hbw2 hb2 hc2 hfz2
                simp only [Option.getD_none, Option.isSome_none]
                go_wp2_with fail
                go_ret2
                exact ⟨_, ret_no HN0.out, fun ys h => (by rw [HN0.out] at h; cases h), HBALL.out⟩
              | some t =>
                have htl : t.length ≤ 1048576 := by have := plainL_len hpl; simp at this; omega
                have HN3 : Hid (plainO d hd r[p] = some (txt t)) := by rw [HPD.out, hpl]; rfl
                have HST := hide (allO_step hp2 HE3.out HN3.out)
                clear hpl hbw2 hb2
                simp only [Option.getD_some, Option.isSome_some]
                have hbl0 : W2.heap.size < w2.heap.size := by omega
                have hownA := World.ownsRow.alloc hown (Obj.cells #[.string (txt t)] 9)
                go_wp2_with (first
                  | (at_builtin; refine wpList_append_own_at _ rfl _ _ 38 rfl (W2.heap.size + 1) 9 i0 (.string ByteArray.empty) 1 16 Tryz.underlying38 hi hz0 hz1 hz2 rfl (by decide) _ _ _ rfl hownA ⟨w2.heap.size, 0, none⟩ 1 1 [.string (txt t)] rfl rfl ?c1 ?c2 ?c3 ?c4 ?c5 ?_)
                  | fail)
                case c1 => exact new_cell _ _ _
                case c2 => exact one_str _
                case c3 => unfold maxLen; omega
                case c4 => omega
                case c5 => simp; omega
                intro v' w5 hown' hgrow hnil hat
                obtain ⟨a7, cap7, rfl⟩ := own_form hown'
                have hblk : w5.heap[W2.heap.size]? = w2.heap[W2.heap.size]? := (hgrow.block W2.heap.size (by simp; omega) (fun e => by have := (own_lt hownA e.symm).1; omega)).trans (Deep.blk_alloc_lt _ _ _ hbl0)
                have hc5 : w5.cell? ⟨W2.heap.size, 0, none⟩ = some (.slice a6 acc3.length cap6) := by rw [cellSame hblk]; exact hc2
                have hf5 : w5.frozen? ⟨W2.heap.size, 0, none⟩ = false := by rw [frozenSame hblk]; exact hfz2
                have hs5 : W2.heap.size < w5.heap.size := by have := hgrow.size; simp at this; omega
                have hbel5 : Below W2.heap.size W2 w5 := (HBW2.out.alloc HBW2.out.size _).grown hgrow (by simp; omega) (fun b hb' => by have := (own_lt hownA hb').1; omega)
                have HNEW : Hid (SBox W2 (w5.setCell ⟨W2.heap.size, 0, none⟩ (.slice a7 (acc3.length + 1) cap7)) (acc3 ++ [txt t])) := SBox.put (by simp) hc5 hf5 (by unfold SBuf; simpa using hown') hbel5 hs5
                have HSZ : Hid (∀ c ∈ acc3 ++ [txt t], c.size ≤ 1048576) := fun c hc => by
                  rw [List.mem_append, List.mem_singleton] at hc
                  rcases hc with hc | rfl
                  · exact HS3.out c hc
                  · rw [txt_size]; exact htl
                clear hown' hgrow hnil hat hownA hown hblk hbel5
                go_wp2_with fail
                go_roundg (r.length - (p + 1))
                case measure => omega
                case rel => exact ⟨p + 1, acc3 ++ [txt t], by omega, rfl, by go_num, by rw [List.length_append, List.length_singleton, HA3.out], HST.out, HSZ.out, HNEW.out⟩
            · have hpe : p = r.length := by omega
              have HAL : Hid (allO (plainO d hd) f[q] = some acc3) := by rw [HFQ.out]; exact allO_done (by omega) HE3.out
              have HST2 := hide (allO_step hq2 HE2.out HAL.out)
              obtain ⟨_, _, hform, bs, hO, hnd, hbs'⟩ := SBuf.strs hrL (by omega) (fun c hc => by have := HS3.out c hc; omega)
              clear hform
              have hfc3 : W3.cell? ⟨W1.heap.size, 0, none⟩ = some (.slice a5 acc2.length cap5) := by rw [HRB.out.cell (p := ⟨W1.heap.size, 0, none⟩) hbs]; exact HBC.out.1
              have hff3 : W3.frozen? ⟨W1.heap.size, 0, none⟩ = false := by rw [HRB.out.frozen (p := ⟨W1.heap.size, 0, none⟩) hbs]; exact HBC.out.2
              obtain ⟨vs, bss, hv1, hv2, hv3, hv4, hv5⟩ := HBL.out
              have hbA : Below W2.heap.size W2 (W3.alloc (Obj.cells #[.slice a6 acc3.length cap6] 51)) := HRB.out.alloc HRB.out.size _
              have hOA := OAt.kept keptO_str hO (w' := W3.alloc (Obj.cells #[.slice a6 acc3.length cap6] 51)) (by simp) (fun c hc => Deep.blk_alloc_lt _ _ _ (OAt.lt ltO_str hO c hc))
              have hownA := own_below hv3 hbA
              have HV3 := hide hv3
              have HBA := hide hbA
              have HOA := hide hOA
              have HND := hide hnd
              have HFR : Hid (∀ b ∈ bs, W2.heap.size ≤ b) := fun b hb => by have := hbs' b hb; omega
              have hs3 : W1.heap.size < W3.heap.size := by omega
              clear hv1 hv2 hv3 hv4 hv5 hbA hOA hnd hbs' hO hrL
              go_wp2_with (first
                | (at_builtin; refine wpList_append_own_at _ rfl _ _ 47 rfl (W1.heap.size + 1) 51 i1 (.agg #[.slice none 0 0]) 1 24 Tryz.underlying47 hi1 hy0 hy1 hy2 rfl (by decide) _ _ _ rfl hownA ⟨W3.heap.size, 0, none⟩ 1 1 [.slice a6 acc3.length cap6] rfl rfl ?c1 ?c2 ?c3 ?c4 ?c5 ?_)
                | fail)
              case c1 => exact new_cell _ _ _
              case c2 => exact one_slice _ _ _
              case c3 => unfold maxLen; omega
              case c4 => omega
              case c5 => simp; omega
              intro v' w5 hown' hgrow hnil hat
              have HPU := hide (LBuf.push (O := OStrs) (fun _ _ _ _ _ h s d => OAt.kept keptO_str h s d) (fun _ _ _ _ h => OAt.lt ltO_str h) HBL.out (by omega) HBA.out HOA.out HFR.out HND.out HV3.out rfl hown' hgrow (by simpa using hat))
              obtain ⟨a7, cap7, rfl⟩ := own_form hown'
              have hblk : w5.heap[W1.heap.size]? = W3.heap[W1.heap.size]? := (hgrow.block W1.heap.size (by simp; omega) (fun e => by have := (own_lt hownA e.symm).1; omega)).trans (Deep.blk_alloc_lt _ _ _ hs3)
              have hc5 : w5.cell? ⟨W1.heap.size, 0, none⟩ = some (.slice a5 acc2.length cap5) := by rw [cellSame hblk]; exact hfc3
              have hf5 : w5.frozen? ⟨W1.heap.size, 0, none⟩ = false := by rw [frozenSame hblk]; exact hff3
              have hs5 : W1.heap.size < w5.heap.size := by have := hgrow.size; simp at this; omega
              have hbel5 : Below W1.heap.size W1 w5 := (HBB.out.trans (HBA.out.mono HBB.out.size)).grown hgrow (by simp; omega) (fun b hb' => by have := (own_lt hownA hb').1; omega)
              have HNEW : Hid (PBox OStrs 51 W1 (w5.setCell ⟨W1.heap.size, 0, none⟩ (.slice a7 (acc2.length + 1) cap7)) (acc2 ++ [acc3])) := PBox.put (O := OStrs) (fun _ _ _ _ _ h s d => OAt.kept keptO_str h s d) (by simp) hc5 hf5 HPU.out hbel5 hs5
              clear hown' hgrow hnil hat hownA hblk hbel5
              go_wp2_with fail
              go_roundg (f.length - (q + 1))
              case measure => omega
              case rel => exact ⟨q + 1, acc2 ++ [acc3], by omega, rfl, by go_num, by rw [List.length_append, List.length_singleton, HA2.out], HST2.out, HNEW.out⟩
        · have hqe : q = f.length := by omega
          have HAL : Hid (allO (allO (plainO d hd)) xs[k] = some acc2) := by rw [HXK.out]; exact allO_done (by omega) HE2.out
          have HST1 := hide (allO_step hlt HE.out HAL.out)
          obtain ⟨a', cap', he, _, _, bs, hO, hnd, hbs'⟩ := LBuf.take (R := RepO) (fun w b off x bs v h1 h2 => ⟨v, h1, h2⟩) HBL.out (by omega) (n := acc2.length) (Nat.le_refl _)
          rw [List.take_length] at hO
          injection he with he1 he2 he3
          subst he1 he3
          obtain ⟨vs, bss, hv1, hv2, hv3, hv4, hv5⟩ := HL.out
          have hbA : Below W1.heap.size W1 (W2.alloc (Obj.cells #[.slice a5 acc2.length cap5] 49)) := HBB.out.alloc HBB.out.size _
          have hOA := OAt.kept keptO_rep hO (w' := W2.alloc (Obj.cells #[.slice a5 acc2.length cap5] 49)) (by simp) (fun c hc => Deep.blk_alloc_lt _ _ _ (OAt.lt ltO_rep hO c hc))
          have hownA := own_below hv3 hbA
          have HV3 := hide hv3
          have HBA := hide hbA
          have HOA := hide hOA
          have HND := hide hnd
          have HFR : Hid (∀ b ∈ bs, W1.heap.size ≤ b) := fun b hb => by have := hbs' b hb; omega
          clear hv1 hv2 hv3 hv4 hv5 hbA hOA hnd hbs' hO he2
          go_wp2_with (first
            | (at_builtin; refine wpList_append_own_at _ rfl _ _ 39 rfl w.heap.size 49 i2 (.agg #[.slice none 0 0]) 1 24 Tryz.underlying39 hi2 hx0 hx1 hx2 rfl (by decide) _ _ _ rfl hownA ⟨W2.heap.size, 0, none⟩ 1 1 [.slice a5 acc2.length cap5] rfl rfl ?c1 ?c2 ?c3 ?c4 ?c5 ?_)
            | fail)
          case c1 => exact new_cell _ _ _
          case c2 => exact one_slice _ _ _
          case c3 => unfold maxLen; omega
          case c4 => omega
          case c5 => simp; omega
          intro v' w5 hown' hgrow hnil hat
          have HPU := hide (LBuf.push (O := OReps) (fun _ _ _ _ _ h s d => OAt.kept keptO_rep h s d) (fun _ _ _ _ h => OAt.lt ltO_rep h) HL.out hW1 HBA.out HOA.out HFR.out HND.out HV3.out rfl hown' hgrow (by simpa using hat))
          have HBW5 : Hid (Below w.heap.size w w5) := (HB.out.trans (HBA.out.mono hW1)).grown hgrow (by simp; omega) (fun b hb' => (own_lt hownA hb').1)
          clear hown' hgrow hnil hat hownA
          go_wp2_with fail
          go_roundg (xs.length - (k + 1))
          case measure => omega
          case rel => exact ⟨k + 1, acc ++ [acc2], by omega, rfl, by go_num, by rw [List.length_append, List.length_singleton, HA1.out], HST1.out, HPU.out, HBW5.out⟩
    · have hke : k = xs.length := by omega
      have HAL : Hid (allO (allO (allO (plainO d hd))) xs = some acc) := allO_done (by omega) HE.out
      obtain ⟨a', cap', rfl, _, _, bs, hO, hnd, hbs'⟩ := LBuf.take (R := FieldO) (fun w b off x bs v h1 h2 => ⟨v, h1, h2⟩) HL.out (by omega) (n := acc.length) (Nat.le_refl _)
      rw [List.take_length] at hO
      have HFIN : Hid (∀ ys, allO (allO (allO (plainO d hd))) xs = some ys → ∃ bs, OFields W1 (.slice a' acc.length cap') ys bs ∧ bs.Nodup ∧ ∀ b ∈ bs, w.heap.size ≤ b) := fun ys h => by
        rw [HAL.out] at h
        injection h with h
        subst h
        exact ⟨bs, hO, hnd, hbs'⟩
      clear hO hnd hbs'
      go_wp2_with fail
      go_ret2
      exact ⟨_, ret_yes HAL.out, HFIN.out, HB.out⟩
end Go.Proofs.YtcphfhfockjljaaGreatDoor.Msg
