import Derived.Test.YtpmnepalchgcbaaGreatDoorParseCompswithImplSplitwithChgDecP
import Derived.Test.YtpmnepalchgcbaaGreatDoorShelf
namespace Go.Proofs.YtpmnepalchgcbaaGreatDoor.Msg
open Go.ChangeShapes Go.WideShapes Go.ChangeAt Go.RowKit
set_option linter.unusedVariables false
set_option linter.unusedSimpArgs false

/-- the library's variable that strings.Index reads holds some number -/
def Mx (w : World) : Prop := ∃ m, w.cell? ⟨2, 0, none⟩ = some (.int .i64 m)
theorem Mx.pos {w : World} (h : Mx w) : 2 < w.heap.size := by
  obtain ⟨m, h⟩ := h
  by_cases h0 : 2 < w.heap.size
  · exact h0
  · simp [World.cell?, Array.getElem?_eq_none (show w.heap.size ≤ 2 by omega)] at h
theorem Mx.below {w w' : World} (h : Mx w) {B : Nat} (hB : 2 < B) (hb : Below B w w') : Mx w' := by
  have hp := h.pos
  obtain ⟨m, h⟩ := h
  exact ⟨m, by rw [hb.cell (p := ⟨2, 0, none⟩) hB]; exact h⟩
theorem Mx.kept {w w' : World} (h : Mx w) (hb : Below w.heap.size w w') : Mx w' := h.below h.pos hb

theorem mark_text (c : UInt8) (w : World) : Sem.run Tryz.prog (convert 80 9 (.slice (some ⟨w.heap.size, 0, none⟩) 1 1)) (w.alloc (.cells #[.int .u8 (c.toNat : Int)] 5)) = .ok (.string ⟨#[c]⟩) (w.alloc (.cells #[.int .u8 (c.toNat : Int)] 5)) := by
  have h := run_convert_bytes_arg (w.alloc (.cells #[.int .u8 (c.toNat : Int)] 5)) 80 5 Tryz.underlying80 Tryz.underlying5 w.heap.size 0 1 1 [(c.toNat : Int)] rfl (by
    intro i hi
    have : i = 0 := by omega
    subst this
    simp) 9 Tryz.underlying9
  have e : strOfNums [(c.toNat : Int)] = (⟨#[c]⟩ : ByteArray) := by unfold strOfNums; simp
  rw [h, e]

set_option maxHeartbeats 1000000 in
theorem implCut_any (s : ByteArray) (c : UInt8) (w : World) (hs : s.size ≤ 1048576) (hm : Mx w) :
    Calls Tryz.prog 39 #[.string s, .int .u8 (c.toNat : Int)] w fun e w' => ∃ u, e = .returned u ∧ SBuf w.heap.size w' u ((cutL c s.data.toList).map txt) ∧ Below w.heap.size w w' := by
  have hp := hm.pos
  obtain ⟨m, hmc⟩ := hm
  have hb0 := (Below.refl w.heap.size w).alloc (Nat.le_refl _) (Obj.cells #[.int .u8 (c.toNat : Int)] 5)
  have hm2 : (w.alloc (.cells #[.int .u8 (c.toNat : Int)] 5)).cell? ⟨2, 0, none⟩ = some (.int .i64 m) := by rw [hb0.cell (p := ⟨2, 0, none⟩) hp]; exact hmc
  have hcv := mark_text c w
  have hn := countB_cut c s
  have hlen := cutL_len c s.data.toList
  have hsl : s.data.toList.length = s.size := by simp
  have HFIN : Hid (SBuf w.heap.size ((w.alloc (.cells #[.int .u8 (c.toNat : Int)] 5)).alloc (.cells ((Lib.splitB ⟨#[c]⟩ 0 (Lib.countB s ⟨#[c]⟩) s).map Value.string).toArray 9)) (.slice (some ⟨w.heap.size + 1, 0, none⟩) (Lib.countB s ⟨#[c]⟩ + 1) (Lib.countB s ⟨#[c]⟩ + 1)) ((cutL c s.data.toList).map txt)) := by
    have h := World.ownsRow_lit (base := w.heap.size) (e := 9) (size := 1) (w.alloc (.cells #[.int .u8 (c.toNat : Int)] 5)) ((Lib.splitB ⟨#[c]⟩ 0 (Lib.countB s ⟨#[c]⟩) s).map Value.string).toArray (Lib.countB s ⟨#[c]⟩ + 1) (by simp) (by unfold maxLen; omega) (by rw [splitB_cut, hn]; simp)
    have hs1 : (w.alloc (.cells #[.int .u8 (c.toNat : Int)] 5)).heap.size = w.heap.size + 1 := by simp
    rw [hs1] at h
    show World.ownsRow _ _ _ _ _ _ _
    rw [splitB_cut] at h ⊢
    rw [List.length_map, ← hn]
    simpa using h
  have HB : Hid (Below w.heap.size w ((w.alloc (.cells #[.int .u8 (c.toNat : Int)] 5)).alloc (.cells ((Lib.splitB ⟨#[c]⟩ 0 (Lib.countB s ⟨#[c]⟩) s).map Value.string).toArray 9))) := hb0.alloc (by simp) _
  clear hn hlen hsl hmc
  go_enter Tryz.func39, Tryz.ntmps39
  go_wp2_with fail
  refine (Tryz.strings_Split s ⟨#[c]⟩ m _ (by omega) hm2 (Nat.le_refl 1)).mono ?_
  rintro e w' ⟨rfl, rfl⟩
  clear hcv
  go_wp2_with fail
  go_ret
  exact ⟨_, rfl, HFIN.out, HB.out⟩
end Go.Proofs.YtpmnepalchgcbaaGreatDoor.Msg
