import Derived.Test.YtebdfmijlnkcbaaDoorBufPut
import Derived.Laws.OwnMore
namespace Go.Proofs.YtebdfmijlnkcbaaDoor.Msg
open Go.ChangeShapes Go.WideShapes Go.ChangeAt Go.RowKit
set_option linter.unusedVariables false
set_option linter.unusedSimpArgs false

theorem Buf.form {base : Nat} {w : World} {v : Value} {bs : List UInt8} (h : Buf base w v bs) : ∃ a c, v = .slice a bs.length c ∧ bs.length ≤ c ∧ c ≤ 9223372036854775807 := by
  obtain ⟨_, ⟨rfl, h0⟩ | ⟨g, cap, cur, rfl, hg, _, hc, hm, _⟩⟩ := h
  · exact ⟨none, 0, by rw [h0], by omega, by omega⟩
  · exact ⟨_, _, rfl, hc, by unfold maxLen at hm; omega⟩
theorem Buf.cells {base : Nat} {w : World} {v : Value} {bs : List UInt8} (h : Buf base w v bs) (h0 : 0 < bs.length) :
    ∃ g c, v = .slice (some ⟨g, 0, none⟩) bs.length c ∧ bs.length ≤ c ∧ c ≤ 9223372036854775807 ∧ base ≤ g ∧ g < w.heap.size ∧ ∀ j, j < bs.length → w.cell? ⟨g, j, none⟩ = some (.int .u8 ((bs.getD j 0).toNat : Int)) := by
  have h' := h
  obtain ⟨_, ⟨rfl, h1⟩ | ⟨g, cap, cur, rfl, hg, hh, hc, hm, _⟩⟩ := h
  · omega
  · refine ⟨g, cap, rfl, hc, by unfold maxLen at hm; omega, hg, by rw [Array.getElem?_eq_some_iff] at hh; exact hh.1, fun j hj => ?_⟩
    have := World.ownsRow.cellAt h' j (by omega)
    rw [this]
    simp [u8s, hj, List.getD_eq_getElem?_getD]
theorem Buf.keep {base : Nat} {w w' : World} {v : Value} {bs : List UInt8} (h : Buf base w v bs) (hb : Below w.heap.size w w') : Buf base w' v bs := by
  unfold Buf at *
  obtain ⟨h0, ⟨rfl, h1⟩ | ⟨g, cap, cur, rfl, hg, hh, rest⟩⟩ := h
  · exact ⟨h0, .inl ⟨rfl, h1⟩⟩
  · exact ⟨h0, .inr ⟨g, cap, cur, rfl, hg, by rw [hb.block g (by rw [Array.getElem?_eq_some_iff] at hh; exact hh.1)]; exact hh, rest⟩⟩
theorem Buf.empty_lit (w : World) : Buf w.heap.size (w.alloc (Obj.cells #[] 5)) (.slice (some ⟨w.heap.size, 0, none⟩) 0 0) [] :=
  World.ownsRow_lit w #[] 0 (Nat.le_refl _) (by unfold maxLen; omega) rfl
/-- one byte more -/
theorem Buf.more {base : Nat} {w w' : World} {v v' : Value} {bs : List UInt8} {c : UInt8} {o : Obj} (hv : Buf base w v bs) (hbase : base ≤ w.heap.size) {n : Nat} (hl : n = bs.length) (h : w'.ownsRow base 5 1 v' (n + 1) (u8s bs ++ [.int .u8 c.toNat])) (hg : (w.alloc o).grownBy w' v.ownBlock) :
    Buf base w' v' (bs ++ [c]) ∧ Below base w w' := by
  subst hl
  refine ⟨by unfold Buf; simpa [u8s] using h, ((Below.refl base w).alloc hbase o).trans ⟨hg.os, hg.tape, hg.output, hg.size, fun k hk => hg.block k (by rw [Deep.nblk_alloc]; omega) ?_⟩⟩
  have := hv.own
  intro e
  rw [← e] at this
  simp at this
  omega
theorem Buf.string {base : Nat} {w : World} {v : Value} {bs : List UInt8} (h : Buf base w v bs) : Sem.run Tryd.prog (convert 38 9 v) w = .ok (.string ⟨bs.toArray⟩) w := by
  by_cases h0 : 0 < bs.length
  · obtain ⟨g, c, rfl, _, _, _, _, hc⟩ := h.cells h0
    rw [run_convert_bytes_arg w 38 5 Tryd.underlying38 Tryd.underlying5 g 0 bs.length c (bs.map fun c => (c.toNat : Int)) (by simp) ?_ 9 Tryd.underlying9]
    · congr 2
      unfold strOfNums
      congr 2
      rw [List.map_map]
      conv => rhs; rw [← List.map_id bs]
      apply List.map_congr_left
      intro c _
      simp
    · intro i hi
      have hi' : i < bs.length := by simpa using hi
      rw [Nat.zero_add, hc i hi']
      simp [hi', List.getD_eq_getElem?_getD]
  · obtain rfl : bs = [] := List.length_eq_zero_iff.1 (by omega)
    obtain ⟨_, ⟨rfl, h1⟩ | ⟨g, cap, cur, rfl, hg, hh, hc, hm, _⟩⟩ := h
    · rw [run_convert_bytes_nil w 38 5 Tryd.underlying38 Tryd.underlying5 0 0 9 Tryd.underlying9]
      rfl
    · rw [run_convert_bytes_arg w 38 5 Tryd.underlying38 Tryd.underlying5 g 0 ([] : List UInt8).length cap [] rfl (fun i hi => absurd hi (by simp)) 9 Tryd.underlying9]
      rfl
end Go.Proofs.YtebdfmijlnkcbaaDoor.Msg
