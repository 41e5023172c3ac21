import Derived.Test.YtcphfhfockjljaaDoorImplMsgInwithImplEncodewithParsePieces
namespace Go.Proofs.YtcphfhfockjljaaDoor.Msg
open Go.ChangeShapes Go.WideShapes Go.ChangeAt Go.RowKit
set_option linter.unusedVariables false
set_option linter.unusedSimpArgs false

theorem seg_put {Wc WR W6 : World} {a1 : Option Addr} {cap1 : Nat} {acc : List Seg} {us : List Value} {bss : List (List Nat)} {name : ByteArray} {gs : List Field} {bs3 : List Nat} {u : Value}
    (HSB : SegBuf (Wc.heap.size + 1) WR (.slice a1 acc.length cap1) acc us bss) (hws : Wc.heap.size < WR.heap.size) (hb6 : Below WR.heap.size WR W6) (hbr6 : Below Wc.heap.size Wc W6)
    (hoc : W6.cell? ⟨Wc.heap.size, 0, none⟩ = some (.slice a1 acc.length cap1)) (hof : W6.frozen? ⟨Wc.heap.size, 0, none⟩ = false) (hn : name.size ≤ 9223372036854775807)
    (hO3 : OFields W6 u gs bs3) (hnd3 : bs3.Nodup) (hfr3 : ∀ b ∈ bs3, WR.heap.size ≤ b) {g7 cap8 : Nat} {w7 : World}
    (hown : w7.ownsRow (Wc.heap.size + 1) 44 2 (.slice (some ⟨g7, 0, none⟩) (acc.length + 1) cap8) (acc.length + 1) (segCells acc us ++ [.string name, u]))
    (hgrow : ((W6.alloc (Obj.cells #[.string name, u] 44)).drew).grownBy w7 (Value.slice a1 acc.length cap1).ownBlock) (hat : (Value.slice a1 acc.length cap1).ownBlock = some g7 ∨ g7 = W6.heap.size + 1) :
    w7.cell? ⟨Wc.heap.size, 0, none⟩ = some (.slice a1 acc.length cap1) ∧ w7.frozen? ⟨Wc.heap.size, 0, none⟩ = false ∧
    ∃ (us' : List Value) (bss' : List (List Nat)), SegBuf (Wc.heap.size + 1) (w7.setCell ⟨Wc.heap.size, 0, none⟩ (.slice (some ⟨g7, 0, none⟩) (acc.length + 1) cap8)) (.slice (some ⟨g7, 0, none⟩) (acc.length + 1) cap8) (acc ++ [⟨name, gs⟩]) us' bss' ∧
      (w7.setCell ⟨Wc.heap.size, 0, none⟩ (.slice (some ⟨g7, 0, none⟩) (acc.length + 1) cap8)).cell? ⟨Wc.heap.size, 0, none⟩ = some (.slice (some ⟨g7, 0, none⟩) (acc.length + 1) cap8) ∧
      (w7.setCell ⟨Wc.heap.size, 0, none⟩ (.slice (some ⟨g7, 0, none⟩) (acc.length + 1) cap8)).frozen? ⟨Wc.heap.size, 0, none⟩ = false ∧
      Below Wc.heap.size Wc (w7.setCell ⟨Wc.heap.size, 0, none⟩ (.slice (some ⟨g7, 0, none⟩) (acc.length + 1) cap8)) ∧ Wc.heap.size < (w7.setCell ⟨Wc.heap.size, 0, none⟩ (.slice (some ⟨g7, 0, none⟩) (acc.length + 1) cap8)).heap.size := by
  have hsA : ((W6.alloc (Obj.cells #[.string name, u] 44)).drew).heap.size = W6.heap.size + 1 := by simp
  have hocn : ∀ b, (Value.slice a1 acc.length cap1).ownBlock = some b → Wc.heap.size + 1 ≤ b := fun b hb => (own_lt2 HSB.row hb).1
  have hws6 : Wc.heap.size < W6.heap.size := Nat.lt_of_lt_of_le hws hb6.size
  have hblk : w7.heap[Wc.heap.size]? = W6.heap[Wc.heap.size]? := (hgrow.block Wc.heap.size (by rw [hsA]; omega) (fun e => by have := hocn _ e.symm; omega)).trans (Deep.blk_alloc_lt _ _ _ hws6)
  have hc7 : w7.cell? ⟨Wc.heap.size, 0, none⟩ = some (.slice a1 acc.length cap1) := by rw [cellSame hblk]; exact hoc
  have hf7 : w7.frozen? ⟨Wc.heap.size, 0, none⟩ = false := by rw [frozenSame hblk]; exact hof
  have hs7 := hgrow.size
  rw [hsA] at hs7
  have hs6 := hb6.size
  have hBA : Below WR.heap.size WR ((W6.alloc (Obj.cells #[.string name, u] 44)).drew) := (hb6.alloc hb6.size _).drew
  have hOA := OAt.kept keptO_field hO3 (w' := (W6.alloc (Obj.cells #[.string name, u] 44)).drew) (by rw [hsA]; omega) (fun c hc => Deep.blk_alloc_lt _ _ _ (OAt.lt ltO_field hO3 c hc))
  have hPU := SegBuf.push (x := ⟨name, gs⟩) HSB (by omega) hBA hn hOA hfr3 hnd3 rfl hown hgrow (by
    rw [hsA]
    rcases hat with h | h
    · exact .inl (by rw [h]; rfl)
    · exact .inr (by rw [h]; rfl))
  have hbel7 : Below Wc.heap.size Wc w7 := ((hbr6.alloc hbr6.size (Obj.cells #[.string name, u] 44)).drew).grown hgrow (by rw [hsA]; omega) (fun b hb' => by have := hocn b hb'; omega)
  exact ⟨hc7, hf7, _, _, SegBuf.above hPU (by rw [Deep.nblk_setCell]; exact Nat.le_refl _) (fun b hb' => Deep.blk_setCell_other _ _ _ _ (by simp; omega)), World.cell?_setCell_same _ _ _ hc7, by rw [World.frozen?_setCell]; exact hf7, hbel7.setCell (by simp) _, by rw [Deep.nblk_setCell]; omega⟩
end Go.Proofs.YtcphfhfockjljaaDoor.Msg
