import Derived.Test.YtcphfhfockjljaaGreatDoorImplParseSegwithParseAllwithParseHead
import Derived.Test.YtcphfhfockjljaaGreatDoorParsePieceswithImplPurewithImplStart
namespace Go.Proofs.YtcphfhfockjljaaGreatDoor.Msg
open Go.ChangeShapes Go.WideShapes Go.ChangeAt Go.RowKit
set_option linter.unusedVariables false
set_option linter.unusedSimpArgs false

theorem head_sep (s : ByteArray) (h8 : 8 < s.size) (h1 : s[8].toNat ≠ 13) (h2 : s[8].toNat ≠ s[3].toNat) : headB s = false := by
  have e8 : s.data.toList[8]? = some s[8] := by rw [List.getElem?_eq_getElem (by simpa using h8)]; rfl
  have e3 : s.data.toList[3]? = some s[3] := by rw [List.getElem?_eq_getElem (by simp; omega)]; rfl
  unfold headB
  rw [e8, e3, decide_eq_false (p := s.size ≤ 8) (by omega)]
  have a1 : (some s[8] == some (13 : UInt8)) = false := by
    rw [beq_eq_false_iff_ne]
    intro h
    injection h with h
    exact h1 (by rw [h]; rfl)
  have a2 : (some s[8] == some s[3]) = false := by
    rw [beq_eq_false_iff_ne]
    intro h
    injection h with h
    exact h2 (by rw [h])
  rw [a1, a2]
  simp

set_option maxRecDepth 100000 in
set_option maxHeartbeats 4000000 in
/-- code 3, where the byte behind the delimiters is neither the first of them nor 13 -/
theorem parseSpec_sep (s : ByteArray) (w : World) (h8 : 8 < s.size) (h40 : s.size ≤ 40000) (hby : bytesB s = true) (hm : ((s.extract 0 3).toList == [77, 83, 72]) = true) (hdl : delimsB (s.extract 3 8) = true) (h1 : s[8].toNat ≠ 13) (h2 : s[8].toNat ≠ s[3].toNat) :
    Calls Tryz.prog 12 #[.string s] w (ParsePost w (parseL s)) := by
  have HB0 := hide (below_start w)
  have h0' : ((s.size : Int) == 0) = false := by rw [beq_eq_false_iff_ne]; omega
  have h8' : ¬ (s.size : Int) < 8 := by omega
  have h8d : decide ((s.size : Int) < 8) = false := decide_eq_false h8'
  have h3 : (3 : Int) ≤ (s.size : Int) := by omega
  have h33 : (3 : Int) < (s.size : Int) := by omega
  have h38 : (8 : Int) ≤ (s.size : Int) := by omega
  have h88 : (8 : Int) < (s.size : Int) := by omega
  have h4 : ¬ (40000 : Int) < (s.size : Int) := by omega
  have hm' : ((s.extract 0 3).toList != [77, 83, 72]) = false := by unfold bne; rw [hm]; rfl
  have HX : Hid (parseL s = .error 3) := parseL_3 s (by omega) (by omega) hby (head_sep s h8 h1 h2)
  have h5 : (s.extract 3 8).size = 5 := by rw [ByteArray.size_extract]; omega
  have g1 : ((s[8].toNat : Int) != 13) = true := by rw [bne_iff_ne]; omega
  have g2 : ((s[8].toNat : Int) != (s[3].toNat : Int)) = true := by rw [bne_iff_ne]; omega
  have HBY := hide hby
  have HDL := hide hdl
  have HCALL : Hid (∀ w, Calls Tryz.prog 27 #[.string (s.extract 3 8)] w fun e w' => e = .returned (.bool true) ∧ w' = w) := fun w => by rw [← HDL.out]; exact delims_any (s.extract 3 8) w h5
  clear hby hdl h1 h2
  go_enter Tryz.func12, Tryz.ntmps12
  go_wp2_with fail
  refine (bytes_any s _ (by omega)).mono ?_
  rintro e w' ⟨rfl, rfl⟩
  rw [HBY.out]
  go_wp2_with fail
  go_quiet (first | (go_at_call 27; refine Calls.quiet_of_same (HCALL.out _)))
  go_wp2_with fail
  exact bodyPost_ret (v := .tuple #[.agg #[.slice none 0 0], .int .i64 3]) (by simp [results, Tryz.results12, go_sem]) rfl (post_err HX.out rfl ((below_drewN HB0.out _).setCell (by simp) _))
end Go.Proofs.YtcphfhfockjljaaGreatDoor.Msg

namespace Go.Proofs.YtcphfhfockjljaaGreatDoor.Msg
open Go.ChangeShapes Go.WideShapes Go.ChangeAt Go.RowKit
set_option linter.unusedVariables false
set_option linter.unusedSimpArgs false

theorem seg_put {Wc WR W6 : World} {a1 : Option Addr} {cap1 : Nat} {acc : List Seg} {us : List Value} {bss : List (List Nat)} {name : ByteArray} {gs : List Field} {bs3 : List Nat} {u : Value}
    (HSB : SegBuf (Wc.heap.size + 1) WR (.slice a1 acc.length cap1) acc us bss) (hws : Wc.heap.size < WR.heap.size) (hb6 : Below WR.heap.size WR W6) (hbr6 : Below Wc.heap.size Wc W6)
    (hoc : W6.cell? ⟨Wc.heap.size, 0, none⟩ = some (.slice a1 acc.length cap1)) (hof : W6.frozen? ⟨Wc.heap.size, 0, none⟩ = false) (hn : name.size ≤ 9223372036854775807)
    (hO3 : OFields W6 u gs bs3) (hnd3 : bs3.Nodup) (hfr3 : ∀ b ∈ bs3, WR.heap.size ≤ b) {g7 cap8 : Nat} {w7 : World}
    (hown : w7.ownsRow (Wc.heap.size + 1) 41 2 (.slice (some ⟨g7, 0, none⟩) (acc.length + 1) cap8) (acc.length + 1) (segCells acc us ++ [.string name, u]))
    (hgrow : ((W6.alloc (Obj.cells #[.string name, u] 41)).drew).grownBy w7 (Value.slice a1 acc.length cap1).ownBlock) (hat : (Value.slice a1 acc.length cap1).ownBlock = some g7 ∨ g7 = W6.heap.size + 1) :
    w7.cell? ⟨Wc.heap.size, 0, none⟩ = some (.slice a1 acc.length cap1) ∧ w7.frozen? ⟨Wc.heap.size, 0, none⟩ = false ∧
    ∃ (us' : List Value) (bss' : List (List Nat)), SegBuf (Wc.heap.size + 1) (w7.setCell ⟨Wc.heap.size, 0, none⟩ (.slice (some ⟨g7, 0, none⟩) (acc.length + 1) cap8)) (.slice (some ⟨g7, 0, none⟩) (acc.length + 1) cap8) (acc ++ [⟨name, gs⟩]) us' bss' ∧
      (w7.setCell ⟨Wc.heap.size, 0, none⟩ (.slice (some ⟨g7, 0, none⟩) (acc.length + 1) cap8)).cell? ⟨Wc.heap.size, 0, none⟩ = some (.slice (some ⟨g7, 0, none⟩) (acc.length + 1) cap8) ∧
      (w7.setCell ⟨Wc.heap.size, 0, none⟩ (.slice (some ⟨g7, 0, none⟩) (acc.length + 1) cap8)).frozen? ⟨Wc.heap.size, 0, none⟩ = false ∧
      Below Wc.heap.size Wc (w7.setCell ⟨Wc.heap.size, 0, none⟩ (.slice (some ⟨g7, 0, none⟩) (acc.length + 1) cap8)) ∧ Wc.heap.size < (w7.setCell ⟨Wc.heap.size, 0, none⟩ (.slice (some ⟨g7, 0, none⟩) (acc.length + 1) cap8)).heap.size := by
  have hsA : ((W6.alloc (Obj.cells #[.string name, u] 41)).drew).heap.size = W6.heap.size + 1 := by simp
  have hocn : ∀ b, (Value.slice a1 acc.length cap1).ownBlock = some b → Wc.heap.size + 1 ≤ b := fun b hb => (own_lt2 HSB.row hb).1
  have hws6 : Wc.heap.size < W6.heap.size := Nat.lt_of_lt_of_le hws hb6.size
  have hblk : w7.heap[Wc.heap.size]? = W6.heap[Wc.heap.size]? := (hgrow.block Wc.heap.size (by rw [hsA]; omega) (fun e => by have := hocn _ e.symm; omega)).trans (Deep.blk_alloc_lt _ _ _ hws6)
  have hc7 : w7.cell? ⟨Wc.heap.size, 0, none⟩ = some (.slice a1 acc.length cap1) := by rw [cellSame hblk]; exact hoc
  have hf7 : w7.frozen? ⟨Wc.heap.size, 0, none⟩ = false := by rw [frozenSame hblk]; exact hof
  have hs7 := hgrow.size
  rw [hsA] at hs7
  have hs6 := hb6.size
  have hBA : Below WR.heap.size WR ((W6.alloc (Obj.cells #[.string name, u] 41)).drew) := (hb6.alloc hb6.size _).drew
  have hOA := OAt.kept keptO_field hO3 (w' := (W6.alloc (Obj.cells #[.string name, u] 41)).drew) (by rw [hsA]; omega) (fun c hc => Deep.blk_alloc_lt _ _ _ (OAt.lt ltO_field hO3 c hc))
  have hPU := SegBuf.push (x := ⟨name, gs⟩) HSB (by omega) hBA hn hOA hfr3 hnd3 rfl hown hgrow (by
    rw [hsA]
    rcases hat with h | h
    · exact .inl (by rw [h]; rfl)
    · exact .inr (by rw [h]; rfl))
  have hbel7 : Below Wc.heap.size Wc w7 := ((hbr6.alloc hbr6.size (Obj.cells #[.string name, u] 41)).drew).grown hgrow (by rw [hsA]; omega) (fun b hb' => by have := hocn b hb'; omega)
  exact ⟨hc7, hf7, _, _, SegBuf.above hPU (by rw [Deep.nblk_setCell]; exact Nat.le_refl _) (fun b hb' => Deep.blk_setCell_other _ _ _ _ (by simp; omega)), World.cell?_setCell_same _ _ _ hc7, by rw [World.frozen?_setCell]; exact hf7, hbel7.setCell (by simp) _, by rw [Deep.nblk_setCell]; omega⟩
end Go.Proofs.YtcphfhfockjljaaGreatDoor.Msg
