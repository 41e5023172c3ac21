import Derived.Test.YtpmnepalchgcbaaDoorRowsImplwithQryNumwithChgPure
import Derived.Test.YtpmnepalchgcbaaDoorMsgTowithMsgTo2withTblSz
import Derived.Test.YtpmnepalchgcbaaDoorMsgOpen
namespace Go.Proofs.YtpmnepalchgcbaaDoor.Msg
open Go.ChangeShapes Go.WideShapes Go.ChangeAt Go.RowKit
set_option linter.unusedVariables false

theorem cells_Sess9 : Tryd.prog.cellsOf 59 = 7 := by kernel_rfl
theorem cells_Tbl9 : Tryd.prog.cellsOf 24 = 1 := by kernel_rfl
theorem cells_Sesss9 : Tryd.prog.cellsOf 22 = 1 := by kernel_rfl
theorem cells_int9 : Tryd.prog.cellsOf 3 = 1 := by kernel_rfl
theorem cells_str9 : Tryd.prog.cellsOf 9 = 1 := by kernel_rfl
theorem len_seven9 {α : Type} {l : List α} (h : l.length = 7) : ∃ a b c d e f g, l = [a, b, c, d, e, f, g] := by
  match l, h with
  | [a, b, c, d, e, f, g], _ => exact ⟨a, b, c, d, e, f, g, rfl⟩
section
variable {H : Type} {enc : TypeId × Value → H} {w : World} {spare : Nat → Bool} {held : Bool}
theorem open_sess {m b off : Nat} {cs : List Value} {y : DataW H × List MemPlace} (h : DataW.trod enc Tryd.prog w 0 spare held m 59 cs = some y) (hc : ∀ j, j < 7 → w.cell? ⟨b, off + j, none⟩ = cs[j]?) : ∃ z, SessR 0 w b off z := by
  obtain ⟨xs, n, _, rfl, hl, hlen, hf⟩ := DataW.trod_struct Tryd.underlying59 h
  rw [cells_Sess9] at hl
  obtain ⟨c0, c1, c2, c3, c4, c5, c6, rfl⟩ := len_seven9 hl
  match xs, hlen with
  | [y0, y1, y2, y3, y4, y5, y6], _ =>
    have h0 : DataW.trod enc Tryd.prog w 0 spare held n 3 [c0] = some y0 := by have h : DataW.trod enc Tryd.prog w 0 spare held n 3 (([c0, c1, c2, c3, c4, c5, c6].drop 0).take (Tryd.prog.cellsOf 3)) = _ := hf 0 _ rfl; rw [cells_int9] at h; simpa using h
    have h1 : DataW.trod enc Tryd.prog w 0 spare held n 9 [c1] = some y1 := by have h : DataW.trod enc Tryd.prog w 0 spare held n 9 (([c0, c1, c2, c3, c4, c5, c6].drop 1).take (Tryd.prog.cellsOf 9)) = _ := hf 1 _ rfl; rw [cells_str9] at h; simpa using h
    have h2 : DataW.trod enc Tryd.prog w 0 spare held n 9 [c2] = some y2 := by have h : DataW.trod enc Tryd.prog w 0 spare held n 9 (([c0, c1, c2, c3, c4, c5, c6].drop 2).take (Tryd.prog.cellsOf 9)) = _ := hf 2 _ rfl; rw [cells_str9] at h; simpa using h
    have h3 : DataW.trod enc Tryd.prog w 0 spare held n 3 [c3] = some y3 := by have h : DataW.trod enc Tryd.prog w 0 spare held n 3 (([c0, c1, c2, c3, c4, c5, c6].drop 3).take (Tryd.prog.cellsOf 3)) = _ := hf 3 _ rfl; rw [cells_int9] at h; simpa using h
    have h4 : DataW.trod enc Tryd.prog w 0 spare held n 3 [c4] = some y4 := by have h : DataW.trod enc Tryd.prog w 0 spare held n 3 (([c0, c1, c2, c3, c4, c5, c6].drop 4).take (Tryd.prog.cellsOf 3)) = _ := hf 4 _ rfl; rw [cells_int9] at h; simpa using h
    have h5 : DataW.trod enc Tryd.prog w 0 spare held n 36 [c5] = some y5 := by have h : DataW.trod enc Tryd.prog w 0 spare held n 36 (([c0, c1, c2, c3, c4, c5, c6].drop 5).take (Tryd.prog.cellsOf 36)) = _ := hf 5 _ rfl; rw [cells_strs] at h; simpa using h
    have h6 : DataW.trod enc Tryd.prog w 0 spare held n 3 [c6] = some y6 := by have h : DataW.trod enc Tryd.prog w 0 spare held n 3 (([c0, c1, c2, c3, c4, c5, c6].drop 6).take (Tryd.prog.cellsOf 3)) = _ := hf 6 _ rfl; rw [cells_int9] at h; simpa using h
    obtain ⟨k0, e0, _⟩ := DataW.trod_int Tryd.underlying3 h0
    obtain ⟨s1, e1, _, z1⟩ := DataW.trod_string Tryd.underlying9 h1
    obtain ⟨s2, e2, _, z2⟩ := DataW.trod_string Tryd.underlying9 h2
    obtain ⟨k3, e3, _⟩ := DataW.trod_int Tryd.underlying3 h3
    obtain ⟨k4, e4, _⟩ := DataW.trod_int Tryd.underlying3 h4
    obtain ⟨v5, rows, e5, hs⟩ := open_strs' h5
    obtain ⟨k6, e6, _⟩ := DataW.trod_int Tryd.underlying3 h6
    simp only [List.cons.injEq, and_true] at e0 e1 e2 e3 e4 e5 e6
    subst e0 e1 e2 e3 e4 e5 e6
    unfold maxLen at z1 z2
    exact ⟨⟨k0, s1, s2, k3, k4, rows, k6⟩, by simpa using hc 0 (by omega), by simpa using hc 1 (by omega), by simpa using hc 2 (by omega), by simpa using hc 3 (by omega), by simpa using hc 4 (by omega), by simpa using hc 6 (by omega), by simp only; omega, by simp only; omega, _, by simpa using hc 5 (by omega), hs⟩
theorem open_sesss {m : Nat} {cs : List Value} {y : DataW H × List MemPlace} (h : DataW.trod enc Tryd.prog w 0 spare held m 22 cs = some y) : ∃ v xs, cs = [v] ∧ SesssAt 0 w v xs :=
  open_at (by omega) Tryd.underlying22 cells_Sess9 (fun _ _ _ _ _ h1 h2 => open_sess h1 h2) h
theorem open_tbl {m : Nat} {cs : List Value} {y : DataW H × List MemPlace} (h : DataW.trod enc Tryd.prog w 0 spare held m 24 cs = some y) : ∃ v xs, cs = [v] ∧ SesssAt 0 w v xs := by
  obtain ⟨n, y0, hl, h1⟩ := open_one Tryd.underlying24 (u := 22) rfl rfl cells_Tbl9 cells_Sesss9 h
  exact open_sesss h1
end
end Go.Proofs.YtpmnepalchgcbaaDoor.Msg
