import Derived.Test.YtfeccdhadgpnkaaDoorMarkDatawithFlatKit
import Derived.Test.YtfeccdhadgpnkaaDoorPoolNewwithPoolNewI
import Derived.Test.YtfeccdhadgpnkaaDoorMsgOpen
namespace Go.Proofs.YtfeccdhadgpnkaaDoor.Msg
open Go.ChangeShapes Go.WideShapes Go.ChangeAt Go.RowKit
set_option linter.unusedVariables false

theorem cells_Want : Tryd.prog.cellsOf 27 = 4 := by kernel_rfl
theorem cells_Conn : Tryd.prog.cellsOf 100 = 7 := by kernel_rfl
theorem cells_Pool : Tryd.prog.cellsOf 25 = 4 := by kernel_rfl
theorem cells_Wants : Tryd.prog.cellsOf 23 = 1 := by kernel_rfl
theorem cells_Conns : Tryd.prog.cellsOf 22 = 1 := by kernel_rfl
theorem cells_int' : Tryd.prog.cellsOf 3 = 1 := by kernel_rfl
theorem cells_str' : Tryd.prog.cellsOf 9 = 1 := by kernel_rfl
theorem cells_bool' : Tryd.prog.cellsOf 4 = 1 := by kernel_rfl
theorem len_four {α : Type} {l : List α} (h : l.length = 4) : ∃ a b c d, l = [a, b, c, d] := by
  match l, h with
  | [a, b, c, d], _ => exact ⟨a, b, c, d, rfl⟩
theorem len_7 {α : Type} {l : List α} (h : l.length = 7) : ∃ a b c d e f g, l = [a, b, c, d, e, f, g] := by
  match l, h with
  | [a, b, c, d, e, f, g], _ => exact ⟨a, b, c, d, e, f, g, rfl⟩
section
variable {H : Type} {enc : TypeId × Value → H} {w : World} {spare : Nat → Bool} {held : Bool}
theorem open_wn {m : Nat} {cs : List Value} {y : DataW H × List MemPlace} (h : DataW.trod enc Tryd.prog w 0 spare held m 27 cs = some y) : ∃ x : Wn, cs = wnC x ∧ wnZ x := by
  obtain ⟨xs, n, _, rfl, hl, hlen, hf⟩ := DataW.trod_struct Tryd.underlying27 h
  rw [cells_Want] at hl
  obtain ⟨c0, c1, c2, c3, rfl⟩ := len_four hl
  match xs, hlen with
  | [y0, y1, y2, y3], _ =>
    have h0 : DataW.trod enc Tryd.prog w 0 spare held n 3 [c0] = some y0 := by have h : DataW.trod enc Tryd.prog w 0 spare held n 3 (([c0, c1, c2, c3].drop 0).take (Tryd.prog.cellsOf 3)) = _ := hf 0 _ rfl; rw [cells_int'] at h; simpa using h
    have h1 : DataW.trod enc Tryd.prog w 0 spare held n 9 [c1] = some y1 := by have h : DataW.trod enc Tryd.prog w 0 spare held n 9 (([c0, c1, c2, c3].drop 1).take (Tryd.prog.cellsOf 9)) = _ := hf 1 _ rfl; rw [cells_str'] at h; simpa using h
    have h2 : DataW.trod enc Tryd.prog w 0 spare held n 9 [c2] = some y2 := by have h : DataW.trod enc Tryd.prog w 0 spare held n 9 (([c0, c1, c2, c3].drop 2).take (Tryd.prog.cellsOf 9)) = _ := hf 2 _ rfl; rw [cells_str'] at h; simpa using h
    have h3 : DataW.trod enc Tryd.prog w 0 spare held n 9 [c3] = some y3 := by have h : DataW.trod enc Tryd.prog w 0 spare held n 9 (([c0, c1, c2, c3].drop 3).take (Tryd.prog.cellsOf 9)) = _ := hf 3 _ rfl; rw [cells_str'] at h; simpa using h
    obtain ⟨k0, e0, _⟩ := DataW.trod_int Tryd.underlying3 h0
    obtain ⟨s1, e1, _, z1⟩ := DataW.trod_string Tryd.underlying9 h1
    obtain ⟨s2, e2, _, z2⟩ := DataW.trod_string Tryd.underlying9 h2
    obtain ⟨s3, e3, _, z3⟩ := DataW.trod_string Tryd.underlying9 h3
    simp only [List.cons.injEq, and_true] at e0 e1 e2 e3
    subst e0 e1 e2 e3
    unfold maxLen at z1 z2 z3
    exact ⟨⟨k0, s1, s2, s3⟩, rfl, by simp only; omega, by simp only; omega, by simp only; omega⟩
theorem open_cn {m : Nat} {cs : List Value} {y : DataW H × List MemPlace} (h : DataW.trod enc Tryd.prog w 0 spare held m 100 cs = some y) : ∃ x : Cn, cs = cnC x ∧ cnZ x := by
  obtain ⟨xs, n, _, rfl, hl, hlen, hf⟩ := DataW.trod_struct Tryd.underlying100 h
  rw [cells_Conn] at hl
  obtain ⟨c0, c1, c2, c3, c4, c5, c6, rfl⟩ := len_7 hl
  match xs, hlen with
  | [y0, y1, y2, y3], _ =>
    have h0 : DataW.trod enc Tryd.prog w 0 spare held n 4 [c0] = some y0 := by have h : DataW.trod enc Tryd.prog w 0 spare held n 4 (([c0, c1, c2, c3, c4, c5, c6].drop 0).take (Tryd.prog.cellsOf 4)) = _ := hf 0 _ rfl; rw [cells_bool'] at h; simpa using h
    have h1 : DataW.trod enc Tryd.prog w 0 spare held n 9 [c1] = some y1 := by have h : DataW.trod enc Tryd.prog w 0 spare held n 9 (([c0, c1, c2, c3, c4, c5, c6].drop 1).take (Tryd.prog.cellsOf 9)) = _ := hf 1 _ rfl; rw [cells_str'] at h; simpa using h
    have h2 : DataW.trod enc Tryd.prog w 0 spare held n 27 [c2, c3, c4, c5] = some y2 := by have h : DataW.trod enc Tryd.prog w 0 spare held n 27 (([c0, c1, c2, c3, c4, c5, c6].drop 2).take (Tryd.prog.cellsOf 27)) = _ := hf 2 _ rfl; rw [cells_Want] at h; simpa using h
    have h3 : DataW.trod enc Tryd.prog w 0 spare held n 3 [c6] = some y3 := by have h : DataW.trod enc Tryd.prog w 0 spare held n 3 (([c0, c1, c2, c3, c4, c5, c6].drop 6).take (Tryd.prog.cellsOf 3)) = _ := hf 3 _ rfl; rw [cells_int'] at h; simpa using h
    obtain ⟨b0, e0, _⟩ := DataW.trod_bool Tryd.underlying4 h0
    obtain ⟨s1, e1, _, z1⟩ := DataW.trod_string Tryd.underlying9 h1
    obtain ⟨q, e2, zq⟩ := open_wn h2
    obtain ⟨k3, e3, _⟩ := DataW.trod_int Tryd.underlying3 h3
    simp only [List.cons.injEq, and_true, wnC] at e0 e1 e2 e3
    obtain ⟨e20, e21, e22, e23⟩ := e2
    subst e0 e1 e20 e21 e22 e23 e3
    unfold maxLen at z1
    exact ⟨⟨b0, s1, q, k3⟩, rfl, by simp only; omega, zq⟩
theorem flat_of {α : Type} {C : α → List Value} {Z : α → Prop} {b off n : Nat} {cs : List Value} {x : α} (hn : (C x).length = n) (hc : ∀ j, j < n → w.cell? ⟨b, off + j, none⟩ = cs[j]?) (he : cs = C x) (hz : Z x) : FR C Z 0 w b off x :=
  ⟨fun j hj => by rw [hc j (by omega), he, List.getElem?_eq_getElem hj], hz⟩
theorem open_wns {m : Nat} {cs : List Value} {y : DataW H × List MemPlace} (h : DataW.trod enc Tryd.prog w 0 spare held m 23 cs = some y) : ∃ v xs, cs = [v] ∧ WnsAt 0 w v xs :=
  open_at (by omega) Tryd.underlying23 cells_Want (fun _ _ _ _ _ h1 h2 => by obtain ⟨x, e, z⟩ := open_wn h1; exact ⟨x, flat_of (wnC_len x) h2 e z⟩) h
theorem open_cns {m : Nat} {cs : List Value} {y : DataW H × List MemPlace} (h : DataW.trod enc Tryd.prog w 0 spare held m 22 cs = some y) : ∃ v xs, cs = [v] ∧ CnsAt 0 w v xs :=
  open_at (by omega) Tryd.underlying22 cells_Conn (fun _ _ _ _ _ h1 h2 => by obtain ⟨x, e, z⟩ := open_cn h1; exact ⟨x, flat_of (cnC_len x) h2 e z⟩) h
theorem open_pl {m : Nat} {cs : List Value} {y : DataW H × List MemPlace} (h : DataW.trod enc Tryd.prog w 0 spare held m 25 cs = some y) : ∃ (x : Pl) (cv qv : Value), cs = [.int .i64 x.epoch, .int .i64 x.next, cv, qv] ∧ PlAt 0 w x cv qv := by
  obtain ⟨xs, n, _, rfl, hl, hlen, hf⟩ := DataW.trod_struct Tryd.underlying25 h
  rw [cells_Pool] at hl
  obtain ⟨c0, c1, c2, c3, rfl⟩ := len_four hl
  match xs, hlen with
  | [y0, y1, y2, y3], _ =>
    have h0 : DataW.trod enc Tryd.prog w 0 spare held n 3 [c0] = some y0 := by have h : DataW.trod enc Tryd.prog w 0 spare held n 3 (([c0, c1, c2, c3].drop 0).take (Tryd.prog.cellsOf 3)) = _ := hf 0 _ rfl; rw [cells_int'] at h; simpa using h
    have h1 : DataW.trod enc Tryd.prog w 0 spare held n 3 [c1] = some y1 := by have h : DataW.trod enc Tryd.prog w 0 spare held n 3 (([c0, c1, c2, c3].drop 1).take (Tryd.prog.cellsOf 3)) = _ := hf 1 _ rfl; rw [cells_int'] at h; simpa using h
    have h2 : DataW.trod enc Tryd.prog w 0 spare held n 22 [c2] = some y2 := by have h : DataW.trod enc Tryd.prog w 0 spare held n 22 (([c0, c1, c2, c3].drop 2).take (Tryd.prog.cellsOf 22)) = _ := hf 2 _ rfl; rw [cells_Conns] at h; simpa using h
    have h3 : DataW.trod enc Tryd.prog w 0 spare held n 23 [c3] = some y3 := by have h : DataW.trod enc Tryd.prog w 0 spare held n 23 (([c0, c1, c2, c3].drop 3).take (Tryd.prog.cellsOf 23)) = _ := hf 3 _ rfl; rw [cells_Wants] at h; simpa using h
    obtain ⟨k0, e0, _⟩ := DataW.trod_int Tryd.underlying3 h0
    obtain ⟨k1, e1, _⟩ := DataW.trod_int Tryd.underlying3 h1
    obtain ⟨v2, cs2, e2, hc2⟩ := open_cns h2
    obtain ⟨v3, qs3, e3, hq3⟩ := open_wns h3
    simp only [List.cons.injEq, and_true] at e0 e1 e2 e3
    subst e0 e1 e2 e3
    exact ⟨⟨k0, k1, cs2, qs3⟩, _, _, rfl, hc2, hq3⟩
end
end Go.Proofs.YtfeccdhadgpnkaaDoor.Msg
