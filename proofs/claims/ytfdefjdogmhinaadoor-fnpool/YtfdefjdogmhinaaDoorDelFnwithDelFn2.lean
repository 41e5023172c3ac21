import Derived.Test.YtfdefjdogmhinaaDoorExpPurewithFgtFn
import Derived.Lib.SliceRun
namespace Go.Proofs.YtfdefjdogmhinaaDoor.Msg
open Go.ChangeShapes Go.WideShapes Go.ChangeAt Go.RowKit
set_option linter.unusedVariables false
set_option linter.unusedSimpArgs false

theorem Box.setCells : ∀ (L : List Value) (o : Nat) {w : World} {b : Nat} {t : TypeId} {arr : Array Value}, Box w b t arr → ∃ arr', Box (w.setCells b o L) b t arr' ∧ arr'.size = arr.size ∧ ∀ i, i < o → arr'[i]? = arr[i]?
  | [], o, w, b, t, arr, h => ⟨arr, h, rfl, fun _ _ => rfl⟩
  | v :: L, o, w, b, t, arr, h => by
    obtain ⟨arr', h1, h2, h3⟩ := Box.setCells L (o + 1) (h.set o v)
    refine ⟨arr', h1, by rw [h2, Array.size_setIfInBounds], fun i hi => ?_⟩
    rw [h3 i (by omega), Array.getElem?_setIfInBounds_ne (by omega)]
theorem Only.setCells : ∀ (L : List Value) (o : Nat) {w w0 : World} {b : Nat}, Only [b] w0 w → Only [b] w0 (w.setCells b o L)
  | [], _, _, _, _, h => h
  | v :: L, o, w, w0, b, h => Only.setCells L (o + 1) (h.setCell (by simp) v)
/-- the cells of a box at an index -/
theorem Box.cellAt {w : World} {b : Nat} {t : TypeId} {arr : Array Value} (h : Box w b t arr) (i : Nat) : w.cell? ⟨b, i, none⟩ = arr[i]? := by
  unfold Box at h
  simp [World.cell?, h]
theorem zeroWn (w : World) : (zeroValue 33).run Tryd.prog w = .ok (.agg #[.int .i64 0, .string ⟨#[]⟩, .string ⟨#[]⟩, .string ⟨#[]⟩]) w := by
  have hz : Tryd.t33.zero = some (.agg #[.int .i64 0, .string ⟨#[]⟩, .string ⟨#[]⟩, .string ⟨#[]⟩]) := by kernel_rfl
  simp [zeroValue, go_sem, hz]
/-- clear of a part of a row of wants -/
theorem clearW {w : World} {b o n c : Nat} {arr : Array Value} (h : Box w b 33 arr) (hn : o + n * 4 ≤ arr.size) (ty : TypeId) :
    ∃ w' arr', (Builtin.clear_ #[25] ty #[.slice (some ⟨b, o, none⟩) n c]).run Tryd.prog w = .ok (.tuple #[]) w' ∧ Only [b] w w' ∧ Box w' b 33 arr' ∧ arr'.size = arr.size ∧ ∀ i, i < o → arr'[i]? = arr[i]? := by
  cases n with
  | zero =>
    refine ⟨w, arr, ?_, Only.refl _ _, h, rfl, fun _ _ => rfl⟩
    simp [Builtin.clear_, Tryd.underlying25, go_sem]
  | succ m =>
    obtain ⟨L, hL⟩ : ∃ L, (Builtin.zeroCells (#[.int .i64 0, .string ⟨#[]⟩, .string ⟨#[]⟩, .string ⟨#[]⟩] : Array Value) (m + 1)).toList = L := ⟨_, rfl⟩
    have hLl : L.length = (m + 1) * 4 := by rw [← hL]; simp [Builtin.zeroCells]
    have hL1 : ∀ v ∈ L, v.oneCell' = true := fun v hv => by
      rw [← hL] at hv
      simp [Builtin.zeroCells] at hv
      obtain ⟨a, _, rfl⟩ := hv
      have : a % 4 < 4 := Nat.mod_lt _ (by omega)
      generalize a % 4 = r at this
      match r, this with
      | 0, _ => rfl
      | 1, _ => rfl
      | 2, _ => rfl
      | 3, _ => rfl
    have hst := run_storeCells_cells (P := Tryd.prog) b o L 0 w (fun j hj => by rw [Nat.add_zero, h.cellAt, Array.getElem?_eq_getElem (by omega)]; rfl) (fun j hj => by rw [Nat.add_zero]; exact h.frozen _) hL1
    rw [Nat.add_zero] at hst
    obtain ⟨arr', h1, h2, h3⟩ := h.setCells L o
    refine ⟨w.setCells b o L, arr', ?_, Only.setCells L o (Only.refl _ _), h1, h2, h3⟩
    simp [Builtin.clear_, Tryd.underlying25, go_sem, zeroWn, Value.cells, hL, hst]
end Go.Proofs.YtfdefjdogmhinaaDoor.Msg

namespace Go.Proofs.YtfdefjdogmhinaaDoor.Msg
open Go.ChangeShapes Go.WideShapes Go.ChangeAt Go.RowKit
set_option linter.unusedVariables false
set_option linter.unusedSimpArgs false

/-- a want is written into an owned row -/
def put4 (w : World) (g p : Nat) (y : Wn) : World := (((w.setCell ⟨g, p, none⟩ (.int .i64 y.client)).setCell ⟨g, p + 1, none⟩ (.string y.tag)).setCell ⟨g, p + 2, none⟩ (.string y.query)).setCell ⟨g, p + 3, none⟩ (.string y.pointer)
theorem put4_only (w : World) (g p : Nat) (y : Wn) : Only [g] w (put4 w g p y) := ((((Only.refl _ _).setCell (by simp) _).setCell (by simp) _).setCell (by simp) _).setCell (by simp) _
theorem FB.put4 {base : Nat} {w : World} {g n cap : Nat} {ys : List Wn} (h : FB wnC 4 33 base w (.slice (some ⟨g, 0, none⟩) n cap) ys) {i : Nat} (hi : i < ys.length) (y : Wn) {p : Nat} (hp : i * 4 = p) :
    FB wnC 4 33 base (put4 w g p y) (.slice (some ⟨g, 0, none⟩) n cap) (ys.set i y) := by
  subst hp
  obtain ⟨hlen, ⟨e, h0⟩ | ⟨g', cap', cur, e, hg, hs, hcap, hm, hsz, htk⟩⟩ := h
  · cases e
  · injection e with e1 e2 e3
    injection e1 with e1
    injection e1 with e1 _ _
    subst e1 e3
    have hB : Box w g 33 cur := hs
    have h4 := (((hB.set (i * 4) (.int .i64 y.client)).set (i * 4 + 1) (.string y.tag)).set (i * 4 + 2) (.string y.query)).set (i * 4 + 3) (.string y.pointer)
    refine ⟨by rw [flat_len wnC_len], .inr ⟨g, cap, _, by rw [List.length_set, ← e2], hg, h4, by rw [List.length_set]; exact hcap, hm, by simp [hsz], ?_⟩⟩
    rw [List.length_set]
    have hi4 : (i + 1) * 4 ≤ ys.length * 4 := Nat.mul_le_mul_right 4 hi
    apply List.ext_getElem?
    intro m
    by_cases hmn : m < ys.length * 4
    · have hq : m / 4 < ys.length := (Nat.div_lt_iff_lt_mul (by omega)).2 hmn
      have hr : m % 4 < 4 := Nat.mod_lt _ (by omega)
      have em : m / 4 * 4 + m % 4 = m := Nat.div_add_mod' m 4
      have hold := flat_get wnC_len ys (m / 4) (m % 4) hq hr
      rw [em, ← htk, List.getElem?_take, if_pos hmn, Array.getElem?_toList] at hold
      have hnew := flat_get wnC_len (ys.set i y) (m / 4) (m % 4) (by rw [List.length_set]; exact hq) hr
      rw [em] at hnew
      rw [hnew, List.getElem?_take, if_pos hmn, Array.getElem?_toList]
      have hms : m < cur.size := by rw [hsz]; omega
      simp only [Array.getElem?_setIfInBounds, Array.size_setIfInBounds]
      by_cases hmi : m / 4 = i
      · have e5 : (ys.set i y)[m / 4]'(by rw [List.length_set]; exact hq) = y := by simp [hmi]
        simp only [e5]
        have hr' : m % 4 = m - i * 4 := by omega
        rcases (show m % 4 = 0 ∨ m % 4 = 1 ∨ m % 4 = 2 ∨ m % 4 = 3 by omega) with h | h | h | h
        · have hm' : m = i * 4 := by omega
          simp [hm', wnC]
          omega
        · have hm' : m = i * 4 + 1 := by omega
          simp [hm', wnC, show (i * 4 + 1) % 4 = 1 by omega]
          omega
        · have hm' : m = i * 4 + 2 := by omega
          simp [hm', wnC, show (i * 4 + 2) % 4 = 2 by omega]
          omega
        · have hm' : m = i * 4 + 3 := by omega
          simp [hm', wnC, show (i * 4 + 3) % 4 = 3 by omega]
          omega
      · have e5 : (ys.set i y)[m / 4]'(by rw [List.length_set]; exact hq) = ys[m / 4] := by rw [List.getElem_set_ne (Ne.symm hmi)]
        simp only [e5]
        rw [if_neg (by omega), if_neg (by omega), if_neg (by omega), if_neg (by omega)]
        exact hold
    · rw [List.getElem?_eq_none (by simp; omega), List.getElem?_eq_none (by rw [flat_len wnC_len, List.length_set]; omega)]
end Go.Proofs.YtfdefjdogmhinaaDoor.Msg
