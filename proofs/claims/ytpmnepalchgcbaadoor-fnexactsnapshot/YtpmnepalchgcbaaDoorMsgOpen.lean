import Derived.Test.YtpmnepalchgcbaaDoorMsgDatawithMsgSzwithMsgSz2
import Derived.Deep.Slices
import Derived.ChangeOld
namespace Go.Proofs.YtpmnepalchgcbaaDoor.Msg
open Go.ChangeShapes Go.WideShapes Go.ChangeAt Go.RowKit
set_option linter.unusedVariables false
set_option linter.unusedSimpArgs false

theorem choose_list {α : Type} {p : Nat → α → Prop} : ∀ (n : Nat), (∀ i, i < n → ∃ x, p i x) → ∃ xs : List α, xs.length = n ∧ ∀ i (h : i < xs.length), p i xs[i]
  | 0, _ => ⟨[], rfl, fun i h => absurd h (by simp)⟩
  | n + 1, h => by
    obtain ⟨xs, hl, hx⟩ := choose_list n fun i hi => h i (by omega)
    obtain ⟨y, hy⟩ := h n (by omega)
    refine ⟨xs ++ [y], by simp [hl], fun i hi => ?_⟩
    by_cases e : i < xs.length
    · rw [List.getElem_append_left e]; exact hx i e
    · have e2 : i = xs.length := by simp at hi; omega
      subst e2
      rw [List.getElem_append_right (Nat.le_refl _)]
      simpa [hl] using hy

theorem len_two {α : Type} {l : List α} (h : l.length = 2) : ∃ a b, l = [a, b] := by
  cases l with
  | nil => cases h
  | cons a l =>
    cases l with
    | nil => cases h
    | cons b l =>
      cases l with
      | nil => exact ⟨a, b, rfl⟩
      | cons c l => simp at h

theorem add_none (b off k : Nat) : (⟨b, off, none⟩ : Addr).add k = ⟨b, off + k, none⟩ := by
  unfold Addr.add
  split <;> simp_all

/-- A slice that was read as data is a list, where each of its elements is. -/
theorem open_at {H : Type} {enc : TypeId × Value → H} {P : Program} {w : World} {spare : Nat → Bool} {held : Bool} {t e : TypeId} {fuel : Nat} {cs : List Value} {x : DataW H × List MemPlace}
    {α : Type} {n : Nat} {R : Nat → World → Nat → Nat → α → Prop} (hn : 0 < n) (ht : P.underlying t = some (.slice e)) (hc : P.cellsOf e = n)
    (hR : ∀ (cs' : List Value) (y : DataW H × List MemPlace) (m b off : Nat), DataW.trod enc P w 0 spare held m e cs' = some y → (∀ j, j < n → w.cell? ⟨b, off + j, none⟩ = cs'[j]?) → ∃ z : α, R 0 w b off z)
    (h : DataW.trod enc P w 0 spare held fuel t cs = some x) : ∃ v xs, cs = [v] ∧ At n R 0 w v xs := by
  rcases Deep.open_slice ht h with ⟨rfl, _⟩ | ⟨a, len, cap, m, k, D, Pl, rfl, _, h1, h2, hm, _, hel⟩
  · exact ⟨_, [], rfl, by simp, .inl ⟨_, _, rfl, rfl⟩⟩
  · by_cases h0 : len = 0
    · subst h0
      exact ⟨_, [], rfl, by simp, .inl ⟨_, _, rfl, rfl⟩⟩
    · have hlm : len ≤ m := by rw [hm]; split <;> omega
      obtain ⟨b, off, spot⟩ := a
      obtain ⟨c0, g0, _⟩ := hel 0 (by omega)
      rw [hc] at g0
      obtain ⟨_, l0, k0⟩ := World.cells?_some g0
      have hb := World.cells?_block g0 hn
      have hspot : spot = none := by
        have := k0 0 hn
        cases hv : c0[0]? with
        | none => rw [List.getElem?_eq_none_iff] at hv; omega
        | some v =>
          rw [hv] at this
          simpa [Addr.add] using World.cell?_spot this
      subst hspot
      obtain ⟨xs, hl, hx⟩ := choose_list (p := fun i z => R 0 w b (off + i * n) z) len fun i hi => by
        obtain ⟨cs', g1, g2⟩ := hel i (by omega)
        rw [hc] at g1
        obtain ⟨_, l1, k1⟩ := World.cells?_some g1
        exact hR cs' _ _ b (off + i * n) g2 fun j hj => by have := k1 j hj; rw [add_none, add_none] at this; exact this
      subst hl
      refine ⟨_, xs, rfl, ?_, .inr ⟨b, off, cap, rfl, ⟨Nat.zero_le _, by simpa [Addr.add] using hb⟩, hx⟩⟩
      unfold maxLen at h2
      omega

theorem open_str {H : Type} {enc : TypeId × Value → H} {w : World} {spare : Nat → Bool} {held : Bool} {m : Nat} {cs : List Value} {y : DataW H × List MemPlace} {b off : Nat}
    (h : DataW.trod enc Tryd.prog w 0 spare held m 9 cs = some y) (hc : ∀ j, j < 1 → w.cell? ⟨b, off + j, none⟩ = cs[j]?) : ∃ z, StrR 0 w b off z := by
  obtain ⟨s, rfl, _, hs⟩ := DataW.trod_string Tryd.underlying9 h
  unfold maxLen at hs
  exact ⟨s, by simpa using hc 0 (by omega), by omega⟩

theorem cells_string : Tryd.prog.cellsOf 9 = 1 := by kernel_rfl
theorem cells_strs : Tryd.prog.cellsOf 36 = 1 := by kernel_rfl
section
variable {H : Type} {enc : TypeId × Value → H} {w : World} {spare : Nat → Bool} {held : Bool}

theorem open_strs' {m : Nat} {cs : List Value} {y : DataW H × List MemPlace} (h : DataW.trod enc Tryd.prog w 0 spare held m 36 cs = some y) : ∃ v xs, cs = [v] ∧ StrsAt 0 w v xs :=
  open_at (by omega) Tryd.underlying36 cells_string (fun _ _ _ _ _ h1 h2 => open_str h1 h2) h

/-- a struct of one cell whose field is a slice -/
theorem open_one {t u : TypeId} {f0 : Go.Field} (ht : Tryd.prog.underlying t = some (.struct #[f0])) (h0 : f0.type = u) (ho : f0.offset = 0) (hc : Tryd.prog.cellsOf t = 1) (hu : Tryd.prog.cellsOf u = 1)
    {m : Nat} {cs : List Value} {y : DataW H × List MemPlace} (h : DataW.trod enc Tryd.prog w 0 spare held m t cs = some y) :
    ∃ n y0, cs.length = 1 ∧ DataW.trod enc Tryd.prog w 0 spare held n u cs = some y0 := by
  obtain ⟨y0, n, _, hl, h1⟩ := trod_struct1 ht h
  rw [hc] at hl
  subst h0
  rw [ho, hu, List.drop_zero, List.take_of_length_le (by omega)] at h1
  exact ⟨n, y0, hl, h1⟩

end
end Go.Proofs.YtpmnepalchgcbaaDoor.Msg
