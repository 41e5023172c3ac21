import Derived.Test.YtcphfhfockjljaaDoorMarkMsgwithListBuf
namespace Go.Proofs.YtcphfhfockjljaaDoor.Msg
open Go.ChangeShapes Go.WideShapes Go.ChangeAt Go.RowKit
set_option linter.unusedVariables false
set_option linter.unusedSimpArgs false

theorem own_below {base : Nat} {e : TypeId} {w w' : World} {v : Value} {n : Nat} {vs : List Value} (h : w.ownsRow base e 1 v n vs) (hb : Below w.heap.size w w') : w'.ownsRow base e 1 v n vs := by
  obtain ⟨hl, ⟨rfl, h0⟩ | ⟨g, cap, cur, rfl, hg, hs, rest⟩⟩ := h
  · exact ⟨hl, .inl ⟨rfl, h0⟩⟩
  · refine ⟨hl, .inr ⟨g, cap, cur, rfl, hg, ?_, rest⟩⟩
    rw [hb.block g (by rw [Array.getElem?_eq_some_iff] at hs; exact hs.1)]
    exact hs
theorem keepN_snoc {α : Type} (p : α → Bool) (xs : List α) (k : Nat) (hk : k < xs.length) : keepN p (xs.take (k + 1)) = if p xs[k] = true then keepN p (xs.take k) else k + 1 := by
  have hle := keepN_le p (xs.take k)
  rw [List.length_take] at hle
  have hlen : (xs.take (k + 1)).length = k + 1 := by rw [List.length_take]; omega
  have key : ∀ (ys : List α) (j : Nat) (h : j < ys.length), keepN p ys ≤ j → p ys[j] = true := by
    intro ys
    induction ys with
    | nil => intro j h; simp at h
    | cons y ys ih =>
      intro j h hj
      cases hkn : keepN p ys with
      | zero =>
        cases j with
        | zero =>
          by_cases hy : p y = true
          · simpa using hy
          · have e : keepN p (y :: ys) = 1 := by simp [keepN, hkn, hy]
            omega
        | succ j => exact ih j (by simp at h; omega) (by omega)
      | succ q =>
        have e : keepN p (y :: ys) = q + 2 := by simp [keepN, hkn]
        cases j with
        | zero => omega
        | succ j => exact ih j (by simp at h; omega) (by omega)
  have last : ∀ (ys : List α) (h : keepN p ys - 1 < ys.length), 0 < keepN p ys → p ys[keepN p ys - 1] = false := by
    intro ys
    induction ys with
    | nil => intro h h0; simp [keepN] at h0
    | cons y ys ih =>
      intro h h0
      cases hkn : keepN p ys with
      | zero =>
        by_cases hy : p y = true
        · simp [keepN, hkn, hy] at h0
        · have e : keepN p (y :: ys) = 1 := by simp [keepN, hkn, hy]
          simp only [e]
          simpa using hy
      | succ q =>
        have e : keepN p (y :: ys) = q + 2 := by simp [keepN, hkn]
        have hq : q < ys.length := by have := keepN_le p ys; omega
        have := ih (by rw [hkn]; simpa using hq) (by omega)
        simp only [hkn] at this
        simp only [e]
        simpa using this
  by_cases hp : p xs[k] = true
  · rw [if_pos hp]
    apply keepN_is
    · omega
    · intro j hj hge
      rw [hlen] at hj
      rw [List.getElem_take]
      by_cases e : j = k
      · subst e; exact hp
      · have := key (xs.take k) j (by rw [List.length_take]; omega) hge
        rwa [List.getElem_take] at this
    · intro h h0
      have h' : keepN p (xs.take k) - 1 < (xs.take k).length := by rw [List.length_take]; omega
      have := last (xs.take k) h' h0
      rw [List.getElem_take] at this ⊢
      exact this
  · rw [if_neg hp]
    apply keepN_is
    · omega
    · intro j hj hge; omega
    · intro h h0
      rw [List.getElem_take]
      simpa using hp

def repsL (c1 c2 : UInt8) (l : List UInt8) : List (List (List UInt8)) := trimE List.isEmpty ((cutL c2 l).map (compsL c1))
def repT (r : List (List UInt8)) : Rep := r.map txt
theorem info_facts {P : Program} {e : TypeId} {z : Value} {sz bytes : Nat} (h : (P.info? e).map (fun i => (i.zero, i.size, i.bytes)) = some (some z, sz, bytes)) : ∃ i, P.info? e = some i ∧ i.zero = some z ∧ i.size = sz ∧ i.bytes = bytes := by
  cases hi : P.info? e with
  | none => rw [hi] at h; cases h
  | some i =>
    rw [hi] at h
    simp only [Option.map_some, Option.some.injEq, Prod.mk.injEq] at h
    exact ⟨i, rfl, h.1, h.2.1, h.2.2⟩
theorem one_slice (a : Option Addr) (n c : Nat) : ∀ u ∈ [Value.slice a n c], u.oneCell' = true := by
  intro u hu
  simp at hu
  subst hu
  rfl

end Go.Proofs.YtcphfhfockjljaaDoor.Msg
