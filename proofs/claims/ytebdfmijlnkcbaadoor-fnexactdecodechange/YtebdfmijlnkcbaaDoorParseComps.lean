import Derived.Test.YtebdfmijlnkcbaaDoorParseCut
import Derived.Test.YtebdfmijlnkcbaaDoorMsgTo2
import Derived.Test.YtebdfmijlnkcbaaDoorMarkData
namespace Go.Proofs.YtebdfmijlnkcbaaDoor.Msg
open Go.ChangeShapes Go.WideShapes Go.ChangeAt Go.RowKit
set_option linter.unusedVariables false
set_option linter.unusedSimpArgs false

/-- how long a list is when what is empty at its end is left out -/
def keepN {α : Type} (p : α → Bool) : List α → Nat
  | [] => 0
  | x :: xs => match keepN p xs with
    | 0 => if p x then 0 else 1
    | n + 1 => n + 2
def trimE {α : Type} (p : α → Bool) (xs : List α) : List α := xs.take (keepN p xs)
theorem keepN_le {α : Type} (p : α → Bool) : ∀ xs : List α, keepN p xs ≤ xs.length
  | [] => Nat.le_refl _
  | x :: xs => by
    have := keepN_le p xs
    simp only [keepN, List.length_cons]
    split
    · split <;> omega
    · omega
theorem keepN_is {α : Type} (p : α → Bool) : ∀ (xs : List α) (n : Nat), n ≤ xs.length → (∀ j (h : j < xs.length), n ≤ j → p xs[j] = true) → (∀ h : n - 1 < xs.length, 0 < n → p xs[n - 1] = false) → keepN p xs = n
  | [], n, h1, _, _ => by simp at h1; simp [keepN, h1]
  | x :: xs, n, h1, h2, h3 => by
    simp only [keepN]
    cases n with
    | zero =>
      have e : keepN p xs = 0 := keepN_is p xs 0 (Nat.zero_le _) (fun j hj _ => h2 (j + 1) (by simp; omega) (Nat.zero_le _)) (fun _ h => absurd h (by omega))
      rw [e]
      have := h2 0 (by simp) (Nat.le_refl _)
      simp at this
      simp [this]
    | succ m =>
      have e : keepN p xs = m := keepN_is p xs m (by simp at h1; omega) (fun j hj hm => h2 (j + 1) (by simp; omega) (by omega)) (fun hj hp => by
        have := h3 (by simp at h1 ⊢; omega) (by omega)
        obtain ⟨q, rfl⟩ : ∃ q, m = q + 1 := ⟨m - 1, by omega⟩
        simpa using this)
      rw [e]
      cases m with
      | zero =>
        have := h3 (by simp) (by omega)
        simp at this
        simp [this]
      | succ q => rfl

def compsL (c1 : UInt8) (l : List UInt8) : List (List UInt8) := trimE List.isEmpty (cutL c1 l)

theorem cutGo_len (c : UInt8) : ∀ (l cur : List UInt8), (cutGo c cur l).length ≤ l.length + 1
  | [], cur => by simp [cutGo]
  | x :: xs, cur => by
    unfold cutGo
    split
    · have := cutGo_len c xs []
      simp only [List.length_cons]; omega
    · have := cutGo_len c xs (cur ++ [x])
      simp only [List.length_cons]; omega
theorem cutGo_sz (c : UInt8) : ∀ (l cur : List UInt8), ∀ p ∈ cutGo c cur l, p.length ≤ cur.length + l.length
  | [], cur => by intro p hp; simp [cutGo] at hp; subst hp; simp
  | x :: xs, cur => by
    intro p hp
    unfold cutGo at hp
    split at hp
    · rw [List.mem_cons] at hp
      rcases hp with rfl | hp
      · omega
      · have := cutGo_sz c xs [] p hp; simp only [List.length_cons, List.length_nil] at *; omega
    · have := cutGo_sz c xs (cur ++ [x]) p hp
      simp only [List.length_append, List.length_cons, List.length_nil] at *; omega
theorem cutL_len (c : UInt8) (l : List UInt8) : (cutL c l).length ≤ l.length + 1 := cutGo_len c l []
theorem cutL_sz (c : UInt8) (l : List UInt8) : ∀ p ∈ cutL c l, p.length ≤ l.length := fun p hp => by have := cutGo_sz c l [] p hp; simpa using this

theorem bjoin' {w W c : World} (h2 : Below W.heap.size W c) (h1 : Below w.heap.size w W) : Below w.heap.size w c := h1.trans (h2.mono h1.size)
theorem cutGo_pos (c : UInt8) : ∀ (l cur : List UInt8), 0 < (cutGo c cur l).length
  | [], cur => by simp [cutGo]
  | x :: xs, cur => by
    unfold cutGo
    split
    · simp
    · exact cutGo_pos c xs _
theorem cutL_pos (c : UInt8) (l : List UInt8) : 0 < (cutL c l).length := cutGo_pos c l []

/-- a slice of pieces, written out -/
theorem pieces_form {base : Nat} {w : World} {v : Value} {ps : List (List UInt8)} (h : SBuf base w v (ps.map txt)) (hp : 0 < ps.length) :
    ∃ g cap, v = .slice (some ⟨g, 0, none⟩) ps.length cap ∧ base ≤ g ∧ g < w.heap.size ∧ ps.length ≤ cap ∧ cap ≤ 9223372036854775807 ∧ ∀ i (hi : i < ps.length), w.cell? ⟨g, i, none⟩ = some (.string (txt ps[i])) ∧ w.frozen? ⟨g, i, none⟩ = false := by
  have h' : w.ownsRow base 9 1 v ((ps.map txt).map Value.string).length ((ps.map txt).map Value.string) := by rw [List.length_map]; exact h
  have hlen : ((ps.map txt).map Value.string).length = ps.length := by simp
  rcases own_cells h' with ⟨h0, _⟩ | ⟨g, cap, rfl, hg, hlt, hc⟩
  · simp at h0; subst h0; simp at hp
  · have hcap : ps.length ≤ cap ∧ cap ≤ 9223372036854775807 := by
      obtain ⟨_, ⟨e, _⟩ | ⟨g', cap', cur, e, _, _, hcap, hm, _⟩⟩ := h
      · cases e
      · injection e with e1 e2 e3
        subst e3
        rw [List.length_map] at hcap
        unfold maxLen at hm
        exact ⟨hcap, by omega⟩
    refine ⟨g, cap, by rw [hlen], hg, hlt, hcap.1, hcap.2, fun i hi => ?_⟩
    have := hc i (by rw [hlen]; exact hi)
    rw [List.getElem_map, List.getElem_map] at this
    exact this
/-- its first n -/
theorem pieces_take {base g cap n : Nat} {w : World} {ps : List (List UInt8)} (hg : base ≤ g) (hlt : g < w.heap.size) (hc : ∀ i (hi : i < ps.length), w.cell? ⟨g, i, none⟩ = some (.string (txt ps[i])) ∧ w.frozen? ⟨g, i, none⟩ = false) (hl : ps.length ≤ 1048577) (hz : ∀ p ∈ ps, p.length ≤ 1048576) (hn : n ≤ ps.length) :
    ∃ bs, OStrs w (.slice (some ⟨g, 0, none⟩) n cap) ((ps.take n).map txt) bs ∧ bs.Nodup ∧ ∀ b ∈ bs, base ≤ b := by
  have hln : ((ps.take n).map txt).length = n := by rw [List.length_map, List.length_take]; omega
  refine ⟨[g], ⟨by rw [hln]; omega, .inr ⟨g, 0, cap, List.replicate n [], by rw [hln], hlt, by simp, by rw [hln]; simp, fun i hi h2 => ?_⟩⟩, by simp, by simp [hg]⟩
  have hi' : i < ps.length := by rw [hln] at hi; omega
  rw [List.getElem_map, List.getElem_take]
  exact ⟨by simpa using (hc i hi').1, by simpa using (hc i hi').2, by rw [txt_size]; have := hz ps[i] (List.getElem_mem hi'); omega, by simp⟩

end Go.Proofs.YtebdfmijlnkcbaaDoor.Msg
