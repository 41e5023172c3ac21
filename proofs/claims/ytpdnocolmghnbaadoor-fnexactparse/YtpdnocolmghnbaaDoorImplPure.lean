import Derived.Test.YtpdnocolmghnbaaDoorImplSegCut
import Derived.Test.YtpdnocolmghnbaaDoorImplSegIn
import Derived.Test.YtpdnocolmghnbaaDoorParsePieces
namespace Go.Proofs.YtpdnocolmghnbaaDoor.Msg
set_option linter.unusedVariables false
set_option linter.unusedSimpArgs false

theorem all_same {α : Type} {p q : α → Bool} : ∀ (xs : List α), (∀ x ∈ xs, p x = q x) → xs.all p = xs.all q
  | [], _ => rfl
  | x :: xs, h => by
    rw [List.all_cons, List.all_cons, h x (by simp), all_same xs (fun y hy => h y (by simp [hy]))]
theorem keepN_last {α : Type} (p : α → Bool) : ∀ (xs : List α) (n : Nat), keepN p xs = n + 1 → ∃ h : n < xs.length, p xs[n] = false
  | [], n, h => by simp [keepN] at h
  | x :: xs, n, h => by
    simp only [keepN] at h
    cases hk : keepN p xs with
    | zero =>
      rw [hk] at h
      by_cases hp : p x = true
      · simp [hp] at h
      · have : n = 0 := by simp [hp] at h; omega
        subst this
        exact ⟨by simp, by simpa using hp⟩
    | succ m =>
      rw [hk] at h
      have : n = m + 1 := by simp at h; omega
      subst this
      obtain ⟨h1, h2⟩ := keepN_last p xs m hk
      exact ⟨by simp; omega, by simpa using h2⟩
theorem endB_trim {α β : Type} (f : List α → β) (g : β → Nat) (hg : ∀ x, x.isEmpty = false → 0 < g (f x)) (xs : List (List α)) : endB g ((trimE List.isEmpty xs).map f) = true := by
  unfold trimE
  cases hk : keepN List.isEmpty xs with
  | zero => rw [List.take_zero]; rfl
  | succ n =>
    obtain ⟨h1, h2⟩ := keepN_last _ xs n hk
    have hl : ((xs.take (n + 1)).map f).length = n + 1 := by rw [List.length_map, List.length_take]; omega
    rw [endB_at _ _ (by rw [hl]; omega)]
    have e : ((xs.take (n + 1)).map f)[((xs.take (n + 1)).map f).length - 1]'(by rw [hl]; omega) = f xs[n] := by
      simp only [hl, Nat.add_sub_cancel, List.getElem_map, List.getElem_take]
    rw [e]
    exact decide_eq_true (hg _ h2)
theorem csB_trim {α β : Type} (lim : Nat) (f : List α → β) (g : β → Nat) (hg : ∀ x, x.isEmpty = false → 0 < g (f x)) (xs : List (List α)) : csB lim g ((trimE List.isEmpty xs).map f) = decide (((trimE List.isEmpty xs).map f).length ≤ lim) := by
  unfold csB
  rw [endB_trim f g hg xs, Bool.and_true]

theorem cutGo_mem (c : UInt8) : ∀ (l cur p : List UInt8), p ∈ cutGo c cur l → ∀ x ∈ p, x ∈ cur ∨ x ∈ l
  | [], cur, p, h, x, hx => by
    simp only [cutGo, List.mem_singleton] at h
    subst h
    exact .inl hx
  | y :: l, cur, p, h, x, hx => by
    unfold cutGo at h
    split at h
    · rw [List.mem_cons] at h
      rcases h with rfl | h
      · exact .inl hx
      · rcases cutGo_mem c l [] p h x hx with h1 | h1
        · cases h1
        · exact .inr (by simp [h1])
    · rcases cutGo_mem c l (cur ++ [y]) p h x hx with h1 | h1
      · rw [List.mem_append, List.mem_singleton] at h1
        rcases h1 with h1 | h1
        · exact .inl h1
        · exact .inr (by simp [h1])
      · exact .inr (by simp [h1])
theorem cutL_mem (c : UInt8) (l p : List UInt8) (h : p ∈ cutL c l) : ∀ x ∈ p, x ∈ l := fun x hx => by
  rcases cutGo_mem c l [] p h x hx with h1 | h1
  · cases h1
  · exact h1

theorem fieldsI_eq (d0 d1 d2 : UInt8) (l : List UInt8) (h : l.head?.any (fun c => c != d0) = false) : fieldsI d0 d1 d2 l = fieldsL d0 d1 d2 l := by
  cases l with
  | nil => rfl
  | cons x l =>
    have hx : x = d0 := by simpa using h
    subst hx
    show trimE List.isEmpty (((cutL x (x :: l)).drop 1).map (repsL d1 d2)) = trimE List.isEmpty ((cutL x l).map (repsL d1 d2))
    have e : cutL x (x :: l) = [] :: cutL x l := by
      unfold cutL
      conv => lhs; unfold cutGo
      rw [if_pos rfl]
    rw [e]
    rfl

/-- inOrder of a segment that was cut, where all of it is plain -/
theorem segI_cut (name : ByteArray) (hn : nameB name = true) (d0 d1 d2 : UInt8) (l : List UInt8) (hl : l.length ≤ 40000) (hp : ∀ x ∈ l, plainC x = true) :
    segI ⟨name, (fieldsI d0 d1 d2 l).map fieldT⟩ = !longB ((fieldsI d0 d1 d2 l).map fieldT) := by
  have hcomp : ∀ p, (∀ x ∈ p, x ∈ l) → p.length ≤ 40000 → ∀ t ∈ compsL d1 p, compI (txt t) = true := fun p h1 h2 t ht => by
    have hm : t ∈ cutL d1 p := trimE_mem ht
    have h3 := cutL_sz d1 p t hm
    unfold compI plainB
    rw [txt_size, decide_eq_true (by omega), Bool.true_and, txt_data, List.all_eq_true]
    intro x hx
    exact hp x (h1 x (cutL_mem d1 p t hm x hx))
  have hrep : ∀ p, (∀ x ∈ p, x ∈ l) → p.length ≤ 40000 → repI (repT (compsL d1 p)) = repLB (repT (compsL d1 p)) := fun p h1 h2 => by
    unfold repI repLB
    have hc : csB 20 ByteArray.size (repT (compsL d1 p)) = decide ((repT (compsL d1 p)).length ≤ 20) := csB_trim 20 txt ByteArray.size (fun x hx => by
      rw [txt_size]
      cases x with
      | nil => cases hx
      | cons y x => simp) (cutL d1 p)
    rw [hc]
    have ha : (repT (compsL d1 p)).all compI = true := by
      rw [List.all_eq_true]
      intro c hc
      unfold repT at hc
      rw [List.mem_map] at hc
      obtain ⟨t, ht, rfl⟩ := hc
      exact hcomp p h1 h2 t ht
    rw [ha, Bool.and_true]
  have hfield : ∀ p, (∀ x ∈ p, x ∈ l) → p.length ≤ 40000 → fieldI (fieldT (repsL d1 d2 p)) = fldLB (fieldT (repsL d1 d2 p)) := fun p h1 h2 => by
    unfold fieldI fldLB
    have hc : csB 30 List.length (fieldT (repsL d1 d2 p)) = decide ((fieldT (repsL d1 d2 p)).length ≤ 30) := csB_trim 30 repT List.length (fun x hx => by
      cases x with
      | nil => cases hx
      | cons y x => simp [repT]) ((cutL d2 p).map (compsL d1))
    rw [hc]
    congr 1
    have ha : ∀ r ∈ fieldT (repsL d1 d2 p), repI r = repLB r := fun r hr => by
      unfold fieldT at hr
      rw [List.mem_map] at hr
      obtain ⟨y, hy, rfl⟩ := hr
      have hy := trimE_mem hy
      rw [List.mem_map] at hy
      obtain ⟨z, hz, rfl⟩ := hy
      exact hrep z (fun x hx => h1 x (cutL_mem d2 p z hz x hx)) (by have := cutL_sz d2 p z hz; omega)
    exact all_same _ ha
  unfold segI longB
  have hc : csB 30 List.length ((fieldsI d0 d1 d2 l).map fieldT) = decide (((fieldsI d0 d1 d2 l).map fieldT).length ≤ 30) := csB_trim 30 fieldT List.length (fun x hx => by
    cases x with
    | nil => cases hx
    | cons y x => simp [fieldT]) (((cutL d0 l).drop 1).map (repsL d1 d2))
  have ha : ∀ f ∈ (fieldsI d0 d1 d2 l).map fieldT, fieldI f = fldLB f := fun f hf => by
    rw [List.mem_map] at hf
    obtain ⟨y, hy, rfl⟩ := hf
    have hy := trimE_mem hy
    rw [List.mem_map] at hy
    obtain ⟨z, hz, rfl⟩ := hy
    have hz := List.mem_of_mem_drop hz
    exact hfield z (fun x hx => cutL_mem d0 l z hz x hx) (by have := cutL_sz d0 l z hz; omega)
  have hb : ((fieldsI d0 d1 d2 l).map fieldT).all fieldI = ((fieldsI d0 d1 d2 l).map fieldT).all fldLB := all_same _ ha
  show (nameB name && (csB 30 List.length ((fieldsI d0 d1 d2 l).map fieldT) && ((fieldsI d0 d1 d2 l).map fieldT).all fieldI)) = _
  rw [hn, hc, hb, Bool.true_and, Bool.not_or, Bool.not_not]
  congr 1
  by_cases h : ((fieldsI d0 d1 d2 l).map fieldT).length ≤ 30
  · rw [decide_eq_true h, decide_eq_false (by omega)]; rfl
  · rw [decide_eq_false h, decide_eq_true (by omega)]; rfl
end Go.Proofs.YtpdnocolmghnbaaDoor.Msg
