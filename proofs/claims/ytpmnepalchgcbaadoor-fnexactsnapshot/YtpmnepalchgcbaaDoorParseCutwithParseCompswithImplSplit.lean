import Derived.Test.YtpmnepalchgcbaaDoorBufPutwithParseDatawithCutPure
import Derived.Test.YtpmnepalchgcbaaDoorMsgTowithMsgTo2withTblSz
import Derived.Test.YtpmnepalchgcbaaDoorTblAtwithMarkTextwithMarkData
import Derived.Lib.Split
import Derived.Lib.SplitLaws
import Derived.Lib.CountLaws
import Derived.Lib.IndexBytes
namespace Go.Proofs.YtpmnepalchgcbaaDoor.Msg
open Go.ChangeShapes Go.WideShapes Go.ChangeAt Go.RowKit
set_option linter.unusedVariables false
set_option linter.unusedSimpArgs false

theorem cut_hit {c : UInt8} {l : List UInt8} {k fr : Nat} (hk : k < l.length) (hf : fr ≤ k) (h : l[k] = c) : cutGo c ((l.take k).drop fr) (l.drop k) = ((l.take k).drop fr) :: cutGo c ((l.take (k + 1)).drop (k + 1)) (l.drop (k + 1)) := by
  rw [List.drop_eq_getElem_cons hk]
  conv => lhs; unfold cutGo
  rw [if_pos h]
  congr 2
  rw [List.drop_eq_nil_of_le (by rw [List.length_take]; omega)]
theorem cut_miss {c : UInt8} {l : List UInt8} {k fr : Nat} (hk : k < l.length) (hf : fr ≤ k) (h : l[k] ≠ c) : cutGo c ((l.take k).drop fr) (l.drop k) = cutGo c ((l.take (k + 1)).drop fr) (l.drop (k + 1)) := by
  rw [List.drop_eq_getElem_cons hk]
  conv => lhs; unfold cutGo
  rw [if_neg h]
  congr 1
  rw [List.take_succ_eq_append_getElem hk, List.drop_append_of_le_length (by rw [List.length_take]; omega)]
theorem cut_end {c : UInt8} {l : List UInt8} {k fr : Nat} (hk : l.length ≤ k) : cutGo c ((l.take k).drop fr) (l.drop k) = [l.drop fr] := by
  rw [List.drop_eq_nil_of_le hk, List.take_of_length_le hk]
  rfl

end Go.Proofs.YtpmnepalchgcbaaDoor.Msg

namespace Go.Proofs.YtpmnepalchgcbaaDoor.Msg
open Go.ChangeShapes Go.WideShapes Go.ChangeAt Go.RowKit
set_option linter.unusedVariables false
set_option linter.unusedSimpArgs false

/-- how long a list is when what is empty at its end is left out -/
def keepN {α : Type} (p : α → Bool) : List α → Nat
  | [] => 0
  | x :: xs => match keepN p xs with
    | 0 => if p x then 0 else 1
    | n + 1 => n + 2
def trimE {α : Type} (p : α → Bool) (xs : List α) : List α := xs.take (keepN p xs)
theorem keepN_le {α : Type} (p : α → Bool) : ∀ xs : List α, keepN p xs ≤ xs.length
  | [] => Nat.le_refl _
  | x :: xs => by
    have := keepN_le p xs
    simp only [keepN, List.length_cons]
    split
    · split <;> omega
    · omega
theorem keepN_is {α : Type} (p : α → Bool) : ∀ (xs : List α) (n : Nat), n ≤ xs.length → (∀ j (h : j < xs.length), n ≤ j → p xs[j] = true) → (∀ h : n - 1 < xs.length, 0 < n → p xs[n - 1] = false) → keepN p xs = n
  | [], n, h1, _, _ => by simp at h1; simp [keepN, h1]
  | x :: xs, n, h1, h2, h3 => by
    simp only [keepN]
    cases n with
    | zero =>
      have e : keepN p xs = 0 := keepN_is p xs 0 (Nat.zero_le _) (fun j hj _ => h2 (j + 1) (by simp; omega) (Nat.zero_le _)) (fun _ h => absurd h (by omega))
      rw [e]
      have := h2 0 (by simp) (Nat.le_refl _)
      simp at this
      simp [this]
    | succ m =>
      have e : keepN p xs = m := keepN_is p xs m (by simp at h1; omega) (fun j hj hm => h2 (j + 1) (by simp; omega) (by omega)) (fun hj hp => by
        have := h3 (by simp at h1 ⊢; omega) (by omega)
        obtain ⟨q, rfl⟩ : ∃ q, m = q + 1 := ⟨m - 1, by omega⟩
        simpa using this)
      rw [e]
      cases m with
      | zero =>
        have := h3 (by simp) (by omega)
        simp at this
        simp [this]
      | succ q => rfl

def compsL (c1 : UInt8) (l : List UInt8) : List (List UInt8) := trimE List.isEmpty (cutL c1 l)

theorem cutGo_len (c : UInt8) : ∀ (l cur : List UInt8), (cutGo c cur l).length ≤ l.length + 1
  | [], cur => by simp [cutGo]
  | x :: xs, cur => by
    unfold cutGo
    split
    · have := cutGo_len c xs []
      simp only [List.length_cons]; omega
    · have := cutGo_len c xs (cur ++ [x])
      simp only [List.length_cons]; omega
theorem cutGo_sz (c : UInt8) : ∀ (l cur : List UInt8), ∀ p ∈ cutGo c cur l, p.length ≤ cur.length + l.length
  | [], cur => by intro p hp; simp [cutGo] at hp; subst hp; simp
  | x :: xs, cur => by
    intro p hp
    unfold cutGo at hp
    split at hp
    · rw [List.mem_cons] at hp
      rcases hp with rfl | hp
      · omega
      · have := cutGo_sz c xs [] p hp; simp only [List.length_cons, List.length_nil] at *; omega
    · have := cutGo_sz c xs (cur ++ [x]) p hp
      simp only [List.length_append, List.length_cons, List.length_nil] at *; omega
theorem cutL_len (c : UInt8) (l : List UInt8) : (cutL c l).length ≤ l.length + 1 := cutGo_len c l []
theorem cutL_sz (c : UInt8) (l : List UInt8) : ∀ p ∈ cutL c l, p.length ≤ l.length := fun p hp => by have := cutGo_sz c l [] p hp; simpa using this

theorem bjoin' {w W c : World} (h2 : Below W.heap.size W c) (h1 : Below w.heap.size w W) : Below w.heap.size w c := h1.trans (h2.mono h1.size)
theorem cutGo_pos (c : UInt8) : ∀ (l cur : List UInt8), 0 < (cutGo c cur l).length
  | [], cur => by simp [cutGo]
  | x :: xs, cur => by
    unfold cutGo
    split
    · simp
    · exact cutGo_pos c xs _
theorem cutL_pos (c : UInt8) (l : List UInt8) : 0 < (cutL c l).length := cutGo_pos c l []

/-- a slice of pieces, written out -/
theorem pieces_form {base : Nat} {w : World} {v : Value} {ps : List (List UInt8)} (h : SBuf base w v (ps.map txt)) (hp : 0 < ps.length) :
    ∃ g cap, v = .slice (some ⟨g, 0, none⟩) ps.length cap ∧ base ≤ g ∧ g < w.heap.size ∧ ps.length ≤ cap ∧ cap ≤ 9223372036854775807 ∧ ∀ i (hi : i < ps.length), w.cell? ⟨g, i, none⟩ = some (.string (txt ps[i])) ∧ w.frozen? ⟨g, i, none⟩ = false := by
  have h' : w.ownsRow base 9 1 v ((ps.map txt).map Value.string).length ((ps.map txt).map Value.string) := by rw [List.length_map]; exact h
  have hlen : ((ps.map txt).map Value.string).length = ps.length := by simp
  rcases own_cells h' with ⟨h0, _⟩ | ⟨g, cap, rfl, hg, hlt, hc⟩
  · simp at h0; subst h0; simp at hp
  · have hcap : ps.length ≤ cap ∧ cap ≤ 9223372036854775807 := by
      obtain ⟨_, ⟨e, _⟩ | ⟨g', cap', cur, e, _, _, hcap, hm, _⟩⟩ := h
      · cases e
      · injection e with e1 e2 e3
        subst e3
        rw [List.length_map] at hcap
        unfold maxLen at hm
        exact ⟨hcap, by omega⟩
    refine ⟨g, cap, by rw [hlen], hg, hlt, hcap.1, hcap.2, fun i hi => ?_⟩
    have := hc i (by rw [hlen]; exact hi)
    rw [List.getElem_map, List.getElem_map] at this
    exact this
/-- its first n -/
theorem pieces_take {base g cap n : Nat} {w : World} {ps : List (List UInt8)} (hg : base ≤ g) (hlt : g < w.heap.size) (hc : ∀ i (hi : i < ps.length), w.cell? ⟨g, i, none⟩ = some (.string (txt ps[i])) ∧ w.frozen? ⟨g, i, none⟩ = false) (hl : ps.length ≤ 1048577) (hz : ∀ p ∈ ps, p.length ≤ 1048576) (hn : n ≤ ps.length) :
    ∃ bs, OStrs w (.slice (some ⟨g, 0, none⟩) n cap) ((ps.take n).map txt) bs ∧ bs.Nodup ∧ ∀ b ∈ bs, base ≤ b := by
  have hln : ((ps.take n).map txt).length = n := by rw [List.length_map, List.length_take]; omega
  refine ⟨[g], ⟨by rw [hln]; omega, .inr ⟨g, 0, cap, List.replicate n [], by rw [hln], hlt, by simp, by rw [hln]; simp, fun i hi h2 => ?_⟩⟩, by simp, by simp [hg]⟩
  have hi' : i < ps.length := by rw [hln] at hi; omega
  rw [List.getElem_map, List.getElem_take]
  exact ⟨by simpa using (hc i hi').1, by simpa using (hc i hi').2, by rw [txt_size]; have := hz ps[i] (List.getElem_mem hi'); omega, by simp⟩

end Go.Proofs.YtpmnepalchgcbaaDoor.Msg

namespace Go.Proofs.YtpmnepalchgcbaaDoor.Msg
set_option linter.unusedVariables false
set_option linter.unusedSimpArgs false

theorem indexByte_parts (c : UInt8) : ∀ l : List UInt8, (Lib.indexByte l c = -1 ∧ ∀ x ∈ l, x ≠ c) ∨ ∃ i : Nat, Lib.indexByte l c = i ∧ i < l.length ∧ l = l.take i ++ c :: l.drop (i + 1) ∧ ∀ x ∈ l.take i, x ≠ c
  | [] => .inl ⟨rfl, fun _ h => by cases h⟩
  | b :: l => by
    by_cases hb : b = c
    · subst hb
      refine .inr ⟨0, ?_, by simp, by simp, fun x h => by simp at h⟩
      unfold Lib.indexByte
      rw [if_pos (by simp)]
      rfl
    · have hb' : (b == c) = false := by rw [beq_eq_false_iff_ne]; exact hb
      rcases indexByte_parts c l with ⟨h1, h2⟩ | ⟨i, h1, h2, h3, h4⟩
      · refine .inl ⟨?_, fun x hx => ?_⟩
        · unfold Lib.indexByte
          rw [hb', h1]; rfl
        · rw [List.mem_cons] at hx
          rcases hx with rfl | hx
          · exact hb
          · exact h2 x hx
      · refine .inr ⟨i + 1, ?_, by simp; omega, ?_, fun x hx => ?_⟩
        · unfold Lib.indexByte
          rw [hb', h1]
          have : ((i : Int) == -1) = false := by rw [beq_eq_false_iff_ne]; omega
          rw [this]
          simp only [Bool.false_eq_true, if_false]
          omega
        · rw [List.take_succ_cons, List.drop_succ_cons, List.cons_append, ← h3]
        · rw [List.take_succ_cons, List.mem_cons] at hx
          rcases hx with rfl | hx
          · exact hb
          · exact h4 x hx

theorem cutGo_hit (c : UInt8) (a b cur : List UInt8) (h : ∀ x ∈ a, x ≠ c) : cutGo c cur (a ++ c :: b) = (cur ++ a) :: cutGo c [] b := by
  rw [cutGo_skip c a (c :: b) cur h]
  conv => lhs; unfold cutGo
  rw [if_pos rfl]
theorem cutL_none (c : UInt8) (l : List UInt8) (h : ∀ x ∈ l, x ≠ c) : cutL c l = [l] := by
  unfold cutL
  have := cutGo_skip c l [] [] h
  rw [List.append_nil] at this
  rw [this]
  simp [cutGo]

theorem splitK_cut (c : UInt8) : ∀ (n : Nat) (l : List UInt8), l.length ≤ n → Lib.splitK [c] 0 (Lib.count l [c]) l = cutL c l
  | n, l, hn => by
    rcases indexByte_parts c l with ⟨h1, h2⟩ | ⟨i, h1, h2, h3, h4⟩
    · rw [Lib.count_miss (by rw [Lib.index_one]; exact h1), cutL_none c l h2]
      rfl
    · match n with
      | 0 => omega
      | n + 1 =>
        have hi : Lib.index l [c] = i := by rw [Lib.index_one]; exact h1
        have ih := splitK_cut c n (l.drop (i + 1)) (by simp; omega)
        rw [Lib.count_hit (by simp) hi, Nat.add_comm 1]
        unfold Lib.splitK
        rw [hi]
        have hm : ((i : Int) == -1) = false := by rw [beq_eq_false_iff_ne]; omega
        rw [hm]
        simp only [Bool.false_eq_true, if_false, Int.toNat_natCast, Nat.add_zero, List.length_cons, List.length_nil, Nat.zero_add]
        rw [ih]
        conv => rhs; rw [h3]
        unfold cutL
        rw [cutGo_hit c _ _ [] h4]
        rfl

theorem splitB_cut (c : UInt8) (s : ByteArray) : Lib.splitB ⟨#[c]⟩ 0 (Lib.countB s ⟨#[c]⟩) s = (cutL c s.data.toList).map txt := by
  have h1 := Lib.splitB_data ⟨#[c]⟩ 0 (Lib.countB s ⟨#[c]⟩) s
  have h2 : Lib.countB s ⟨#[c]⟩ = Lib.count s.data.toList [c] := rfl
  rw [h2] at h1 ⊢
  have h3 : Lib.splitK (⟨#[c]⟩ : ByteArray).data.toList 0 (Lib.count s.data.toList [c]) s.data.toList = cutL c s.data.toList := splitK_cut c _ _ (Nat.le_refl _)
  rw [h3] at h1
  rw [← h1, List.map_map]
  conv => lhs; rw [← List.map_id (Lib.splitB _ _ _ _)]
  apply List.map_congr_left
  intro x _
  exact (txt_of x).symm
theorem countB_cut (c : UInt8) (s : ByteArray) : Lib.countB s ⟨#[c]⟩ + 1 = (cutL c s.data.toList).length := by
  have h := Lib.splitB_all ⟨#[c]⟩ (Nat.le_refl 1) 0 _ s rfl
  rw [splitB_cut, List.length_map] at h
  exact h.symm
end Go.Proofs.YtpmnepalchgcbaaDoor.Msg
