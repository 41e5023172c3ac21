import Derived.Test.YtjpdgcodjnnljaaParseCutwithMsgTo2
import Derived.Test.YtjpdgcodjnnljaaMarkTextwithMarkData
import Derived.Test.YtjpdgcodjnnljaaMsgEq2withMsgTo
namespace Go.Proofs.Ytjpdgcodjnnljaa.Msg
open Go.ChangeShapes Go.WideShapes Go.ChangeAt Go.RowKit
set_option linter.unusedVariables false
set_option linter.unusedSimpArgs false

/-- how long a list is when what is empty at its end is left out -/
def keepN {α : Type} (p : α → Bool) : List α → Nat
  | [] => 0
  | x :: xs => match keepN p xs with
    | 0 => if p x then 0 else 1
    | n + 1 => n + 2
def trimE {α : Type} (p : α → Bool) (xs : List α) : List α := xs.take (keepN p xs)
theorem keepN_le {α : Type} (p : α → Bool) : ∀ xs : List α, keepN p xs ≤ xs.length
  | [] => Nat.le_refl _
  | x :: xs => by
    have := keepN_le p xs
    simp only [keepN, List.length_cons]
    split
    · split <;> omega
    · omega
theorem keepN_is {α : Type} (p : α → Bool) : ∀ (xs : List α) (n : Nat), n ≤ xs.length → (∀ j (h : j < xs.length), n ≤ j → p xs[j] = true) → (∀ h : n - 1 < xs.length, 0 < n → p xs[n - 1] = false) → keepN p xs = n
  | [], n, h1, _, _ => by simp at h1; simp [keepN, h1]
  | x :: xs, n, h1, h2, h3 => by
    simp only [keepN]
    cases n with
    | zero =>
      have e : keepN p xs = 0 := keepN_is p xs 0 (Nat.zero_le _) (fun j hj _ => h2 (j + 1) (by simp; omega) (Nat.zero_le _)) (fun _ h => absurd h (by omega))
      rw [e]
      have := h2 0 (by simp) (Nat.le_refl _)
      simp at this
      simp [this]
    | succ m =>
      have e : keepN p xs = m := keepN_is p xs m (by simp at h1; omega) (fun j hj hm => h2 (j + 1) (by simp; omega) (by omega)) (fun hj hp => by
        have := h3 (by simp at h1 ⊢; omega) (by omega)
        obtain ⟨q, rfl⟩ : ∃ q, m = q + 1 := ⟨m - 1, by omega⟩
        simpa using this)
      rw [e]
      cases m with
      | zero =>
        have := h3 (by simp) (by omega)
        simp at this
        simp [this]
      | succ q => rfl

def compsL (c1 : UInt8) (l : List UInt8) : List (List UInt8) := trimE List.isEmpty (cutL c1 l)

theorem cutGo_len (c : UInt8) : ∀ (l cur : List UInt8), (cutGo c cur l).length ≤ l.length + 1
  | [], cur => by simp [cutGo]
  | x :: xs, cur => by
    unfold cutGo
    split
    · have := cutGo_len c xs []
      simp only [List.length_cons]; omega
    · have := cutGo_len c xs (cur ++ [x])
      simp only [List.length_cons]; omega
theorem cutGo_sz (c : UInt8) : ∀ (l cur : List UInt8), ∀ p ∈ cutGo c cur l, p.length ≤ cur.length + l.length
  | [], cur => by intro p hp; simp [cutGo] at hp; subst hp; simp
  | x :: xs, cur => by
    intro p hp
    unfold cutGo at hp
    split at hp
    · rw [List.mem_cons] at hp
      rcases hp with rfl | hp
      · omega
      · have := cutGo_sz c xs [] p hp; simp only [List.length_cons, List.length_nil] at *; omega
    · have := cutGo_sz c xs (cur ++ [x]) p hp
      simp only [List.length_append, List.length_cons, List.length_nil] at *; omega
theorem cutL_len (c : UInt8) (l : List UInt8) : (cutL c l).length ≤ l.length + 1 := cutGo_len c l []
theorem cutL_sz (c : UInt8) (l : List UInt8) : ∀ p ∈ cutL c l, p.length ≤ l.length := fun p hp => by have := cutGo_sz c l [] p hp; simpa using this

theorem bjoin' {w W c : World} (h2 : Below W.heap.size W c) (h1 : Below w.heap.size w W) : Below w.heap.size w c := h1.trans (h2.mono h1.size)
theorem cutGo_pos (c : UInt8) : ∀ (l cur : List UInt8), 0 < (cutGo c cur l).length
  | [], cur => by simp [cutGo]
  | x :: xs, cur => by
    unfold cutGo
    split
    · simp
    · exact cutGo_pos c xs _
theorem cutL_pos (c : UInt8) (l : List UInt8) : 0 < (cutL c l).length := cutGo_pos c l []

/-- a slice of pieces, written out -/
theorem pieces_form {base : Nat} {w : World} {v : Value} {ps : List (List UInt8)} (h : SBuf base w v (ps.map txt)) (hp : 0 < ps.length) :
    ∃ g cap, v = .slice (some ⟨g, 0, none⟩) ps.length cap ∧ base ≤ g ∧ g < w.heap.size ∧ ps.length ≤ cap ∧ cap ≤ 9223372036854775807 ∧ ∀ i (hi : i < ps.length), w.cell? ⟨g, i, none⟩ = some (.string (txt ps[i])) ∧ w.frozen? ⟨g, i, none⟩ = false := by
  have h' : w.ownsRow base 9 1 v ((ps.map txt).map Value.string).length ((ps.map txt).map Value.string) := by rw [List.length_map]; exact h
  have hlen : ((ps.map txt).map Value.string).length = ps.length := by simp
  rcases own_cells h' with ⟨h0, _⟩ | ⟨g, cap, rfl, hg, hlt, hc⟩
  · simp at h0; subst h0; simp at hp
  · have hcap : ps.length ≤ cap ∧ cap ≤ 9223372036854775807 := by
      obtain ⟨_, ⟨e, _⟩ | ⟨g', cap', cur, e, _, _, hcap, hm, _⟩⟩ := h
      · cases e
      · injection e with e1 e2 e3
        subst e3
        rw [List.length_map] at hcap
        unfold maxLen at hm
        exact ⟨hcap, by omega⟩
    refine ⟨g, cap, by rw [hlen], hg, hlt, hcap.1, hcap.2, fun i hi => ?_⟩
    have := hc i (by rw [hlen]; exact hi)
    rw [List.getElem_map, List.getElem_map] at this
    exact this
/-- its first n -/
theorem pieces_take {base g cap n : Nat} {w : World} {ps : List (List UInt8)} (hg : base ≤ g) (hlt : g < w.heap.size) (hc : ∀ i (hi : i < ps.length), w.cell? ⟨g, i, none⟩ = some (.string (txt ps[i])) ∧ w.frozen? ⟨g, i, none⟩ = false) (hl : ps.length ≤ 1048577) (hz : ∀ p ∈ ps, p.length ≤ 1048576) (hn : n ≤ ps.length) :
    ∃ bs, OStrs w (.slice (some ⟨g, 0, none⟩) n cap) ((ps.take n).map txt) bs ∧ bs.Nodup ∧ ∀ b ∈ bs, base ≤ b := by
  have hln : ((ps.take n).map txt).length = n := by rw [List.length_map, List.length_take]; omega
  refine ⟨[g], ⟨by rw [hln]; omega, .inr ⟨g, 0, cap, List.replicate n [], by rw [hln], hlt, by simp, by rw [hln]; simp, fun i hi h2 => ?_⟩⟩, by simp, by simp [hg]⟩
  have hi' : i < ps.length := by rw [hln] at hi; omega
  rw [List.getElem_map, List.getElem_take]
  exact ⟨by simpa using (hc i hi').1, by simpa using (hc i hi').2, by rw [txt_size]; have := hz ps[i] (List.getElem_mem hi'); omega, by simp⟩

end Go.Proofs.Ytjpdgcodjnnljaa.Msg

namespace Go.Proofs.Ytjpdgcodjnnljaa.Msg
open Go.ChangeShapes Go.WideShapes Go.ChangeAt Go.RowKit
set_option linter.unusedVariables false
set_option linter.unusedSimpArgs false

/-- the row of strings, the first j of them marked -/
def RowM (w : World) (b off k : Nat) (xs : List ByteArray) (j : Nat) : Prop :=
  ∀ i (h : i < xs.length), w.cell? ⟨b, off + i, none⟩ = some (.string (if i < j then markT (k + i) else xs[i])) ∧ w.frozen? ⟨b, off + i, none⟩ = false
theorem RowM.step {w w2 : World} {b off k : Nat} {xs : List ByteArray} {j : Nat} (h : RowM w b off k xs j) (hb : w2.heap[b]? = w.heap[b]?) (hj : j < xs.length) : RowM (w2.setCell ⟨b, off + j, none⟩ (.string (markT (k + j)))) b off k xs (j + 1) := by
  intro i hi
  obtain ⟨h1, h2⟩ := h i hi
  refine ⟨?_, ?_⟩
  · by_cases e : i = j
    · subst e
      rw [if_pos (by omega)]
      obtain ⟨v, hv⟩ : ∃ v, w2.cell? ⟨b, off + i, none⟩ = some v := ⟨_, by rw [cellSame hb]; exact h1⟩
      rw [World.cell?_setCell_same _ _ _ hv]
    · rw [World.cell?_setCell_other _ _ _ _ (by intro h; injection h with _ h2 _; omega), cellSame hb, h1]
      by_cases e2 : i < j
      · rw [if_pos e2, if_pos (by omega)]
      · rw [if_neg e2, if_neg (by omega)]
  · rw [World.frozen?_setCell, frozenSame hb]
    exact h2

theorem Only.setCell {bs : List Nat} {w w1 : World} (h : Only bs w w1) {b o : Nat} (hb : b ∈ bs) (v : Value) : Only bs w (w1.setCell ⟨b, o, none⟩ v) :=
  ⟨h.os, h.tape, h.output, by rw [Deep.nblk_setCell]; exact h.size, fun k h1 h2 => by rw [Deep.blk_setCell_other _ _ _ _ (fun e => h2 (by rw [e]; exact hb))]; exact h.block k h1 h2⟩

theorem flat_nil {bss : List (List Nat)} (h : ∀ i (h : i < bss.length), bss[i] = []) : bss.flatten = [] := by
  rw [List.flatten_eq_nil_iff]
  intro l hl
  obtain ⟨i, hi, rfl⟩ := List.getElem_of_mem hl
  exact h i hi

set_option maxHeartbeats 1000000 in
theorem markStrs_any (xs : List ByteArray) (v : Value) (bs : List Nat) (k : Nat) (w : World) (hk : 1 ≤ k) (hkb : k + cRep xs ≤ 4611686018427387904) (hv : OStrs w v xs bs) :
    Calls Try.prog 44 #[v, .int .i64 (k : Int)] w fun e w' => e = .returned (.int .i64 ((k + cRep xs : Nat) : Int)) ∧ Only bs w w' ∧ OStrs w' v (mkRep k xs) bs := by
  have HCL := hide (cRep_len xs)
  rw [HCL.out] at hkb ⊢
  obtain ⟨hl, hv⟩ := hv
  rcases hv with ⟨a0, c0, rfl, rfl, rfl⟩ | ⟨b, off, cap, bss, rfl, hlt, rfl, hlen, hc⟩
  · go_enter Try.func44, Try.ntmps44
    go_wp2
    go_loop [1, 5] (fun r i => r = .int .i64 (k : Int) ∧ i = .int .i64 0) (fun _ _ => 0)
    case atStart => exact ⟨rfl, rfl⟩
    case round =>
      obtain ⟨rfl, rfl⟩ := hrel
      go_wp2
      go_ret
      exact ⟨ret_int (by simp), Only.refl _ _, ⟨by simp [mkRep, mkL], .inl ⟨_, _, rfl, rfl, rfl⟩⟩⟩
  · have hfl : bss.flatten = [] := flat_nil fun i hi => (hc i (by omega) hi).2.2.2
    have hrow0 : RowM w b off k xs 0 := fun i hi => ⟨by rw [if_neg (by omega)]; simpa using (hc i hi (by omega)).1, by simpa using (hc i hi (by omega)).2.1⟩
    have HE : Hid (∀ i (h : i < bss.length), bss[i] = []) := fun i hi => (hc i (by omega) hi).2.2.2
    clear hc
    go_enter Try.func44, Try.ntmps44
    go_wp2
    go_loopw [1, 5] (fun r i w1 => ∃ j : Nat, j ≤ xs.length ∧ i = .int .i64 j ∧ r = .int .i64 ((k : Int) + (j : Int)) ∧ RowM w1 b off k xs j ∧ Only (b :: bss.flatten) w w1) (fun _ i _ => xs.length - (intOf i).toNat)
    case atStart => exact ⟨0, Nat.zero_le _, rfl, by simp, hrow0, Only.refl _ _⟩
    case round =>
      obtain ⟨j, hj, rfl, rfl, hrow, ho⟩ := hrel
      by_cases hj2 : j < xs.length
      · have hbl : b < wr.heap.size := Nat.lt_of_lt_of_le hlt ho.size
        obtain ⟨hcell, hfz⟩ := hrow j hj2
        have HR := hide hrow
        have HO := hide ho
        clear hrow ho
        have ecast : ((k : Int) + (j : Int)) = ((k + j : Nat) : Int) := by omega
        have HEC := hide ecast
        clear ecast
        go_wp2_with fail
        rw [HEC.out]
        refine (markText_any (k + j) _ (by omega) (by omega)).mono ?_
        rintro e w2 ⟨rfl, hb2⟩
        have hcell2 : w2.cell? ⟨b, off + j, none⟩ = some (.string (if j < j then markT (k + j) else xs[j])) := by rw [hb2.cell (p := ⟨b, off + j, none⟩) hbl]; exact hcell
        have hfz2 : w2.frozen? ⟨b, off + j, none⟩ = false := by rw [hb2.frozen (p := ⟨b, off + j, none⟩) hbl]; exact hfz
        have HN := hide (HR.out.step (hb2.block b hbl) hj2)
        have HN2 := hide ((HO.out.trans (Only.of_below hb2)).setCell (b := b) (o := off + j) (by simp) (.string (markT (k + j))))
        clear hcell hfz hb2
        rw [← HEC.out]
        go_wp2_with fail
        go_roundw
        case rel => exact ⟨j + 1, by omega, by go_num, by go_num, HN.out, HN2.out⟩
        case measure => simp [intOf]; omega
      · obtain rfl : j = xs.length := by omega
        go_wp2_with fail
        go_ret
        refine ⟨ret_int (by omega), ho, ⟨by unfold mkRep; rw [mkL_len]; exact hl, .inr ⟨b, off, cap, bss, by unfold mkRep; rw [mkL_len], Nat.lt_of_lt_of_le hlt ho.size, rfl, by unfold mkRep; rw [mkL_len]; exact hlen, fun i hi h2 => ?_⟩⟩⟩
        have hi' : i < xs.length := by unfold mkRep at hi; rw [mkL_len] at hi; exact hi
        obtain ⟨h1, h3⟩ := hrow i hi'
        rw [if_pos hi'] at h1
        have e1 : (mkRep k xs)[i] = markT (k + i) := (mkL_get mkStr oneC ⟨#[]⟩ k xs i hi' hi).trans (by rw [one_take xs i (by omega)]; rfl)
        rw [e1]
        exact ⟨by simpa using h1, by simpa using h3, by have := markT_size (k + i) (by omega); omega, HE.out i h2⟩
end Go.Proofs.Ytjpdgcodjnnljaa.Msg
