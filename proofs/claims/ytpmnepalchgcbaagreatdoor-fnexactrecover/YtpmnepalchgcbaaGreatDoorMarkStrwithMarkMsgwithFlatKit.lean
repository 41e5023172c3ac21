import Derived.Test.YtpmnepalchgcbaaGreatDoorTblSzwithMarkTextwithMarkData
import Derived.Test.YtpmnepalchgcbaaGreatDoorMsgEqwithMsgEq2withMsgTo
import Derived.Laws.AppendOwn
namespace Go.Proofs.YtpmnepalchgcbaaGreatDoor.Msg
open Go.ChangeShapes Go.WideShapes Go.ChangeAt Go.RowKit
set_option linter.unusedVariables false
set_option linter.unusedSimpArgs false

/-- the row of strings, the first j of them marked -/
def RowM (w : World) (b off k : Nat) (xs : List ByteArray) (j : Nat) : Prop :=
  ∀ i (h : i < xs.length), w.cell? ⟨b, off + i, none⟩ = some (.string (if i < j then markT (k + i) else xs[i])) ∧ w.frozen? ⟨b, off + i, none⟩ = false
theorem RowM.step {w w2 : World} {b off k : Nat} {xs : List ByteArray} {j : Nat} (h : RowM w b off k xs j) (hb : w2.heap[b]? = w.heap[b]?) (hj : j < xs.length) : RowM (w2.setCell ⟨b, off + j, none⟩ (.string (markT (k + j)))) b off k xs (j + 1) := by
  intro i hi
  obtain ⟨h1, h2⟩ := h i hi
  refine ⟨?_, ?_⟩
  · by_cases e : i = j
    · subst e
      rw [if_pos (by omega)]
      obtain ⟨v, hv⟩ : ∃ v, w2.cell? ⟨b, off + i, none⟩ = some v := ⟨_, by rw [cellSame hb]; exact h1⟩
      rw [World.cell?_setCell_same _ _ _ hv]
    · rw [World.cell?_setCell_other _ _ _ _ (by intro h; injection h with _ h2 _; omega), cellSame hb, h1]
      by_cases e2 : i < j
      · rw [if_pos e2, if_pos (by omega)]
      · rw [if_neg e2, if_neg (by omega)]
  · rw [World.frozen?_setCell, frozenSame hb]
    exact h2

theorem Only.setCell {bs : List Nat} {w w1 : World} (h : Only bs w w1) {b o : Nat} (hb : b ∈ bs) (v : Value) : Only bs w (w1.setCell ⟨b, o, none⟩ v) :=
  ⟨h.os, h.tape, h.output, by rw [Deep.nblk_setCell]; exact h.size, fun k h1 h2 => by rw [Deep.blk_setCell_other _ _ _ _ (fun e => h2 (by rw [e]; exact hb))]; exact h.block k h1 h2⟩

theorem flat_nil {bss : List (List Nat)} (h : ∀ i (h : i < bss.length), bss[i] = []) : bss.flatten = [] := by
  rw [List.flatten_eq_nil_iff]
  intro l hl
  obtain ⟨i, hi, rfl⟩ := List.getElem_of_mem hl
  exact h i hi

set_option maxHeartbeats 1000000 in
theorem markStrs_any (xs : List ByteArray) (v : Value) (bs : List Nat) (k : Nat) (w : World) (hk : 1 ≤ k) (hkb : k + cRep xs ≤ 4611686018427387904) (hv : OStrs w v xs bs) :
    Calls Tryz.prog 49 #[v, .int .i64 (k : Int)] w fun e w' => e = .returned (.int .i64 ((k + cRep xs : Nat) : Int)) ∧ Only bs w w' ∧ OStrs w' v (mkRep k xs) bs := by
  have HCL := hide (cRep_len xs)
  rw [HCL.out] at hkb ⊢
  obtain ⟨hl, hv⟩ := hv
  rcases hv with ⟨a0, c0, rfl, rfl, rfl⟩ | ⟨b, off, cap, bss, rfl, hlt, rfl, hlen, hc⟩
  · go_enter Tryz.func49, Tryz.ntmps49
    go_wp2
    go_loop [1, 5] (fun r i => r = .int .i64 (k : Int) ∧ i = .int .i64 0) (fun _ _ => 0)
    case atStart => exact ⟨rfl, rfl⟩
    case round =>
      obtain ⟨rfl, rfl⟩ := hrel
      go_wp2
      go_ret
      exact ⟨ret_int (by simp), Only.refl _ _, ⟨by simp [mkRep, mkL], .inl ⟨_, _, rfl, rfl, rfl⟩⟩⟩
  · have hfl : bss.flatten = [] := flat_nil fun i hi => (hc i (by omega) hi).2.2.2
    have hrow0 : RowM w b off k xs 0 := fun i hi => ⟨by rw [if_neg (by omega)]; simpa using (hc i hi (by omega)).1, by simpa using (hc i hi (by omega)).2.1⟩
    have HE : Hid (∀ i (h : i < bss.length), bss[i] = []) := fun i hi => (hc i (by omega) hi).2.2.2
    clear hc
    go_enter Tryz.func49, Tryz.ntmps49
    go_wp2
    go_loopw [1, 5] (fun r i w1 => ∃ j : Nat, j ≤ xs.length ∧ i = .int .i64 j ∧ r = .int .i64 ((k : Int) + (j : Int)) ∧ RowM w1 b off k xs j ∧ Only (b :: bss.flatten) w w1) (fun _ i _ => xs.length - (intOf i).toNat)
    case atStart => exact ⟨0, Nat.zero_le _, rfl, by simp, hrow0, Only.refl _ _⟩
    case round =>
      obtain ⟨j, hj, rfl, rfl, hrow, ho⟩ := hrel
      by_cases hj2 : j < xs.length
      · have hbl : b < wr.heap.size := Nat.lt_of_lt_of_le hlt ho.size
        obtain ⟨hcell, hfz⟩ := hrow j hj2
        have HR := hide hrow
        have HO := hide ho
        clear hrow ho
        have ecast : ((k : Int) + (j : Int)) = ((k + j : Nat) : Int) := by omega
        have HEC := hide ecast
        clear ecast
        go_wp2_with fail
        rw [HEC.out]
        refine (markText_any (k + j) _ (by omega) (by omega)).mono ?_
        rintro e w2 ⟨rfl, hb2⟩
        have hcell2 : w2.cell? ⟨b, off + j, none⟩ = some (.string (if j < j then markT (k + j) else xs[j])) := by rw [hb2.cell (p := ⟨b, off + j, none⟩) hbl]; exact hcell
        have hfz2 : w2.frozen? ⟨b, off + j, none⟩ = false := by rw [hb2.frozen (p := ⟨b, off + j, none⟩) hbl]; exact hfz
        have HN := hide (HR.out.step (hb2.block b hbl) hj2)
        have HN2 := hide ((HO.out.trans (Only.of_below hb2)).setCell (b := b) (o := off + j) (by simp) (.string (markT (k + j))))
        clear hcell hfz hb2
        rw [← HEC.out]
        go_wp2_with fail
        go_roundw
        case rel => exact ⟨j + 1, by omega, by go_num, by go_num, HN.out, HN2.out⟩
        case measure => simp [intOf]; omega
      · obtain rfl : j = xs.length := by omega
        go_wp2_with fail
        go_ret
        refine ⟨ret_int (by omega), ho, ⟨by unfold mkRep; rw [mkL_len]; exact hl, .inr ⟨b, off, cap, bss, by unfold mkRep; rw [mkL_len], Nat.lt_of_lt_of_le hlt ho.size, rfl, by unfold mkRep; rw [mkL_len]; exact hlen, fun i hi h2 => ?_⟩⟩⟩
        have hi' : i < xs.length := by unfold mkRep at hi; rw [mkL_len] at hi; exact hi
        obtain ⟨h1, h3⟩ := hrow i hi'
        rw [if_pos hi'] at h1
        have e1 : (mkRep k xs)[i] = markT (k + i) := (mkL_get mkStr oneC ⟨#[]⟩ k xs i hi' hi).trans (by rw [one_take xs i (by omega)]; rfl)
        rw [e1]
        exact ⟨by simpa using h1, by simpa using h3, by have := markT_size (k + i) (by omega); omega, HE.out i h2⟩
end Go.Proofs.YtpmnepalchgcbaaGreatDoor.Msg

namespace Go.Proofs.YtpmnepalchgcbaaGreatDoor.Msg
open Go.ChangeShapes Go.WideShapes Go.ChangeAt Go.RowKit
set_option linter.unusedVariables false
set_option linter.unusedSimpArgs false

theorem disj_of {bss : List (List Nat)} (h : bss.flatten.Nodup) {i j : Nat} (hi : i < bss.length) (hj : j < bss.length) (hij : i ≠ j) {c : Nat} (hc : c ∈ bss[i]) : c ∉ bss[j] := by
  intro hd
  rw [List.Nodup, List.pairwise_flatten] at h
  have hp := List.pairwise_iff_getElem.1 h.2
  rcases Nat.lt_or_gt_of_ne hij with hlt | hlt
  · exact hp i j hi hj hlt c hc c hd rfl
  · exact hp j i hj hi hlt c hd c hc rfl

/-- the first j elements of a row of lists are marked -/
def Mix {α : Type} (O : World → Value → α → List Nat → Prop) (mk : Nat → α → α) (c : α → Nat) (k : Nat) (w : World) (b off : Nat) (xs : List α) (bss : List (List Nat)) (j : Nat) : Prop :=
  ∀ i (h : i < xs.length) (h2 : i < bss.length), ∃ v, w.cell? ⟨b, off + i, none⟩ = some v ∧ O w v (if i < j then mk (k + sumOf c (xs.take i)) xs[i] else xs[i]) bss[i]

theorem Mix.step {α : Type} {O : World → Value → α → List Nat → Prop} {mk : Nat → α → α} {c : α → Nat} {k : Nat} {w w2 : World} {b off : Nat} {xs : List α} {bss : List (List Nat)} {j : Nat}
    (hkeep : ∀ w w' v x bs, O w v x bs → w.heap.size ≤ w'.heap.size → (∀ d ∈ bs, w'.heap[d]? = w.heap[d]?) → O w' v x bs) (hlt : ∀ w v x bs, O w v x bs → ∀ d ∈ bs, d < w.heap.size)
    (h : Mix O mk c k w b off xs bss j) (hb : b < w.heap.size) (hn : (b :: bss.flatten).Nodup) (hj : j < xs.length) (hj2 : j < bss.length) {v : Value} (hv : w.cell? ⟨b, off + j, none⟩ = some v)
    (ho : Only bss[j] w w2) (hO : O w2 v (mk (k + sumOf c (xs.take j)) xs[j]) bss[j]) : Mix O mk c k w2 b off xs bss (j + 1) := by
  rw [List.nodup_cons] at hn
  have hbj : b ∉ bss[j] := fun hm => hn.1 (by rw [List.mem_flatten]; exact ⟨_, List.getElem_mem hj2, hm⟩)
  have hrow := ho.block b hb hbj
  intro i hi h2
  by_cases e : i = j
  · subst e
    exact ⟨v, by rw [cellSame hrow]; exact hv, by rw [if_pos (by omega)]; exact hO⟩
  · obtain ⟨vi, g1, g2⟩ := h i hi h2
    refine ⟨vi, by rw [cellSame hrow]; exact g1, ?_⟩
    have g3 := hkeep _ w2 _ _ _ g2 ho.size fun d hd => ho.block d (hlt _ _ _ _ g2 d hd) (disj_of hn.2 h2 hj2 e hd)
    by_cases e2 : i < j
    · rw [if_pos e2] at g3; rw [if_pos (by omega)]; exact g3
    · rw [if_neg e2] at g3; rw [if_neg (by omega)]; exact g3

theorem sub_flat {bss : List (List Nat)} {j : Nat} (hj : j < bss.length) (b : Nat) : ∀ c ∈ bss[j], c ∈ b :: bss.flatten := fun c hc => by
  simp only [List.mem_cons, List.mem_flatten]
  exact .inr ⟨bss[j], List.getElem_mem hj, hc⟩

theorem nodup_at {bss : List (List Nat)} {b j : Nat} (h : (b :: bss.flatten).Nodup) (hj : j < bss.length) : bss[j].Nodup := by
  rw [List.nodup_cons, List.Nodup, List.pairwise_flatten] at h
  exact h.2.1 _ (List.getElem_mem hj)

end Go.Proofs.YtpmnepalchgcbaaGreatDoor.Msg

namespace Go.Proofs.YtpmnepalchgcbaaGreatDoor.Msg
open Go.ChangeShapes Go.WideShapes Go.ChangeAt Go.RowKit
set_option linter.unusedVariables false
set_option linter.unusedSimpArgs false

/-! lists whose elements are plain cells, so many each -/
def flat {α : Type} (C : α → List Value) (xs : List α) : List Value := (xs.map C).flatten
theorem flat_nil' {α : Type} (C : α → List Value) : flat C [] = [] := rfl
theorem flat_snoc {α : Type} (C : α → List Value) (xs : List α) (x : α) : flat C (xs ++ [x]) = flat C xs ++ C x := by simp [flat]
theorem flat_len {α : Type} {C : α → List Value} {c : Nat} (hC : ∀ x, (C x).length = c) : ∀ xs : List α, (flat C xs).length = xs.length * c
  | [] => by simp [flat]
  | x :: xs => by
    have := flat_len hC xs
    simp only [flat, List.map_cons, List.flatten_cons, List.length_append, List.length_cons, hC] at this ⊢
    rw [this, Nat.add_mul]
    omega
theorem flat_get {α : Type} {C : α → List Value} {c : Nat} (hC : ∀ x, (C x).length = c) : ∀ (xs : List α) (i j : Nat) (hi : i < xs.length) (hj : j < c), (flat C xs)[i * c + j]? = some ((C xs[i])[j]'(by rw [hC]; exact hj))
  | x :: xs, 0, j, _, hj => by
    simp only [flat, List.map_cons, List.flatten_cons, Nat.zero_mul, Nat.zero_add, List.getElem_cons_zero]
    rw [List.getElem?_append_left (by rw [hC]; exact hj), List.getElem?_eq_getElem (by rw [hC]; exact hj)]
  | x :: xs, i + 1, j, hi, hj => by
    have := flat_get hC xs i j (by simpa using hi) hj
    simp only [flat, List.map_cons, List.flatten_cons, List.getElem_cons_succ] at this ⊢
    rw [List.getElem?_append_right (by rw [hC, Nat.add_mul]; omega), hC, show (i + 1) * c + j - c = i * c + j by rw [Nat.add_mul]; omega]
    exact this

/-- an element's cells, and what is said of its texts -/
def FR {α : Type} (C : α → List Value) (Z : α → Prop) (_ : Nat) (w : World) (b off : Nat) (x : α) : Prop :=
  (∀ j (h : j < (C x).length), w.cell? ⟨b, off + j, none⟩ = some (C x)[j]) ∧ Z x
theorem kept_flat {α : Type} {C : α → List Value} {Z : α → Prop} : Kept (FR C Z) := fun lo w w' b off x h h1 h2 hb => ⟨fun j hj => by rw [hb.cell h1 h2]; exact h.1 j hj, h.2⟩
theorem mono_flat {α : Type} {C : α → List Value} {Z : α → Prop} : Mono (FR C Z) := fun _ _ _ _ _ _ h _ => h

/-- a row of cells that may be written: n elements of c cells, 'f' says them; bs: its block -/
def RowC (w : World) (v : Value) (n c : Nat) (f : Nat → Value) (bs : List Nat) : Prop :=
  n ≤ 9223372036854775807 ∧ ((∃ a cap, v = .slice a 0 cap ∧ n = 0 ∧ bs = []) ∨
    ∃ b off cap, v = .slice (some ⟨b, off, none⟩) n cap ∧ b < w.heap.size ∧ bs = [b] ∧ ∀ i, i < n * c → w.cell? ⟨b, off + i, none⟩ = some (f i) ∧ w.frozen? ⟨b, off + i, none⟩ = false)
theorem RowC.kept {w w' : World} {v : Value} {n c : Nat} {f : Nat → Value} {bs : List Nat} (h : RowC w v n c f bs) (hs : w.heap.size ≤ w'.heap.size) (hb : ∀ d ∈ bs, w'.heap[d]? = w.heap[d]?) : RowC w' v n c f bs := by
  obtain ⟨h0, h⟩ := h
  refine ⟨h0, ?_⟩
  rcases h with h | ⟨b, off, cap, rfl, hlt, rfl, h⟩
  · exact .inl h
  · exact .inr ⟨b, off, cap, rfl, Nat.lt_of_lt_of_le hlt hs, rfl, fun i hi => ⟨by rw [cellSame (hb b (by simp))]; exact (h i hi).1, by rw [frozenSame (hb b (by simp))]; exact (h i hi).2⟩⟩
theorem RowC.lt {w : World} {v : Value} {n c : Nat} {f : Nat → Value} {bs : List Nat} (h : RowC w v n c f bs) : ∀ d ∈ bs, d < w.heap.size := by
  obtain ⟨_, h⟩ := h
  rcases h with ⟨_, _, _, _, rfl⟩ | ⟨b, off, cap, rfl, hlt, rfl, h⟩
  · intro d hd; simp at hd
  · intro d hd; simp at hd; subst hd; exact hlt
theorem RowC.below {w w' : World} {v : Value} {n c : Nat} {f : Nat → Value} {bs : List Nat} (h : RowC w v n c f bs) (hb : Below w.heap.size w w') : RowC w' v n c f bs :=
  h.kept hb.size fun d hd => hb.block d (h.lt d hd)
theorem RowC.congr {w : World} {v : Value} {n c : Nat} {f g : Nat → Value} {bs : List Nat} (h : RowC w v n c f bs) (hg : ∀ i, i < n * c → f i = g i) : RowC w v n c g bs := by
  obtain ⟨h0, h⟩ := h
  refine ⟨h0, ?_⟩
  rcases h with h | ⟨b, off, cap, rfl, hlt, rfl, h⟩
  · exact .inl h
  · exact .inr ⟨b, off, cap, rfl, hlt, rfl, fun i hi => ⟨by rw [← hg i hi]; exact (h i hi).1, (h i hi).2⟩⟩
theorem RowC.form {w : World} {v : Value} {n c : Nat} {f : Nat → Value} {bs : List Nat} (h : RowC w v n c f bs) : ∃ a cap, v = .slice a n cap := by
  obtain ⟨_, h⟩ := h
  rcases h with ⟨a, cap, rfl, rfl, _⟩ | ⟨b, off, cap, rfl, hlt, rfl, h⟩
  · exact ⟨a, cap, rfl⟩
  · exact ⟨_, _, rfl⟩

/-- a list that may be written, in a block of its own -/
def FO {α : Type} (C : α → List Value) (c : Nat) (w : World) (v : Value) (xs : List α) (bs : List Nat) : Prop := RowC w v xs.length c (fun i => (flat C xs).getD i (.int .i64 0)) bs
theorem FO.at {α : Type} {C : α → List Value} {c : Nat} {Z : α → Prop} (hC : ∀ x, (C x).length = c) {w : World} {v : Value} {xs : List α} {bs : List Nat} (h : FO C c w v xs bs) (hZ : ∀ i (h : i < xs.length), Z xs[i]) {lo : Nat} (hlo : ∀ b ∈ bs, lo ≤ b) :
    At c (FR C Z) lo w v xs := by
  obtain ⟨h0, h⟩ := h
  refine ⟨h0, ?_⟩
  rcases h with ⟨a, cap, rfl, hn, _⟩ | ⟨b, off, cap, rfl, hlt, rfl, h⟩
  · exact .inl ⟨a, cap, rfl, List.length_eq_zero_iff.1 hn⟩
  · refine .inr ⟨b, off, cap, rfl, ⟨hlo b (by simp), hlt⟩, fun i hi => ⟨fun j hj => ?_, hZ i hi⟩⟩
    rw [hC] at hj
    have hij : i * c + j < xs.length * c := by
      have : (i + 1) * c ≤ xs.length * c := Nat.mul_le_mul_right c hi
      rw [Nat.add_mul] at this
      omega
    have := (h (i * c + j) hij).1
    simp only [List.getD_eq_getElem?_getD] at this
    rw [flat_get hC xs i j hi hj] at this
    rw [show off + i * c + j = off + (i * c + j) from Nat.add_assoc _ _ _]
    exact this
/-- a list that was built by appending -/
theorem FO.of_own {α : Type} {C : α → List Value} {c : Nat} (hC : ∀ x, (C x).length = c) {base : Nat} {e : TypeId} {w : World} {v : Value} {xs : List α} (h : w.ownsRow base e c v xs.length (flat C xs)) (hl : xs.length ≤ 9223372036854775807) :
    ∃ bs, FO C c w v xs bs ∧ (∀ b ∈ bs, base ≤ b ∧ v.ownBlock = some b) ∧ bs.Nodup := by
  obtain ⟨hlen, ⟨rfl, h0⟩ | ⟨g, cap, cur, rfl, hg, hs, hcap, hm, hsz, htk⟩⟩ := h
  · exact ⟨[], ⟨hl, .inl ⟨_, _, rfl, h0, rfl⟩⟩, by simp, by simp⟩
  · have hglt : g < w.heap.size := by rw [Array.getElem?_eq_some_iff] at hs; exact hs.1
    refine ⟨[g], ⟨hl, .inr ⟨g, 0, cap, rfl, hglt, rfl, fun i hi => ⟨?_, ?_⟩⟩⟩, by simp [Value.ownBlock, hg], by simp⟩
    · have hu : (flat C xs)[i]? = some ((flat C xs).getD i (.int .i64 0)) := by rw [List.getD_eq_getElem?_getD, List.getElem?_eq_getElem (by omega)]; rfl
      rw [← htk, List.getElem?_take, if_pos hi, htk] at hu
      simp only [World.cell?, hs, Nat.zero_add]
      rw [← Array.getElem?_toList]
      exact hu
    · simp [World.frozen?, hs]

/-! wants, connections, what was sent -/
structure Wn where
  client : Int
  tag : ByteArray
  query : ByteArray
  pointer : ByteArray
structure Cn where
  busy : Bool
  control : ByteArray
  want : Wn
  due : Int
structure St where
  conn : Int
  control : ByteArray
  want : Wn
def wnC (x : Wn) : List Value := [.int .i64 x.client, .string x.tag, .string x.query, .string x.pointer]
def cnC (x : Cn) : List Value := [.bool x.busy, .string x.control, .int .i64 x.want.client, .string x.want.tag, .string x.want.query, .string x.want.pointer, .int .i64 x.due]
def stC (x : St) : List Value := [.int .i64 x.conn, .string x.control, .int .i64 x.want.client, .string x.want.tag, .string x.want.query, .string x.want.pointer]
def wnV (x : Wn) : Value := .agg #[.int .i64 x.client, .string x.tag, .string x.query, .string x.pointer]
def cnV (x : Cn) : Value := .agg #[.bool x.busy, .string x.control, .int .i64 x.want.client, .string x.want.tag, .string x.want.query, .string x.want.pointer, .int .i64 x.due]
def stV (x : St) : Value := .agg #[.int .i64 x.conn, .string x.control, .int .i64 x.want.client, .string x.want.tag, .string x.want.query, .string x.want.pointer]
theorem wnC_len (x : Wn) : (wnC x).length = 4 := rfl
theorem cnC_len (x : Cn) : (cnC x).length = 7 := rfl
theorem stC_len (x : St) : (stC x).length = 6 := rfl
def wn0 : Wn := ⟨0, ⟨#[]⟩, ⟨#[]⟩, ⟨#[]⟩⟩
def cn0 : Cn := ⟨false, ⟨#[]⟩, wn0, 0⟩
def wnZ (x : Wn) : Prop := x.tag.size ≤ 9223372036854775807 ∧ x.query.size ≤ 9223372036854775807 ∧ x.pointer.size ≤ 9223372036854775807
def cnZ (x : Cn) : Prop := x.control.size ≤ 9223372036854775807 ∧ wnZ x.want
def stZ (x : St) : Prop := x.control.size ≤ 9223372036854775807 ∧ wnZ x.want
theorem wn0Z : wnZ wn0 := ⟨by decide, by decide, by decide⟩
theorem cn0Z : cnZ cn0 := ⟨by decide, wn0Z⟩
def WnsAt : Nat → World → Value → List Wn → Prop := At 4 (FR wnC wnZ)
def CnsAt : Nat → World → Value → List Cn → Prop := At 7 (FR cnC cnZ)
def StsAt : Nat → World → Value → List St → Prop := At 6 (FR stC stZ)
/-- a pool, its two lists as they lie -/
structure Pl where
  epoch : Int
  next : Int
  conns : List Cn
  queue : List Wn
def plV (x : Pl) (cv qv : Value) : Value := .agg #[.int .i64 x.epoch, .int .i64 x.next, cv, qv]
end Go.Proofs.YtpmnepalchgcbaaGreatDoor.Msg
