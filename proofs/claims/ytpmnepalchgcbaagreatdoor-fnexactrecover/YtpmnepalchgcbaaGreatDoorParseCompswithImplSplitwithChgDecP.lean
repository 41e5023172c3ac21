import Derived.Test.YtpmnepalchgcbaaGreatDoorParseDatawithCutPurewithParseCut
import Derived.Test.YtpmnepalchgcbaaGreatDoorMsgTo2withChgLawwithMsgSz3
import Derived.Test.YtpmnepalchgcbaaGreatDoorTblSzwithMarkTextwithMarkData
import Derived.Lib.Split
import Derived.Lib.SplitLaws
import Derived.Lib.CountLaws
import Derived.Lib.IndexBytes
import Derived.Test.YtpmnepalchgcbaaGreatDoorRowsImplwithQryNumwithChgPure
namespace Go.Proofs.YtpmnepalchgcbaaGreatDoor.Msg
open Go.ChangeShapes Go.WideShapes Go.ChangeAt Go.RowKit
set_option linter.unusedVariables false
set_option linter.unusedSimpArgs false

/-- how long a list is when what is empty at its end is left out -/
def keepN {α : Type} (p : α → Bool) : List α → Nat
  | [] => 0
  | x :: xs => match keepN p xs with
    | 0 => if p x then 0 else 1
    | n + 1 => n + 2
def trimE {α : Type} (p : α → Bool) (xs : List α) : List α := xs.take (keepN p xs)
theorem keepN_le {α : Type} (p : α → Bool) : ∀ xs : List α, keepN p xs ≤ xs.length
  | [] => Nat.le_refl _
  | x :: xs => by
    have := keepN_le p xs
    simp only [keepN, List.length_cons]
    split
    · split <;> omega
    · omega
theorem keepN_is {α : Type} (p : α → Bool) : ∀ (xs : List α) (n : Nat), n ≤ xs.length → (∀ j (h : j < xs.length), n ≤ j → p xs[j] = true) → (∀ h : n - 1 < xs.length, 0 < n → p xs[n - 1] = false) → keepN p xs = n
  | [], n, h1, _, _ => by simp at h1; simp [keepN, h1]
  | x :: xs, n, h1, h2, h3 => by
    simp only [keepN]
    cases n with
    | zero =>
      have e : keepN p xs = 0 := keepN_is p xs 0 (Nat.zero_le _) (fun j hj _ => h2 (j + 1) (by simp; omega) (Nat.zero_le _)) (fun _ h => absurd h (by omega))
      rw [e]
      have := h2 0 (by simp) (Nat.le_refl _)
      simp at this
      simp [this]
    | succ m =>
      have e : keepN p xs = m := keepN_is p xs m (by simp at h1; omega) (fun j hj hm => h2 (j + 1) (by simp; omega) (by omega)) (fun hj hp => by
        have := h3 (by simp at h1 ⊢; omega) (by omega)
        obtain ⟨q, rfl⟩ : ∃ q, m = q + 1 := ⟨m - 1, by omega⟩
        simpa using this)
      rw [e]
      cases m with
      | zero =>
        have := h3 (by simp) (by omega)
        simp at this
        simp [this]
      | succ q => rfl

def compsL (c1 : UInt8) (l : List UInt8) : List (List UInt8) := trimE List.isEmpty (cutL c1 l)

theorem cutGo_len (c : UInt8) : ∀ (l cur : List UInt8), (cutGo c cur l).length ≤ l.length + 1
  | [], cur => by simp [cutGo]
  | x :: xs, cur => by
    unfold cutGo
    split
    · have := cutGo_len c xs []
      simp only [List.length_cons]; omega
    · have := cutGo_len c xs (cur ++ [x])
      simp only [List.length_cons]; omega
theorem cutGo_sz (c : UInt8) : ∀ (l cur : List UInt8), ∀ p ∈ cutGo c cur l, p.length ≤ cur.length + l.length
  | [], cur => by intro p hp; simp [cutGo] at hp; subst hp; simp
  | x :: xs, cur => by
    intro p hp
    unfold cutGo at hp
    split at hp
    · rw [List.mem_cons] at hp
      rcases hp with rfl | hp
      · omega
      · have := cutGo_sz c xs [] p hp; simp only [List.length_cons, List.length_nil] at *; omega
    · have := cutGo_sz c xs (cur ++ [x]) p hp
      simp only [List.length_append, List.length_cons, List.length_nil] at *; omega
theorem cutL_len (c : UInt8) (l : List UInt8) : (cutL c l).length ≤ l.length + 1 := cutGo_len c l []
theorem cutL_sz (c : UInt8) (l : List UInt8) : ∀ p ∈ cutL c l, p.length ≤ l.length := fun p hp => by have := cutGo_sz c l [] p hp; simpa using this

theorem bjoin' {w W c : World} (h2 : Below W.heap.size W c) (h1 : Below w.heap.size w W) : Below w.heap.size w c := h1.trans (h2.mono h1.size)
theorem cutGo_pos (c : UInt8) : ∀ (l cur : List UInt8), 0 < (cutGo c cur l).length
  | [], cur => by simp [cutGo]
  | x :: xs, cur => by
    unfold cutGo
    split
    · simp
    · exact cutGo_pos c xs _
theorem cutL_pos (c : UInt8) (l : List UInt8) : 0 < (cutL c l).length := cutGo_pos c l []

/-- a slice of pieces, written out -/
theorem pieces_form {base : Nat} {w : World} {v : Value} {ps : List (List UInt8)} (h : SBuf base w v (ps.map txt)) (hp : 0 < ps.length) :
    ∃ g cap, v = .slice (some ⟨g, 0, none⟩) ps.length cap ∧ base ≤ g ∧ g < w.heap.size ∧ ps.length ≤ cap ∧ cap ≤ 9223372036854775807 ∧ ∀ i (hi : i < ps.length), w.cell? ⟨g, i, none⟩ = some (.string (txt ps[i])) ∧ w.frozen? ⟨g, i, none⟩ = false := by
  have h' : w.ownsRow base 9 1 v ((ps.map txt).map Value.string).length ((ps.map txt).map Value.string) := by rw [List.length_map]; exact h
  have hlen : ((ps.map txt).map Value.string).length = ps.length := by simp
  rcases own_cells h' with ⟨h0, _⟩ | ⟨g, cap, rfl, hg, hlt, hc⟩
  · simp at h0; subst h0; simp at hp
  · have hcap : ps.length ≤ cap ∧ cap ≤ 9223372036854775807 := by
      obtain ⟨_, ⟨e, _⟩ | ⟨g', cap', cur, e, _, _, hcap, hm, _⟩⟩ := h
      · cases e
      · injection e with e1 e2 e3
        subst e3
        rw [List.length_map] at hcap
        unfold maxLen at hm
        exact ⟨hcap, by omega⟩
    refine ⟨g, cap, by rw [hlen], hg, hlt, hcap.1, hcap.2, fun i hi => ?_⟩
    have := hc i (by rw [hlen]; exact hi)
    rw [List.getElem_map, List.getElem_map] at this
    exact this
/-- its first n -/
theorem pieces_take {base g cap n : Nat} {w : World} {ps : List (List UInt8)} (hg : base ≤ g) (hlt : g < w.heap.size) (hc : ∀ i (hi : i < ps.length), w.cell? ⟨g, i, none⟩ = some (.string (txt ps[i])) ∧ w.frozen? ⟨g, i, none⟩ = false) (hl : ps.length ≤ 1048577) (hz : ∀ p ∈ ps, p.length ≤ 1048576) (hn : n ≤ ps.length) :
    ∃ bs, OStrs w (.slice (some ⟨g, 0, none⟩) n cap) ((ps.take n).map txt) bs ∧ bs.Nodup ∧ ∀ b ∈ bs, base ≤ b := by
  have hln : ((ps.take n).map txt).length = n := by rw [List.length_map, List.length_take]; omega
  refine ⟨[g], ⟨by rw [hln]; omega, .inr ⟨g, 0, cap, List.replicate n [], by rw [hln], hlt, by simp, by rw [hln]; simp, fun i hi h2 => ?_⟩⟩, by simp, by simp [hg]⟩
  have hi' : i < ps.length := by rw [hln] at hi; omega
  rw [List.getElem_map, List.getElem_take]
  exact ⟨by simpa using (hc i hi').1, by simpa using (hc i hi').2, by rw [txt_size]; have := hz ps[i] (List.getElem_mem hi'); omega, by simp⟩

end Go.Proofs.YtpmnepalchgcbaaGreatDoor.Msg

namespace Go.Proofs.YtpmnepalchgcbaaGreatDoor.Msg
set_option linter.unusedVariables false
set_option linter.unusedSimpArgs false

theorem indexByte_parts (c : UInt8) : ∀ l : List UInt8, (Lib.indexByte l c = -1 ∧ ∀ x ∈ l, x ≠ c) ∨ ∃ i : Nat, Lib.indexByte l c = i ∧ i < l.length ∧ l = l.take i ++ c :: l.drop (i + 1) ∧ ∀ x ∈ l.take i, x ≠ c
  | [] => .inl ⟨rfl, fun _ h => by cases h⟩
  | b :: l => by
    by_cases hb : b = c
    · subst hb
      refine .inr ⟨0, ?_, by simp, by simp, fun x h => by simp at h⟩
      unfold Lib.indexByte
      rw [if_pos (by simp)]
      rfl
    · have hb' : (b == c) = false := by rw [beq_eq_false_iff_ne]; exact hb
      rcases indexByte_parts c l with ⟨h1, h2⟩ | ⟨i, h1, h2, h3, h4⟩
      · refine .inl ⟨?_, fun x hx => ?_⟩
        · unfold Lib.indexByte
          rw [hb', h1]; rfl
        · rw [List.mem_cons] at hx
          rcases hx with rfl | hx
          · exact hb
          · exact h2 x hx
      · refine .inr ⟨i + 1, ?_, by simp; omega, ?_, fun x hx => ?_⟩
        · unfold Lib.indexByte
          rw [hb', h1]
          have : ((i : Int) == -1) = false := by rw [beq_eq_false_iff_ne]; omega
          rw [this]
          simp only [Bool.false_eq_true, if_false]
          omega
        · rw [List.take_succ_cons, List.drop_succ_cons, List.cons_append, ← h3]
        · rw [List.take_succ_cons, List.mem_cons] at hx
          rcases hx with rfl | hx
          · exact hb
          · exact h4 x hx

theorem cutGo_hit (c : UInt8) (a b cur : List UInt8) (h : ∀ x ∈ a, x ≠ c) : cutGo c cur (a ++ c :: b) = (cur ++ a) :: cutGo c [] b := by
  rw [cutGo_skip c a (c :: b) cur h]
  conv => lhs; unfold cutGo
  rw [if_pos rfl]
theorem cutL_none (c : UInt8) (l : List UInt8) (h : ∀ x ∈ l, x ≠ c) : cutL c l = [l] := by
  unfold cutL
  have := cutGo_skip c l [] [] h
  rw [List.append_nil] at this
  rw [this]
  simp [cutGo]

theorem splitK_cut (c : UInt8) : ∀ (n : Nat) (l : List UInt8), l.length ≤ n → Lib.splitK [c] 0 (Lib.count l [c]) l = cutL c l
  | n, l, hn => by
    rcases indexByte_parts c l with ⟨h1, h2⟩ | ⟨i, h1, h2, h3, h4⟩
    · rw [Lib.count_miss (by rw [Lib.index_one]; exact h1), cutL_none c l h2]
      rfl
    · match n with
      | 0 => omega
      | n + 1 =>
        have hi : Lib.index l [c] = i := by rw [Lib.index_one]; exact h1
        have ih := splitK_cut c n (l.drop (i + 1)) (by simp; omega)
        rw [Lib.count_hit (by simp) hi, Nat.add_comm 1]
        unfold Lib.splitK
        rw [hi]
        have hm : ((i : Int) == -1) = false := by rw [beq_eq_false_iff_ne]; omega
        rw [hm]
        simp only [Bool.false_eq_true, if_false, Int.toNat_natCast, Nat.add_zero, List.length_cons, List.length_nil, Nat.zero_add]
        rw [ih]
        conv => rhs; rw [h3]
        unfold cutL
        rw [cutGo_hit c _ _ [] h4]
        rfl

theorem splitB_cut (c : UInt8) (s : ByteArray) : Lib.splitB ⟨#[c]⟩ 0 (Lib.countB s ⟨#[c]⟩) s = (cutL c s.data.toList).map txt := by
  have h1 := Lib.splitB_data ⟨#[c]⟩ 0 (Lib.countB s ⟨#[c]⟩) s
  have h2 : Lib.countB s ⟨#[c]⟩ = Lib.count s.data.toList [c] := rfl
  rw [h2] at h1 ⊢
  have h3 : Lib.splitK (⟨#[c]⟩ : ByteArray).data.toList 0 (Lib.count s.data.toList [c]) s.data.toList = cutL c s.data.toList := splitK_cut c _ _ (Nat.le_refl _)
  rw [h3] at h1
  rw [← h1, List.map_map]
  conv => lhs; rw [← List.map_id (Lib.splitB _ _ _ _)]
  apply List.map_congr_left
  intro x _
  exact (txt_of x).symm
theorem countB_cut (c : UInt8) (s : ByteArray) : Lib.countB s ⟨#[c]⟩ + 1 = (cutL c s.data.toList).length := by
  have h := Lib.splitB_all ⟨#[c]⟩ (Nat.le_refl 1) 0 _ s rfl
  rw [splitB_cut, List.length_map] at h
  exact h.symm
end Go.Proofs.YtpmnepalchgcbaaGreatDoor.Msg

namespace Go.Proofs.YtpmnepalchgcbaaGreatDoor.Msg
open Go.ChangeShapes Go.WideShapes Go.ChangeAt Go.RowKit
set_option linter.unusedVariables false
set_option linter.unusedSimpArgs false

/-! changes read from texts -/
def atL (ps : List (List UInt8)) (k : Nat) : List UInt8 := ps.getD k []
/-- what the program takes the parts for -/
def looseI (ps : List (List UInt8)) : Chg :=
  { kind := numI (atL ps 0), client := numI (atL ps 1), tag := txt (atL ps 2)
    query := if numI (atL ps 0) = 1 then txt (atL ps 3) else ⟨#[]⟩
    page := if numI (atL ps 0) = 1 then numI (atL ps 4) else 0
    rows := if numI (atL ps 0) = 2 then (ps.drop 3).map txt else []
    n := if numI (atL ps 0) = 4 then numI (atL ps 3) else 0 }
/-- what the specification takes the parts for -/
def looseS (ps : List (List UInt8)) : Chg :=
  { kind := numS (atL ps 0), client := numS (atL ps 1), tag := txt (atL ps 2)
    query := if numS (atL ps 0) = 1 ∧ ps.length = 5 then txt (atL ps 3) else ⟨#[]⟩
    page := if numS (atL ps 0) = 1 ∧ ps.length = 5 then numS (atL ps 4) else 0
    rows := if numS (atL ps 0) = 2 then (ps.drop 3).map txt else []
    n := if numS (atL ps 0) = 4 ∧ ps.length = 4 then numS (atL ps 3) else 0 }
def decI (s : ByteArray) : Option Chg :=
  if s.size = 0 ∨ 60000 < s.size then none else if encB (looseI (cutL 10 s.data.toList)) = s then some (looseI (cutL 10 s.data.toList)) else none
def decS (s : ByteArray) : Option Chg :=
  if (cutL 10 s.data.toList).length < 3 then none else if encB (looseS (cutL 10 s.data.toList)) = s then some (looseS (cutL 10 s.data.toList)) else none

theorem cut_join : ∀ (ps : List (List UInt8)) (p : List UInt8), (∀ q ∈ p :: ps, ∀ x ∈ q, x ≠ 10) → cutL 10 (Lib.join (p :: ps) [10]) = p :: ps
  | [], p, h => by
    rw [Lib.join_one]
    exact cutL_none 10 p (h p (by simp))
  | q :: r, p, h => by
    have ih := cut_join r q fun a ha => h a (List.mem_cons_of_mem _ ha)
    rw [Lib.join_cons] at ih ⊢
    have e : Lib.joinTail [10] (q :: r) = 10 :: (q ++ Lib.joinTail [10] r) := by simp [Lib.joinTail]
    rw [e]
    unfold cutL at ih ⊢
    rw [cutGo_hit 10 p _ [] (h p (by simp)), ih]
    rfl
theorem plain_no10 {s : ByteArray} (h : plainB s = true) : ∀ x ∈ s.data.toList, x ≠ 10 := by
  intro x hx e
  unfold plainB at h
  have := List.all_eq_true.1 h x hx
  rw [e] at this
  exact absurd this (by decide)
theorem dec_no10 (u : Nat) : ∀ x ∈ Lib.decDigits u, x ≠ 10 := by
  intro x hx e
  have := List.all_eq_true.1 (dec_spells u).2.1 x hx
  rw [e] at this
  exact absurd this (by decide)
theorem bound_plain {lo hi : Nat} {s : ByteArray} (h : boundB lo hi s = true) : plainB s = true := by
  unfold boundB at h
  simp only [Bool.and_eq_true] at h
  exact h.2.2
theorem parts_no10 {c : Chg} (h : chgB c = true) : ∀ q ∈ chgParts c, ∀ x ∈ q, x ≠ 10 := by
  intro q hq
  have ht := bound_plain (chgB_tag h)
  unfold chgParts at hq
  simp only [List.mem_cons] at hq
  rcases hq with rfl | rfl | rfl | hq
  · exact dec_no10 _
  · exact dec_no10 _
  · exact plain_no10 ht
  · unfold chgB at h
    rw [Bool.and_eq_true] at h
    have h := h.2
    unfold kindB at h
    unfold chgMore at hq
    split at hq
    · rw [if_pos (by assumption)] at h
      simp only [Bool.and_eq_true] at h
      simp only [List.mem_cons, List.not_mem_nil, or_false] at hq
      rcases hq with rfl | rfl
      · exact plain_no10 (bound_plain h.1.1)
      · exact dec_no10 _
    rename_i n1
    split at hq
    · rw [if_neg n1, if_pos (by assumption)] at h
      simp only [Bool.and_eq_true, rowsB] at h
      obtain ⟨r, hr, rfl⟩ := List.mem_map.1 hq
      exact plain_no10 (bound_plain (List.all_eq_true.1 h.1.2 r hr))
    rename_i n2
    split at hq
    · simp only [List.mem_cons, List.not_mem_nil, or_false] at hq
      subst hq
      exact dec_no10 _
    · cases hq
theorem cut_enc {c : Chg} (h : chgB c = true) : cutL 10 (encL c) = chgParts c := cut_join _ _ (parts_no10 h)
theorem toNat_cast {a : Int} (h : 0 ≤ a) : ((a.toNat : Nat) : Int) = a := Int.toNat_of_nonneg h
theorem nil_of_size {s : ByteArray} (h : s.size = 0) : s = ⟨#[]⟩ := by
  apply ByteArray.ext
  exact Array.eq_empty_of_size_eq_zero h
theorem map_txt (l : List ByteArray) : (l.map (·.data.toList)).map txt = l := by
  rw [List.map_map]
  conv => rhs; rw [← List.map_id l]
  exact List.map_congr_left fun x _ => txt_of x
theorem looseI_parts {c : Chg} (h : chgB c = true) : looseI (chgParts c) = c := by
  have hk := chgB_kind h
  have hcl := chgB_client h
  have h0 : numI (atL (chgParts c) 0) = c.kind := (numI_dec c.kind.toNat (by omega)).trans (toNat_cast (by omega))
  have h1 : numI (atL (chgParts c) 1) = c.client := (numI_dec c.client.toNat (by omega)).trans (toNat_cast (by omega))
  have h2 : txt (atL (chgParts c) 2) = c.tag := txt_of _
  unfold looseI
  rw [h0, h1, h2]
  obtain ⟨kind, client, tag, query, page, rows, n⟩ := c
  simp only at hk hcl ⊢
  rcases chgB_cases h with ⟨a1, a2, a3, a4, a5, a6⟩ | ⟨a1, a2, a3, a4, a5, a6⟩ | ⟨a1, a2, a3, a4, a5, a6⟩ | ⟨a1, a2, a3, a4, a5⟩
  · simp only at a1 a2 a3 a4 a5 a6
    subst a1 a5 a6
    have e3 : txt (atL (chgParts ⟨1, client, tag, query, page, [], 0⟩) 3) = query := txt_of _
    have e4 : numI (atL (chgParts ⟨1, client, tag, query, page, [], 0⟩) 4) = page := (numI_dec page.toNat (by omega)).trans (toNat_cast (by omega))
    simp [e3, e4]
  · simp only at a1 a2 a3 a4 a5 a6
    obtain rfl := nil_of_size a2
    subst a1 a3 a6
    have e3 : ((chgParts ⟨2, client, tag, ⟨#[]⟩, 0, rows, 0⟩).drop 3).map txt = rows := map_txt rows
    simp [e3]
  · simp only at a1 a2 a3 a4 a5 a6
    obtain rfl := nil_of_size a2
    subst a1 a3 a4
    have e3 : numI (atL (chgParts ⟨4, client, tag, ⟨#[]⟩, 0, [], n⟩) 3) = n := (numI_dec n.toNat (by omega)).trans (toNat_cast (by omega))
    simp [e3]
  · simp only at a1 a2 a3 a4 a5
    obtain rfl := nil_of_size a2
    subst a3 a4 a5
    have n1 : ¬ kind = 1 := by omega
    have n2 : ¬ kind = 2 := by omega
    have n4 : ¬ kind = 4 := by omega
    simp [n1, n2, n4]
theorem looseS_parts {c : Chg} (h : chgB c = true) : looseS (chgParts c) = c := by
  have hk := chgB_kind h
  have hcl := chgB_client h
  have h0 : numS (atL (chgParts c) 0) = c.kind := (numS_dec c.kind.toNat (by omega)).trans (toNat_cast (by omega))
  have h1 : numS (atL (chgParts c) 1) = c.client := (numS_dec c.client.toNat (by omega)).trans (toNat_cast (by omega))
  have h2 : txt (atL (chgParts c) 2) = c.tag := txt_of _
  unfold looseS
  rw [h0, h1, h2]
  obtain ⟨kind, client, tag, query, page, rows, n⟩ := c
  simp only at hk hcl ⊢
  rcases chgB_cases h with ⟨a1, a2, a3, a4, a5, a6⟩ | ⟨a1, a2, a3, a4, a5, a6⟩ | ⟨a1, a2, a3, a4, a5, a6⟩ | ⟨a1, a2, a3, a4, a5⟩
  · simp only at a1 a2 a3 a4 a5 a6
    subst a1 a5 a6
    have e3 : txt (atL (chgParts ⟨1, client, tag, query, page, [], 0⟩) 3) = query := txt_of _
    have e4 : numS (atL (chgParts ⟨1, client, tag, query, page, [], 0⟩) 4) = page := (numS_dec page.toNat (by omega)).trans (toNat_cast (by omega))
    have e5 : (chgParts ⟨1, client, tag, query, page, [], 0⟩).length = 5 := rfl
    simp [e3, e4, e5]
  · simp only at a1 a2 a3 a4 a5 a6
    obtain rfl := nil_of_size a2
    subst a1 a3 a6
    have e3 : ((chgParts ⟨2, client, tag, ⟨#[]⟩, 0, rows, 0⟩).drop 3).map txt = rows := map_txt rows
    simp [e3]
  · simp only at a1 a2 a3 a4 a5 a6
    obtain rfl := nil_of_size a2
    subst a1 a3 a4
    have e3 : numS (atL (chgParts ⟨4, client, tag, ⟨#[]⟩, 0, [], n⟩) 3) = n := (numS_dec n.toNat (by omega)).trans (toNat_cast (by omega))
    have e5 : (chgParts ⟨4, client, tag, ⟨#[]⟩, 0, [], n⟩).length = 4 := rfl
    simp [e3, e5]
  · simp only at a1 a2 a3 a4 a5
    obtain rfl := nil_of_size a2
    subst a3 a4 a5
    have n1 : ¬ kind = 1 := by omega
    have n2 : ¬ kind = 2 := by omega
    have n4 : ¬ kind = 4 := by omega
    simp [n1, n2, n4]
theorem encB_ok {c : Chg} {s : ByteArray} (h : encB c = s) (hs : ¬ s.size = 0) : chgB c = true ∧ s = ⟨(encL c).toArray⟩ := by
  unfold encB at h
  split at h
  · exact ⟨by assumption, h.symm⟩
  · rw [← h] at hs
    exact absurd rfl hs
theorem lens_le (b : Nat) : ∀ (l : List (List UInt8)), (∀ q ∈ l, q.length ≤ b) → Lib.lens l ≤ l.length * b
  | [], _ => by simp [Lib.lens]
  | q :: r, h => by
    have h1 := lens_le b r fun a ha => h a (List.mem_cons_of_mem _ ha)
    have h2 := h q (by simp)
    simp only [Lib.lens, List.map_cons, List.sum_cons, List.length_cons, Nat.add_mul, Nat.one_mul] at *
    omega
theorem dec_short (u : Nat) (h : u < 1000) : (Lib.decDigits u).length ≤ 200 := by have := dec_len 2 u (by omega); omega
theorem parts_short {c : Chg} (h : chgB c = true) : (chgParts c).length ≤ 203 ∧ ∀ q ∈ chgParts c, q.length ≤ 200 := by
  have hk := chgB_kind h
  have hcl := chgB_client h
  have ht := tagB_size (chgB_tag h)
  have hl : ∀ s : ByteArray, s.data.toList.length = s.size := fun s => by simp
  have hm : (chgMore c).length ≤ 200 ∧ ∀ q ∈ chgMore c, q.length ≤ 200 := by
    rcases chgB_cases h with ⟨a1, a2, a3, a4, a5, a6⟩ | ⟨a1, a2, a3, a4, a5, a6⟩ | ⟨a1, a2, a3, a4, a5, a6⟩ | ⟨a1, a2, a3, a4, a5⟩
    · unfold chgMore
      rw [if_pos a1]
      refine ⟨by simp, fun q hq => ?_⟩
      simp only [List.mem_cons, List.not_mem_nil, or_false] at hq
      rcases hq with rfl | rfl
      · rw [hl]; exact a2
      · exact dec_short _ (by omega)
    · unfold chgMore
      rw [if_neg (by omega), if_pos a1]
      refine ⟨by simpa using a4, fun q hq => ?_⟩
      obtain ⟨r, hr, rfl⟩ := List.mem_map.1 hq
      show r.data.toList.length ≤ 200
      rw [hl]; exact a5 r hr
    · unfold chgMore
      rw [if_neg (by omega), if_neg (by omega), if_pos a1]
      refine ⟨by simp, fun q hq => ?_⟩
      simp only [List.mem_cons, List.not_mem_nil, or_false] at hq
      subst hq
      exact dec_short _ (by omega)
    · unfold chgMore
      rw [if_neg (by omega), if_neg (by omega), if_neg (by omega)]
      exact ⟨by simp, fun q hq => by cases hq⟩
  refine ⟨by unfold chgParts; simp only [List.length_cons]; have := hm.1; omega, fun q hq => ?_⟩
  unfold chgParts at hq
  simp only [List.mem_cons] at hq
  rcases hq with rfl | rfl | rfl | hq
  · exact dec_short _ (by omega)
  · exact dec_short _ (by omega)
  · rw [hl]; omega
  · exact hm.2 q hq
theorem encL_short {c : Chg} (h : chgB c = true) : (encL c).length ≤ 60000 := by
  obtain ⟨h1, h2⟩ := parts_short h
  have hl := lens_le 200 _ h2
  unfold encL
  unfold chgParts at *
  rw [Lib.join_length]
  simp only [List.length_cons, List.length_nil] at *
  omega
/-- both read the same changes -/
theorem dec_same (s : ByteArray) : decI s = decS s := by
  unfold decI decS
  by_cases h0 : s.size = 0
  · rw [if_pos (.inl h0)]
    have e : s.data.toList = [] := List.length_eq_zero_iff.1 (by simpa using h0)
    rw [e, if_pos (by decide)]
  · by_cases hI : encB (looseI (cutL 10 s.data.toList)) = s
    · obtain ⟨k1, k2⟩ := encB_ok hI h0
      obtain ⟨C, hC⟩ : ∃ C, looseI (cutL 10 s.data.toList) = C := ⟨_, rfl⟩
      rw [hC] at k1 k2 hI ⊢
      have e : s.data.toList = encL C := by rw [k2]
      have hz : s.size ≤ 60000 := by have := encL_short k1; rw [← e] at this; simpa using this
      rw [if_neg (by omega), if_pos hI, e, cut_enc k1, if_neg (by unfold chgParts; simp), looseS_parts k1, if_pos hI]
    · rw [if_neg hI]
      by_cases hS : encB (looseS (cutL 10 s.data.toList)) = s
      · exfalso
        obtain ⟨k1, k2⟩ := encB_ok hS h0
        obtain ⟨C, hC⟩ : ∃ C, looseS (cutL 10 s.data.toList) = C := ⟨_, rfl⟩
        rw [hC] at k1 k2 hS
        have e : s.data.toList = encL C := by rw [k2]
        rw [e, cut_enc k1, looseI_parts k1] at hI
        exact hI hS
      · rw [if_neg hS]
        split <;> split <;> rfl
end Go.Proofs.YtpmnepalchgcbaaGreatDoor.Msg
