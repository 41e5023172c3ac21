import Derived.Test.YtcphfhfockjljaaDoorParseFields
import Derived.Test.YtcphfhfockjljaaDoorMsgOkwithMsgOk2withMsgOk3
import Derived.Deep.LoopGhost
import Derived.Deep.CutBlock
namespace Go.Proofs.YtcphfhfockjljaaDoor.Msg
open Go.ChangeShapes Go.WideShapes Go.ChangeAt Go.RowKit
set_option linter.unusedVariables false
set_option linter.unusedSimpArgs false

def byteC (c : UInt8) : Bool := decide (c.toNat = 13) || plainC c
def bytesB (s : ByteArray) : Bool := s.data.toList.all byteC

/-- too long a list of fields -/
def repLB (r : Rep) : Bool := decide (r.length ≤ 20)
def fldLB (f : Field) : Bool := decide (f.length ≤ 30) && f.all repLB
def longB (fs : List Field) : Bool := decide (30 < fs.length) || !(fs.all fldLB)

def lowB (c : UInt8) : Bool := decide (97 ≤ c.toNat) && decide (c.toNat ≤ 122)
def badB (c : UInt8) : Bool := decide (c.toNat = 13) || (capB c || (lowB c || digB c))
def newAt (l : List UInt8) (i : Nat) : Bool := match l[i]? with
  | none => false
  | some b => !badB b && (l.take i).all fun y => y != b
def delimsB (s : ByteArray) : Bool := (List.range 5).all (newAt s.data.toList)

theorem newAt_eq (l : List UInt8) (i : Nat) (h : i < l.length) : newAt l i = (!badB l[i] && (l.take i).all fun y => y != l[i]) := by
  unfold newAt
  rw [List.getElem?_eq_getElem h]
theorem bad_no {c : UInt8} (h0 : c.toNat ≠ 13) (h1 : capB c = false) (h2 : c.toNat < 48 ∨ (57 < c.toNat ∧ c.toNat < 97) ∨ 122 < c.toNat) : badB c = false := by
  unfold badB lowB digB
  rw [decide_eq_false h0, h1]
  rcases h2 with h | ⟨h, h'⟩ | h
  · rw [decide_eq_false (p := 97 ≤ c.toNat) (by omega), decide_eq_false (p := 48 ≤ c.toNat) (by omega)]; rfl
  · rw [decide_eq_false (p := 97 ≤ c.toNat) (by omega), decide_eq_false (p := c.toNat ≤ 57) (by omega), Bool.and_false]; rfl
  · rw [decide_eq_false (p := c.toNat ≤ 122) (by omega), decide_eq_false (p := c.toNat ≤ 57) (by omega), Bool.and_false, Bool.and_false]; rfl

end Go.Proofs.YtcphfhfockjljaaDoor.Msg

namespace Go.Proofs.YtcphfhfockjljaaDoor.Msg
open Go.ChangeShapes Go.WideShapes Go.ChangeAt Go.RowKit
set_option linter.unusedVariables false
set_option linter.unusedSimpArgs false

/-- what an escape's letter stands for -/
def escL (c0 c1 c2 c3 c4 : UInt8) (p : List UInt8) : Option (List UInt8) :=
  if p = [70] then some [c0] else if p = [83] then some [c1] else if p = [84] then some [c4] else if p = [82] then some [c2] else if p = [69] then some [c3] else none
def partL (e : List UInt8 → Option (List UInt8)) (i : Nat) (p : List UInt8) : Option (List UInt8) := if i % 2 = 0 then some p else e p
def unescGo (e : List UInt8 → Option (List UInt8)) : Nat → List (List UInt8) → Option (List UInt8)
  | _, [] => some []
  | i, p :: ps => match partL e i p with
    | none => none
    | some t => (unescGo e (i + 1) ps).map (t ++ ·)
/-- a component out of its escaped text; nothing if an escape is not one -/
def plainL (c0 c1 c2 c3 c4 : UInt8) (l : List UInt8) : Option (List UInt8) :=
  if (cutL c3 l).length % 2 = 0 then none else unescGo (escL c0 c1 c2 c3 c4) 0 (cutL c3 l)

theorem txt_append (a b : List UInt8) : txt a ++ txt b = txt (a ++ b) := by
  apply ByteArray.ext
  simp [txt, ByteArray.data_append]
theorem txt_toList (a : List UInt8) : (txt a).toList = a := by
  rw [ByteArray.toList_eq]
  exact txt_data a
theorem txt_one (s : ByteArray) (i : Nat) (h : i < s.size) : s.extract i (i + 1) = txt [s[i]] := by
  rw [txt_extract]
  congr 1
  have hl : i < s.data.toList.length := by simpa using h
  rw [List.take_succ_eq_append_getElem hl, List.drop_append_of_le_length (by rw [List.length_take]; omega), List.drop_eq_nil_of_le (by rw [List.length_take]; omega)]
  rfl
theorem unesc_step {e : List UInt8 → Option (List UInt8)} {ps : List (List UInt8)} {k : Nat} (hk : k < ps.length) {acc t : List UInt8} (h : unescGo e 0 ps = (unescGo e k (ps.drop k)).map (acc ++ ·)) (ht : partL e k ps[k] = some t) :
    unescGo e 0 ps = (unescGo e (k + 1) (ps.drop (k + 1))).map ((acc ++ t) ++ ·) := by
  rw [h, List.drop_eq_getElem_cons hk]
  have e1 : unescGo e k (ps[k] :: ps.drop (k + 1)) = (unescGo e (k + 1) (ps.drop (k + 1))).map (t ++ ·) := by
    conv => lhs; unfold unescGo
    rw [ht]
  rw [e1]
  simp [Option.map_map, Function.comp_def, List.append_assoc]
theorem unesc_fail {e : List UInt8 → Option (List UInt8)} {ps : List (List UInt8)} {k : Nat} (hk : k < ps.length) {acc : List UInt8} (h : unescGo e 0 ps = (unescGo e k (ps.drop k)).map (acc ++ ·)) (ht : partL e k ps[k] = none) : unescGo e 0 ps = none := by
  rw [h, List.drop_eq_getElem_cons hk]
  unfold unescGo
  rw [ht]
  rfl
theorem unesc_done {e : List UInt8 → Option (List UInt8)} {ps : List (List UInt8)} {k : Nat} (hk : ps.length ≤ k) {acc : List UInt8} (h : unescGo e 0 ps = (unescGo e k (ps.drop k)).map (acc ++ ·)) : unescGo e 0 ps = some acc := by
  rw [h, List.drop_eq_nil_of_le hk]
  simp [unescGo]

theorem ret_none {x : Option (List UInt8)} (h : x = none) : Ending.returned (.tuple #[.string ⟨#[]⟩, .bool false]) = .returned (.tuple #[.string (txt (x.getD [])), .bool x.isSome]) := by subst h; rfl
theorem ret_some {x : Option (List UInt8)} {acc : List UInt8} (h : x = some acc) : Ending.returned (.tuple #[.string (txt acc), .bool true]) = .returned (.tuple #[.string (txt (x.getD [])), .bool x.isSome]) := by subst h; rfl

end Go.Proofs.YtcphfhfockjljaaDoor.Msg

namespace Go.Proofs.YtcphfhfockjljaaDoor.Msg
open Go.ChangeShapes Go.WideShapes Go.ChangeAt Go.RowKit
set_option linter.unusedVariables false
set_option linter.unusedSimpArgs false

/-! what a text's plain form weighs -/
theorem escL_len {c0 c1 c2 c3 c4 : UInt8} {p t : List UInt8} (h : escL c0 c1 c2 c3 c4 p = some t) : t.length ≤ p.length := by
  unfold escL at h
  repeat' split at h
  all_goals first
    | (injection h with h; subst h; rename_i hp; rw [hp]; exact Nat.le_refl _)
    | cases h
theorem partL_len {c0 c1 c2 c3 c4 : UInt8} {i : Nat} {p t : List UInt8} (h : partL (escL c0 c1 c2 c3 c4) i p = some t) : t.length ≤ p.length := by
  unfold partL at h
  split at h
  · injection h with h; subst h; exact Nat.le_refl _
  · exact escL_len h
theorem unescGo_len (c0 c1 c2 c3 c4 : UInt8) : ∀ (ps : List (List UInt8)) (i : Nat) (t : List UInt8), unescGo (escL c0 c1 c2 c3 c4) i ps = some t → t.length ≤ (ps.map List.length).sum
  | [], i, t, h => by unfold unescGo at h; injection h with h; subst h; exact Nat.zero_le _
  | p :: ps, i, t, h => by
    unfold unescGo at h
    cases hp : partL (escL c0 c1 c2 c3 c4) i p with
    | none => rw [hp] at h; cases h
    | some u =>
      rw [hp] at h
      cases hr : unescGo (escL c0 c1 c2 c3 c4) (i + 1) ps with
      | none => simp only [hr] at h; cases h
      | some r =>
        simp only [hr, Option.map_some, Option.some.injEq] at h
        subst h
        have h1 := partL_len hp
        have h2 := unescGo_len c0 c1 c2 c3 c4 ps (i + 1) r hr
        simp only [List.length_append, List.map_cons, List.sum_cons]
        omega
theorem cutGo_sum (c : UInt8) : ∀ (l cur : List UInt8), ((cutGo c cur l).map List.length).sum ≤ cur.length + l.length
  | [], cur => by simp [cutGo]
  | x :: xs, cur => by
    unfold cutGo
    split
    · have := cutGo_sum c xs []
      simp only [List.map_cons, List.sum_cons, List.length_cons, List.length_nil] at *
      omega
    · have := cutGo_sum c xs (cur ++ [x])
      simp only [List.length_append, List.length_cons, List.length_nil] at *
      omega
theorem plainL_len {c0 c1 c2 c3 c4 : UInt8} {l t : List UInt8} (h : plainL c0 c1 c2 c3 c4 l = some t) : t.length ≤ l.length := by
  unfold plainL at h
  split at h
  · cases h
  · have h1 := unescGo_len c0 c1 c2 c3 c4 _ 0 t h
    have h2 := cutGo_sum c3 l []
    unfold cutL at h1
    simp only [List.length_nil] at h2
    omega

/-! all of a list, or nothing -/
def allO {α β : Type} (f : α → Option β) : List α → Option (List β)
  | [] => some []
  | x :: xs => match f x with
    | none => none
    | some y => (allO f xs).map (y :: ·)
theorem allO_step {α β : Type} {f : α → Option β} {xs : List α} {k : Nat} (hk : k < xs.length) {acc : List β} {y : β} (h : allO f xs = (allO f (xs.drop k)).map (acc ++ ·)) (hy : f xs[k] = some y) : allO f xs = (allO f (xs.drop (k + 1))).map ((acc ++ [y]) ++ ·) := by
  rw [h, List.drop_eq_getElem_cons hk]
  have e1 : allO f (xs[k] :: xs.drop (k + 1)) = (allO f (xs.drop (k + 1))).map (y :: ·) := by
    conv => lhs; unfold allO
    rw [hy]
  rw [e1]
  simp [Option.map_map, Function.comp_def, List.append_assoc]
theorem allO_fail {α β : Type} {f : α → Option β} {xs : List α} {k : Nat} (hk : k < xs.length) {acc : List β} (h : allO f xs = (allO f (xs.drop k)).map (acc ++ ·)) (hy : f xs[k] = none) : allO f xs = none := by
  rw [h, List.drop_eq_getElem_cons hk]
  have e1 : allO f (xs[k] :: xs.drop (k + 1)) = none := by
    conv => lhs; unfold allO
    rw [hy]
  rw [e1]
  rfl
theorem allO_done {α β : Type} {f : α → Option β} {xs : List α} {k : Nat} (hk : xs.length ≤ k) {acc : List β} (h : allO f xs = (allO f (xs.drop k)).map (acc ++ ·)) : allO f xs = some acc := by
  rw [h, List.drop_eq_nil_of_le hk]
  simp [allO]

/-! rows and lists that lie above a block, when only what lies below it has turned -/
theorem own_above {base : Nat} {e : TypeId} {w w' : World} {v : Value} {n : Nat} {vs : List Value} (h : w.ownsRow base e 1 v n vs) (hb : ∀ b, base ≤ b → w'.heap[b]? = w.heap[b]?) : w'.ownsRow base e 1 v n vs := by
  obtain ⟨hl, ⟨rfl, h0⟩ | ⟨g, cap, cur, rfl, hg, hs, rest⟩⟩ := h
  · exact ⟨hl, .inl ⟨rfl, h0⟩⟩
  · exact ⟨hl, .inr ⟨g, cap, cur, rfl, hg, by rw [hb g hg]; exact hs, rest⟩⟩
theorem LBuf.above {α : Type} {O : World → Value → α → List Nat → Prop} (hkeep : ∀ w w' v x bs, O w v x bs → w.heap.size ≤ w'.heap.size → (∀ d ∈ bs, w'.heap[d]? = w.heap[d]?) → O w' v x bs)
    {e : TypeId} {base : Nat} {w w' : World} {v : Value} {xs : List α} (h : LBuf O e base w v xs) (hs : w.heap.size ≤ w'.heap.size) (hb : ∀ b, base ≤ b → w'.heap[b]? = w.heap[b]?) : LBuf O e base w' v xs := by
  obtain ⟨vs, bss, h1, h2, h3, h4, h5⟩ := h
  refine ⟨vs, bss, h1, h2, own_above h3 hb, h4, fun i hi g1 g2 => ?_⟩
  obtain ⟨k1, k2⟩ := h5 i hi g1 g2
  exact ⟨hkeep _ _ _ _ _ k1 hs fun d hd => hb d (k2 d hd).1, fun b hb' => ⟨(k2 b hb').1, Nat.lt_of_lt_of_le (k2 b hb').2.1 hs, (k2 b hb').2.2⟩⟩
theorem LBuf.nil {α : Type} (O : World → Value → α → List Nat → Prop) (e : TypeId) (base : Nat) (w : World) : LBuf O e base w (.slice none 0 0) [] :=
  ⟨[], [], rfl, rfl, ⟨rfl, .inl ⟨rfl, rfl⟩⟩, by simp, fun i h => absurd h (by simp)⟩
theorem SBuf.nil (base : Nat) (w : World) : SBuf base w (.slice none 0 0) [] := ⟨rfl, .inl ⟨rfl, rfl⟩⟩
/-- a row of texts is an owned list of texts -/
theorem SBuf.strs {base : Nat} {w : World} {v : Value} {xs : List ByteArray} (h : SBuf base w v xs) (hl : xs.length ≤ 1048577) (hz : ∀ p ∈ xs, p.size ≤ 9223372036854775807) :
    ∃ a cap, v = .slice a xs.length cap ∧ ∃ bs, OStrs w v xs bs ∧ bs.Nodup ∧ ∀ b ∈ bs, base ≤ b := by
  have h' : w.ownsRow base 9 1 v (xs.map Value.string).length (xs.map Value.string) := by rw [List.length_map]; exact h
  rcases own_cells h' with ⟨h0, rfl⟩ | ⟨g, cap, rfl, hg, hlt, hc⟩
  · have : xs = [] := by simpa using h0
    subst this
    exact ⟨none, 0, rfl, [], ⟨by simp, .inl ⟨_, _, rfl, rfl, rfl⟩⟩, by simp, by simp⟩
  · rw [List.length_map]
    refine ⟨some ⟨g, 0, none⟩, cap, rfl, [g], ⟨by omega, .inr ⟨g, 0, cap, List.replicate xs.length [], rfl, hlt, by simp, by simp, fun i hi h2 => ?_⟩⟩, by simp, by simp [hg]⟩
    have := hc i (by rw [List.length_map]; exact hi)
    rw [List.getElem_map] at this
    exact ⟨by simpa using this.1, by simpa using this.2, hz _ (List.getElem_mem hi), by simp⟩
end Go.Proofs.YtcphfhfockjljaaDoor.Msg
