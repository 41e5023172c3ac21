import Derived.Test.YtpdnocolmghnbaaDoorSegBuf
import Derived.Test.YtpdnocolmghnbaaDoorCutPure
namespace Go.Proofs.YtpdnocolmghnbaaDoor.Msg
open Go.ChangeShapes Go.WideShapes Go.ChangeAt Go.RowKit
set_option linter.unusedVariables false
set_option linter.unusedSimpArgs false

/-! Parse, said over lists -/
def fieldsT (d : ByteArray) (hd : d.size = 5) (l : List UInt8) : List Field := (fieldsL d[0] d[1] d[2] l).map fieldT
def restL (i : Nat) (p : List UInt8) : List UInt8 := if i = 0 then p.drop 8 else p.drop 3
/-- one piece: a segment, or the code -/
def segL (d : ByteArray) (hd : d.size = 5) (i : Nat) (p : List UInt8) : Except Nat Seg :=
  if p.length < 3 ∨ nameB (txt (p.take 3)) = false ∨ (0 < i ∧ p.take 3 = [77, 83, 72]) then .error 4
  else if (restL i p).head?.any (fun c => c != d[0]) = true then .error 4
  else if 250 ≤ i ∨ longB (fieldsT d hd (restL i p)) = true then .error 5
  else match allO (allO (allO (plainO d hd))) (fieldsT d hd (restL i p)) with
    | none => .error 6
    | some g => .ok ⟨txt (p.take 3), g⟩
def segsGo (d : ByteArray) (hd : d.size = 5) : Nat → List (List UInt8) → Except Nat (List Seg)
  | _, [] => .ok []
  | i, p :: ps => match segL d hd i p with
    | .error c => .error c
    | .ok x => (segsGo d hd (i + 1) ps).map (x :: ·)
theorem segs_step {d : ByteArray} {hd : d.size = 5} {ps : List (List UInt8)} {k : Nat} (hk : k < ps.length) {acc : List Seg} {x : Seg} (h : segsGo d hd 0 ps = (segsGo d hd k (ps.drop k)).map (acc ++ ·)) (hx : segL d hd k ps[k] = .ok x) :
    segsGo d hd 0 ps = (segsGo d hd (k + 1) (ps.drop (k + 1))).map ((acc ++ [x]) ++ ·) := by
  rw [h, List.drop_eq_getElem_cons hk]
  have e1 : segsGo d hd k (ps[k] :: ps.drop (k + 1)) = (segsGo d hd (k + 1) (ps.drop (k + 1))).map (x :: ·) := by
    conv => lhs; unfold segsGo
    rw [hx]
  rw [e1]
  cases segsGo d hd (k + 1) (ps.drop (k + 1)) with
  | error c => rfl
  | ok ys => simp [Except.map]
theorem segs_fail {d : ByteArray} {hd : d.size = 5} {ps : List (List UInt8)} {k c : Nat} (hk : k < ps.length) {acc : List Seg} (h : segsGo d hd 0 ps = (segsGo d hd k (ps.drop k)).map (acc ++ ·)) (hx : segL d hd k ps[k] = .error c) : segsGo d hd 0 ps = .error c := by
  rw [h, List.drop_eq_getElem_cons hk]
  have e1 : segsGo d hd k (ps[k] :: ps.drop (k + 1)) = .error c := by
    conv => lhs; unfold segsGo
    rw [hx]
  rw [e1]
  rfl
theorem segs_done {d : ByteArray} {hd : d.size = 5} {ps : List (List UInt8)} {k : Nat} (hk : ps.length ≤ k) {acc : List Seg} (h : segsGo d hd 0 ps = (segsGo d hd k (ps.drop k)).map (acc ++ ·)) : segsGo d hd 0 ps = .ok acc := by
  rw [h, List.drop_eq_nil_of_le hk]
  simp [segsGo, Except.map]
/-- the pieces without an empty one at the end -/
def piecesL (l : List UInt8) : List (List UInt8) := if (cutL 13 l).getLast? = some [] then (cutL 13 l).dropLast else cutL 13 l
def headB (s : ByteArray) : Bool := decide (8 ≤ s.size) && ((s.extract 0 3).toList == [77, 83, 72] && (delimsB (s.extract 3 8) && (decide (s.size ≤ 8) || (s.data.toList[8]? == some 13 || s.data.toList[8]? == s.data.toList[3]?))))
theorem head_size {s : ByteArray} (h : headB s = true) : (s.extract 3 8).size = 5 := by
  unfold headB at h
  rw [Bool.and_eq_true] at h
  have : 8 ≤ s.size := by simpa using h.1
  rw [ByteArray.size_extract]
  omega
def parseL (s : ByteArray) : Except Nat (List Seg) :=
  if s.size = 0 ∨ 40000 < s.size then .error 1
  else if bytesB s = false then .error 2
  else if h : headB s = true then segsGo (s.extract 3 8) (head_size h) 0 (piecesL s.data.toList)
  else .error 3

/-! sizes -/
theorem trimE_mem {α : Type} {p : α → Bool} {xs : List α} {x : α} (h : x ∈ trimE p xs) : x ∈ xs := List.mem_of_mem_take h
theorem compsL_sz (c1 : UInt8) (l : List UInt8) : ∀ c ∈ compsL c1 l, c.length ≤ l.length := fun c h => cutL_sz c1 l c (trimE_mem h)
theorem repsL_sz (c1 c2 : UInt8) (l : List UInt8) : ∀ r ∈ repsL c1 c2 l, ∀ c ∈ r, c.length ≤ l.length := fun r hr c hc => by
  have := trimE_mem hr
  rw [List.mem_map] at this
  obtain ⟨p, hp, rfl⟩ := this
  exact Nat.le_trans (compsL_sz c1 p c hc) (cutL_sz c2 l p hp)
theorem fieldsL_sz (c0 c1 c2 : UInt8) (l : List UInt8) : ∀ f ∈ fieldsL c0 c1 c2 l, ∀ r ∈ f, ∀ c ∈ r, c.length ≤ l.length := fun f hf r hr c hc => by
  cases l with
  | nil => cases hf
  | cons x l =>
    have := trimE_mem hf
    rw [List.mem_map] at this
    obtain ⟨p, hp, rfl⟩ := this
    have h1 := repsL_sz c1 c2 p r hr c hc
    have h2 := cutL_sz c0 l p hp
    simp only [List.length_cons]
    omega
theorem fieldsT_sz (d : ByteArray) (hd : d.size = 5) (l : List UInt8) (hl : l.length ≤ 1048576) : ∀ f ∈ fieldsT d hd l, ∀ r ∈ f, ∀ c ∈ r, c.size ≤ 1048576 := fun f hf r hr c hc => by
  unfold fieldsT at hf
  rw [List.mem_map] at hf
  obtain ⟨f', hf', rfl⟩ := hf
  unfold fieldT at hr
  rw [List.mem_map] at hr
  obtain ⟨r', hr', rfl⟩ := hr
  unfold repT at hc
  rw [List.mem_map] at hc
  obtain ⟨c', hc', rfl⟩ := hc
  rw [txt_size]
  have := fieldsL_sz _ _ _ l f' hf' r' hr' c' hc'
  omega
end Go.Proofs.YtpdnocolmghnbaaDoor.Msg
