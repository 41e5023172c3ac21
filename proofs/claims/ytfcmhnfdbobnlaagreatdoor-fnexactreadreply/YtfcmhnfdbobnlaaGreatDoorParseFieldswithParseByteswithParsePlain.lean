import Derived.Test.YtfcmhnfdbobnlaaGreatDoorListBufwithParseRepswithMsgTo3
import Derived.Deep.RegionHeld3
import Derived.Test.YtfcmhnfdbobnlaaGreatDoorMsgOk
import Derived.Deep.LoopGhost
import Derived.Deep.CutBlock
namespace Go.Proofs.YtfcmhnfdbobnlaaGreatDoor.Msg
open Go.ChangeShapes Go.WideShapes Go.ChangeAt Go.RowKit
set_option linter.unusedVariables false
set_option linter.unusedSimpArgs false

/-- the fields of what stands behind a name -/
def fieldsL (c0 c1 c2 : UInt8) : List UInt8 → List (List (List (List UInt8)))
  | [] => []
  | _ :: l => trimE List.isEmpty ((cutL c0 l).map (repsL c1 c2))
def fieldT (f : List (List (List UInt8))) : Field := f.map repT

theorem extract_tail (s : ByteArray) : s.extract 1 s.size = txt s.data.toList.tail := by
  rw [txt_extract]
  have : s.data.toList.take s.size = s.data.toList := by rw [List.take_of_length_le (by simp)]
  rw [this]
  congr 1
  simp

end Go.Proofs.YtfcmhnfdbobnlaaGreatDoor.Msg

namespace Go.Proofs.YtfcmhnfdbobnlaaGreatDoor.Msg
open Go.ChangeShapes Go.WideShapes Go.ChangeAt Go.RowKit
set_option linter.unusedVariables false
set_option linter.unusedSimpArgs false

def byteC (c : UInt8) : Bool := decide (c.toNat = 13) || plainC c
def bytesB (s : ByteArray) : Bool := s.data.toList.all byteC

/-- too long a list of fields -/
def repLB (r : Rep) : Bool := decide (r.length ≤ 20)
def fldLB (f : Field) : Bool := decide (f.length ≤ 30) && f.all repLB
def longB (fs : List Field) : Bool := decide (30 < fs.length) || !(fs.all fldLB)

def lowB (c : UInt8) : Bool := decide (97 ≤ c.toNat) && decide (c.toNat ≤ 122)
def badB (c : UInt8) : Bool := decide (c.toNat = 13) || (capB c || (lowB c || digB c))
def newAt (l : List UInt8) (i : Nat) : Bool := match l[i]? with
  | none => false
  | some b => !badB b && (l.take i).all fun y => y != b
def delimsB (s : ByteArray) : Bool := (List.range 5).all (newAt s.data.toList)

theorem newAt_eq (l : List UInt8) (i : Nat) (h : i < l.length) : newAt l i = (!badB l[i] && (l.take i).all fun y => y != l[i]) := by
  unfold newAt
  rw [List.getElem?_eq_getElem h]
theorem bad_no {c : UInt8} (h0 : c.toNat ≠ 13) (h1 : capB c = false) (h2 : c.toNat < 48 ∨ (57 < c.toNat ∧ c.toNat < 97) ∨ 122 < c.toNat) : badB c = false := by
  unfold badB lowB digB
  rw [decide_eq_false h0, h1]
  rcases h2 with h | ⟨h, h'⟩ | h
  · rw [decide_eq_false (p := 97 ≤ c.toNat) (by omega), decide_eq_false (p := 48 ≤ c.toNat) (by omega)]; rfl
  · rw [decide_eq_false (p := 97 ≤ c.toNat) (by omega), decide_eq_false (p := c.toNat ≤ 57) (by omega), Bool.and_false]; rfl
  · rw [decide_eq_false (p := c.toNat ≤ 122) (by omega), decide_eq_false (p := c.toNat ≤ 57) (by omega), Bool.and_false, Bool.and_false]; rfl

end Go.Proofs.YtfcmhnfdbobnlaaGreatDoor.Msg

namespace Go.Proofs.YtfcmhnfdbobnlaaGreatDoor.Msg
open Go.ChangeShapes Go.WideShapes Go.ChangeAt Go.RowKit
set_option linter.unusedVariables false
set_option linter.unusedSimpArgs false

/-- what an escape's letter stands for -/
def escL (c0 c1 c2 c3 c4 : UInt8) (p : List UInt8) : Option (List UInt8) :=
  if p = [70] then some [c0] else if p = [83] then some [c1] else if p = [84] then some [c4] else if p = [82] then some [c2] else if p = [69] then some [c3] else none
def partL (e : List UInt8 → Option (List UInt8)) (i : Nat) (p : List UInt8) : Option (List UInt8) := if i % 2 = 0 then some p else e p
def unescGo (e : List UInt8 → Option (List UInt8)) : Nat → List (List UInt8) → Option (List UInt8)
  | _, [] => some []
  | i, p :: ps => match partL e i p with
    | none => none
    | some t => (unescGo e (i + 1) ps).map (t ++ ·)
/-- a component out of its escaped text; nothing if an escape is not one -/
def plainL (c0 c1 c2 c3 c4 : UInt8) (l : List UInt8) : Option (List UInt8) :=
  if (cutL c3 l).length % 2 = 0 then none else unescGo (escL c0 c1 c2 c3 c4) 0 (cutL c3 l)

theorem txt_append (a b : List UInt8) : txt a ++ txt b = txt (a ++ b) := by
  apply ByteArray.ext
  simp [txt, ByteArray.data_append]
theorem txt_toList (a : List UInt8) : (txt a).toList = a := by
  rw [ByteArray.toList_eq]
  exact txt_data a
theorem txt_one (s : ByteArray) (i : Nat) (h : i < s.size) : s.extract i (i + 1) = txt [s[i]] := by
  rw [txt_extract]
  congr 1
  have hl : i < s.data.toList.length := by simpa using h
  rw [List.take_succ_eq_append_getElem hl, List.drop_append_of_le_length (by rw [List.length_take]; omega), List.drop_eq_nil_of_le (by rw [List.length_take]; omega)]
  rfl
theorem unesc_step {e : List UInt8 → Option (List UInt8)} {ps : List (List UInt8)} {k : Nat} (hk : k < ps.length) {acc t : List UInt8} (h : unescGo e 0 ps = (unescGo e k (ps.drop k)).map (acc ++ ·)) (ht : partL e k ps[k] = some t) :
    unescGo e 0 ps = (unescGo e (k + 1) (ps.drop (k + 1))).map ((acc ++ t) ++ ·) := by
  rw [h, List.drop_eq_getElem_cons hk]
  have e1 : unescGo e k (ps[k] :: ps.drop (k + 1)) = (unescGo e (k + 1) (ps.drop (k + 1))).map (t ++ ·) := by
    conv => lhs; unfold unescGo
    rw [ht]
  rw [e1]
  simp [Option.map_map, Function.comp_def, List.append_assoc]
theorem unesc_fail {e : List UInt8 → Option (List UInt8)} {ps : List (List UInt8)} {k : Nat} (hk : k < ps.length) {acc : List UInt8} (h : unescGo e 0 ps = (unescGo e k (ps.drop k)).map (acc ++ ·)) (ht : partL e k ps[k] = none) : unescGo e 0 ps = none := by
  rw [h, List.drop_eq_getElem_cons hk]
  unfold unescGo
  rw [ht]
  rfl
theorem unesc_done {e : List UInt8 → Option (List UInt8)} {ps : List (List UInt8)} {k : Nat} (hk : ps.length ≤ k) {acc : List UInt8} (h : unescGo e 0 ps = (unescGo e k (ps.drop k)).map (acc ++ ·)) : unescGo e 0 ps = some acc := by
  rw [h, List.drop_eq_nil_of_le hk]
  simp [unescGo]

theorem ret_none {x : Option (List UInt8)} (h : x = none) : Ending.returned (.tuple #[.string ⟨#[]⟩, .bool false]) = .returned (.tuple #[.string (txt (x.getD [])), .bool x.isSome]) := by subst h; rfl
theorem ret_some {x : Option (List UInt8)} {acc : List UInt8} (h : x = some acc) : Ending.returned (.tuple #[.string (txt acc), .bool true]) = .returned (.tuple #[.string (txt (x.getD [])), .bool x.isSome]) := by subst h; rfl

end Go.Proofs.YtfcmhnfdbobnlaaGreatDoor.Msg
