import Derived.Test.YtpmnepalchgcbaaDoorRowsImplwithQryNumwithChgPure
import Derived.Test.YtpmnepalchgcbaaDoorShelf
import Derived.WalkSmall
import Derived.Lib.AtoiErrMem
import Derived.Lib.AppendIntMem
namespace Go.Proofs.YtpmnepalchgcbaaDoor.Msg
open Go.ChangeShapes Go.WideShapes Go.ChangeAt Go.RowKit
set_option linter.unusedVariables false
set_option linter.unusedSimpArgs false

structure Req where
  kind : Int
  control : ByteArray
  tag : ByteArray
  query : ByteArray
  page : Int
  pointer : ByteArray
def reqV (r : Req) : Value := .agg #[.int .i64 r.kind, .string r.control, .string r.tag, .string r.query, .int .i64 r.page, .string r.pointer]
/-- what a request with an error still tells -/
def told (control : ByteArray) : Req := ⟨0, if controlB control then control else ⟨#[]⟩, ⟨#[]⟩, ⟨#[]⟩, 0, ⟨#[]⟩⟩
/-- ReadRequest, out of what stands in the message; num is the number of the page's size -/
def readOf (kind control ver idt tag query pointer size : ByteArray) (num : Int) : Req × Int :=
  if !(kind.toList == [81, 66, 80]) && !(kind.toList == [81, 67, 78]) then (told control, 200)
  else if !controlB control then (told control, 101)
  else if !(ver.toList == [50, 46, 53, 46, 49]) then (told control, 203)
  else if kind.toList == [81, 67, 78] then (if tagB idt then (⟨3, control, idt, ⟨#[]⟩, 0, ⟨#[]⟩⟩, 0) else (told control, 101))
  else if !tagB tag then (told control, 101)
  else if !textB query || !textB pointer then (told control, 102)
  else if 0 < pointer.size then (⟨2, control, tag, query, 0, pointer⟩, 0)
  else if 0 < size.size then (if decide (1 ≤ num) && decide (num ≤ 50) then (⟨1, control, tag, query, num, ⟨#[]⟩⟩, 0) else (told control, 102))
  else (⟨1, control, tag, query, 10, ⟨#[]⟩⟩, 0)
theorem readOf_same (kind control ver idt tag query pointer size : ByteArray) :
    readOf kind control ver idt tag query pointer size (numS size.data.toList) = readOf kind control ver idt tag query pointer size (numI size.data.toList) := by
  have h := num_range size.data.toList 50 (by omega) (by omega)
  unfold readOf
  rw [h]
  by_cases hn : (decide (1 ≤ numI size.data.toList) && decide (numI size.data.toList ≤ 50)) = true
  · have hs := num_same size.data.toList (.inr (by simp at hn; omega))
    rw [hs]
  · rw [if_neg hn, if_neg hn]

/-! how long what Get gives can be -/
theorem mem_le {α : Type} (f : α → Nat) : ∀ (xs : List α) (x : α), x ∈ xs → f x ≤ sumOf f xs
  | y :: ys, x, h => by
    rw [List.mem_cons] at h
    unfold sumOf
    rw [List.map_cons, List.sum_cons]
    rcases h with rfl | h
    · omega
    · have := mem_le f ys x h
      unfold sumOf at this
      omega
theorem pick_sz (fs : List Field) (a c : Int) : (pick fs a c).size ≤ sumOf fieldSz fs := by
  unfold pick
  split
  · exact Nat.zero_le _
  · cases hf : fs[a.toNat]? with
    | none => exact Nat.zero_le _
    | some f =>
      cases f with
      | nil => exact Nat.zero_le _
      | cons r rs =>
        show (if c < 1 then (⟨#[]⟩ : ByteArray) else r.getD (c - 1).toNat ⟨#[]⟩).size ≤ _
        split
        · exact Nat.zero_le _
        · have h1 : (r.getD (c - 1).toNat ⟨#[]⟩).size ≤ repSz r := by
            rw [List.getD_eq_getElem?_getD]
            cases hr : r[(c - 1).toNat]? with
            | none => exact Nat.zero_le _
            | some x =>
              have h2 := mem_le strSz r x (List.mem_of_getElem? hr)
              show x.size ≤ _
              unfold repSz lenSum
              unfold strSz at h2 ⊢
              omega
          have h3 := mem_le fieldSz fs (r :: rs) (List.mem_of_getElem? hf)
          have h4 := mem_le repSz (r :: rs) r (by simp)
          have h5 : fieldSz (r :: rs) = (r :: rs).length + sumOf repSz (r :: rs) := rfl
          omega
theorem getFrom_sz (xs : List Seg) (name : ByteArray) (f c : Int) : (getFrom xs name f c).size ≤ msgSz xs := by
  unfold getFrom
  cases h : xs.find? fun s => s.name.toList == name.toList with
  | none => exact Nat.zero_le _
  | some s =>
    have h1 := mem_le segSz xs s (List.mem_of_find?_eq_some h)
    have h2 := pick_sz s.fields (f - if mshB name then 3 else 1) c
    show (pick s.fields _ c).size ≤ _
    have h5 : segSz s = s.name.size + (s.fields.length + sumOf fieldSz s.fields) := rfl
    have h6 : msgSz xs = xs.length + sumOf segSz xs := rfl
    omega
end Go.Proofs.YtpmnepalchgcbaaDoor.Msg

namespace Go.Proofs.YtpmnepalchgcbaaDoor.Msg
open Go.ChangeShapes Go.WideShapes Go.ChangeAt Go.RowKit
set_option linter.unusedVariables false
set_option linter.unusedSimpArgs false

theorem lt_of_cell {w : World} {b o : Nat} {v : Value} (h : w.cell? ⟨b, o, none⟩ = some v) : b < w.heap.size := by
  rcases Nat.lt_or_ge b w.heap.size with h' | h'
  · exact h'
  · simp [World.cell?, Array.getElem?_eq_none h'] at h
theorem tabG : Tryd.prog.globalNamed "internal/strconv.uint64pow10" = some 0 := by kernel_rfl
theorem tab_kept {w w' : World} (h : Below w.heap.size w w') (hv : Lib.TabIs Tryd.prog w "internal/strconv.uint64pow10" .u64 Lib.pow10Tab) : Lib.TabIs Tryd.prog w' "internal/strconv.uint64pow10" .u64 Lib.pow10Tab := by
  have hc : w.cell? ⟨0, 0, none⟩ = some (.int .u64 1) := by simpa [Lib.pow10Tab] using World.var?_cell tabG hv 0
  exact var?_below h tabG (lt_of_cell hc) hv
theorem itoaT (v : Int) (s : ByteArray) : ((⟨(Lib.itoa v).toArray⟩ : ByteArray).toList == s.toList) = (Lib.itoa v == s.data.toList) := by
  rw [ByteArray.toList_eq, ByteArray.toList_eq]

end Go.Proofs.YtpmnepalchgcbaaDoor.Msg
