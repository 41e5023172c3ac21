import Derived.Test.YtpbedpgikkkfcaaLogFirst
namespace Go.Proofs.Ytpbedpgikkkfcaa.Msg
open Go.ChangeShapes Go.WideShapes Go.ChangeAt Go.RowKit Go.Shelf
set_option linter.unusedVariables false
set_option linter.unusedSimpArgs false

def readV (img : ByteArray) (a : Nat) : Value := match firstB (img.extract a img.size) with
  | some p => .tuple #[.string p.1, .int .i64 ((a + p.2 : Nat) : Int)]
  | none => .tuple #[.string ⟨#[]⟩, .int .i64 (-1)]
theorem rest_list (img : ByteArray) (a : Nat) : (img.extract a img.size).data.toList = img.data.toList.drop a := by
  simp only [ByteArray.data_extract, Array.toList_extract, List.extract_eq_take_drop]
  rw [List.take_of_length_le (by simp)]
theorem rest_get (img : ByteArray) (a i : Nat) (h : a + i < img.size) : (img.extract a img.size).data.toList.getD i 0 = img[a + i] := by
  rw [rest_list, List.getD_eq_getElem?_getD, List.getElem?_drop, List.getElem?_eq_getElem (by simpa using h)]
  rfl

/-- the text of a part of a slice of bytes -/
theorem Buf.string_part {base : Nat} {w : World} {bs : List UInt8} {g c o n d : Nat} (hc : ∀ j, j < bs.length → w.cell? ⟨g, j, none⟩ = some (.int .u8 ((bs.getD j 0).toNat : Int))) (hon : o + n ≤ bs.length) :
    Sem.run Try.prog (convert 22 9 (.slice (some ⟨g, o, none⟩) n d)) w = .ok (.string ⟨((bs.drop o).take n).toArray⟩) w := by
  rw [run_convert_bytes_arg w 22 5 Try.underlying22 Try.underlying5 g o n d (((bs.drop o).take n).map fun c => (c.toNat : Int)) (by simp; omega) ?_ 9 Try.underlying9]
  · congr 2
    unfold strOfNums
    congr 2
    rw [List.map_map]
    conv => rhs; rw [← List.map_id ((bs.drop o).take n)]
    apply List.map_congr_left
    intro c _
    simp
  · intro i hi
    have hi' : i < n := hi
    rw [hc (o + i) (by omega)]
    simp [List.getD_eq_getElem?_getD, List.getElem?_take, List.getElem?_drop, hi', show o + i < bs.length by omega]

end Go.Proofs.Ytpbedpgikkkfcaa.Msg
