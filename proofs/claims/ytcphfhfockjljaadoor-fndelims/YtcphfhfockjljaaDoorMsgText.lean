import Derived.Test.YtcphfhfockjljaaDoorMsgOk4withBufPutwithBufEsc
namespace Go.Proofs.YtcphfhfockjljaaDoor.Msg
set_option linter.unusedVariables false
set_option linter.unusedSimpArgs false

/-- the texts of a list, a byte between -/
def joined {α : Type} (sep : UInt8) (f : α → List UInt8) (xs : List α) : List UInt8 := xs.zipIdx.flatMap fun p => (if p.2 = 0 then [] else [sep]) ++ f p.1
def repW (r : Rep) : List UInt8 := joined 94 (fun c => escs c.data.toList) r
def fieldW (f : Field) : List UInt8 := joined 126 repW f
def fieldsW (fs : List Field) : List UInt8 := fs.flatMap fun f => 124 :: fieldW f
def segW (i : Nat) (s : Seg) : List UInt8 := s.name.data.toList ++ (if i = 0 then [124, 94, 126, 92, 38] else []) ++ fieldsW s.fields ++ [13]
def msgW (m : List Seg) : List UInt8 := m.zipIdx.flatMap fun p => segW p.2 p.1

theorem zip_snoc {α : Type} (xs : List α) (k : Nat) (h : k < xs.length) : (xs.take (k + 1)).zipIdx = (xs.take k).zipIdx ++ [(xs[k], k)] := by
  rw [List.take_succ_eq_append_getElem h, List.zipIdx_append]
  simp [Nat.min_eq_left (Nat.le_of_lt h)]

theorem flat_take_le {α : Type} (g : α × Nat → List UInt8) (xs : List α) (k : Nat) : ((xs.take k).zipIdx.flatMap g).length ≤ (xs.zipIdx.flatMap g).length := by
  conv => rhs; rw [← List.take_append_drop k xs]
  rw [List.zipIdx_append, List.flatMap_append, List.length_append]
  omega

theorem joined_snoc {α : Type} (sep : UInt8) (f : α → List UInt8) (xs : List α) (k : Nat) (h : k < xs.length) : joined sep f (xs.take (k + 1)) = joined sep f (xs.take k) ++ ((if k = 0 then [] else [sep]) ++ f xs[k]) := by
  unfold joined
  rw [zip_snoc xs k h, List.flatMap_append]
  simp
theorem joined_room {α : Type} (sep : UInt8) (f : α → List UInt8) (xs : List α) (k : Nat) (h : k < xs.length) :
    (joined sep f (xs.take k)).length + ((if k = 0 then 0 else 1) + (f xs[k]).length) ≤ (joined sep f xs).length := by
  have h1 := flat_take_le (fun p => (if p.2 = 0 then [] else [sep]) ++ f p.1) xs (k + 1)
  have h2 := joined_snoc sep f xs k h
  change (joined sep f (xs.take (k + 1))).length ≤ (joined sep f xs).length at h1
  rw [h2, List.length_append, List.length_append] at h1
  split <;> split at h1 <;> simp_all <;> omega
theorem fieldsW_snoc (xs : List Field) (k : Nat) (h : k < xs.length) : fieldsW (xs.take (k + 1)) = fieldsW (xs.take k) ++ (124 :: fieldW xs[k]) := by
  unfold fieldsW
  rw [List.take_succ_eq_append_getElem h, List.flatMap_append]
  simp
theorem fieldsW_room (xs : List Field) (k : Nat) (h : k < xs.length) : (fieldsW (xs.take k)).length + (1 + (fieldW xs[k]).length) ≤ (fieldsW xs).length := by
  have h1 : (fieldsW (xs.take (k + 1))).length ≤ (fieldsW xs).length := by
    unfold fieldsW
    conv => rhs; rw [← List.take_append_drop (k + 1) xs]
    rw [List.flatMap_append, List.length_append]
    omega
  rw [fieldsW_snoc xs k h, List.length_append, List.length_cons] at h1
  omega
theorem msgW_snoc (xs : List Seg) (k : Nat) (h : k < xs.length) : msgW (xs.take (k + 1)) = msgW (xs.take k) ++ segW k xs[k] := by
  unfold msgW
  rw [zip_snoc xs k h, List.flatMap_append]
  simp
theorem msgW_room (xs : List Seg) (k : Nat) (h : k < xs.length) : (msgW (xs.take k)).length + (segW k xs[k]).length ≤ (msgW xs).length := by
  have h1 := flat_take_le (fun p => segW p.2 p.1) xs (k + 1)
  change (msgW (xs.take (k + 1))).length ≤ (msgW xs).length at h1
  rw [msgW_snoc xs k h, List.length_append] at h1
  exact h1

/-! no text is longer than what it is made of allows -/
theorem flat_le {α : Type} (g : α × Nat → List UInt8) (f : α → Nat) (h : ∀ p, (g p).length ≤ f p.1) : ∀ (xs : List α) (n : Nat), ((xs.zipIdx n).flatMap g).length ≤ sumOf f xs
  | [], _ => by simp [sumOf]
  | x :: xs, n => by
    have ih := flat_le g f h xs (n + 1)
    have hx := h (x, n)
    simp only [sumOf, List.zipIdx_cons, List.flatMap_cons, List.length_append, List.map_cons, List.sum_cons] at *
    omega
theorem sum_mono {α : Type} (f g : α → Nat) (h : ∀ x, f x ≤ g x) : ∀ xs : List α, sumOf f xs ≤ sumOf g xs
  | [] => by simp [sumOf]
  | x :: xs => by
    have ih := sum_mono f g h xs
    have hx := h x
    simp only [sumOf, List.map_cons, List.sum_cons] at *
    omega
theorem sum_lin {α : Type} (f : α → Nat) (a c : Nat) : ∀ xs : List α, sumOf (fun x => a + c * f x) xs = a * xs.length + c * sumOf f xs
  | [] => by simp [sumOf]
  | x :: xs => by
    have ih := sum_lin f a c xs
    simp only [sumOf, List.map_cons, List.sum_cons, List.length_cons] at *
    rw [ih, Nat.mul_add, Nat.mul_add]
    omega
theorem repW_le (r : Rep) : (repW r).length ≤ 3 * repSz r := by
  have h := flat_le (fun p : ByteArray × Nat => (if p.2 = 0 then [] else [94]) ++ escs p.1.data.toList) (fun c => 1 + 3 * strSz c) (fun p => by
    have := escs_le p.1.data.toList
    have h2 : p.1.data.toList.length = strSz p.1 := by simp [strSz]
    rw [List.length_append]
    split <;> simp <;> omega) r 0
  rw [sum_lin] at h
  change (repW r).length ≤ _ at h
  unfold repSz lenSum
  omega
theorem fieldW_le (f : Field) : (fieldW f).length ≤ 3 * fieldSz f := by
  have h := flat_le (fun p : Rep × Nat => (if p.2 = 0 then [] else [126]) ++ repW p.1) (fun c => 1 + 3 * repSz c) (fun p => by
    have := repW_le p.1
    rw [List.length_append]
    split <;> simp <;> omega) f 0
  rw [sum_lin] at h
  change (fieldW f).length ≤ _ at h
  unfold fieldSz lenSum
  omega
theorem fieldsW_le : ∀ fs : List Field, (fieldsW fs).length ≤ 3 * lenSum fieldSz fs
  | [] => by simp [fieldsW, lenSum, sumOf]
  | f :: fs => by
    have ih := fieldsW_le fs
    have hf := fieldW_le f
    simp only [fieldsW, lenSum, sumOf, List.flatMap_cons, List.length_append, List.length_cons, List.map_cons, List.sum_cons] at *
    omega
theorem segW_le (i : Nat) (s : Seg) : (segW i s).length ≤ 6 + 3 * segSz s := by
  have h := fieldsW_le s.fields
  have h2 : s.name.data.toList.length = s.name.size := by simp
  unfold segW segSz
  simp only [List.length_append]
  split <;> simp <;> omega
theorem msgW_le (m : List Seg) : (msgW m).length ≤ 6 * msgSz m := by
  have h := flat_le (fun p : Seg × Nat => segW p.2 p.1) (fun s => 6 + 3 * segSz s) (fun p => segW_le p.2 p.1) m 0
  rw [sum_lin] at h
  change (msgW m).length ≤ _ at h
  unfold msgSz lenSum
  omega
end Go.Proofs.YtcphfhfockjljaaDoor.Msg
