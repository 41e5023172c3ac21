import Derived.Test.YtjpdgcodjnnljaaBufPutwithParseData
namespace Go.Proofs.Ytjpdgcodjnnljaa.Msg
open Go.ChangeShapes Go.WideShapes Go.ChangeAt Go.RowKit
set_option linter.unusedVariables false
set_option linter.unusedSimpArgs false

/-- a byte of a component, as it is written -/
def esc (c : UInt8) : List UInt8 :=
  if c.toNat = 124 then [92, 70, 92] else if c.toNat = 94 then [92, 83, 92] else if c.toNat = 38 then [92, 84, 92] else if c.toNat = 126 then [92, 82, 92] else if c.toNat = 92 then [92, 69, 92] else [c]
def escs (l : List UInt8) : List UInt8 := l.flatMap esc
theorem esc_le (c : UInt8) : (esc c).length ≤ 3 := by
  unfold esc
  repeat (split; · decide)
  simp
theorem escs_snoc (l : List UInt8) (c : UInt8) : escs (l ++ [c]) = escs l ++ esc c := by simp [escs]
theorem escs_le (l : List UInt8) : (escs l).length ≤ 3 * l.length := by
  induction l with
  | nil => simp [escs]
  | cons c l ih =>
    have h := esc_le c
    simp only [escs, List.flatMap_cons, List.length_append, List.length_cons] at ih ⊢
    omega

set_option maxRecDepth 100000 in
set_option maxHeartbeats 1000000 in
theorem escaped_any (base : Nat) (bs : List UInt8) (s : ByteArray) (v : Value) (w : World) (hown : Buf base w v bs) (hbase : base ≤ w.heap.size) (hl : bs.length + 3 * s.size ≤ 70368744177664) :
    Calls Try.prog 99 #[v, .string s] w fun e w' => ∃ u, e = .returned u ∧ Buf base w' u (bs ++ escs s.data.toList) ∧ Grew w v w' u := by
  obtain ⟨i0, hi, hz0, hz1, hz2⟩ := u8_facts
  go_enter Try.func99, Try.ntmps99
  go_wp2
  go_loopw [0, 5] (fun v1 i wr => ∃ k : Nat, k ≤ s.size ∧ i = .int .i64 k ∧ Buf base wr v1 (bs ++ escs (s.data.toList.take k)) ∧ Grew w v wr v1) (fun _ i _ => s.size - (intOf i).toNat)
  case atStart => exact ⟨0, Nat.zero_le _, rfl, by simpa [escs] using hown, Grew.refl _ _⟩
  case round =>
    obtain ⟨k, hk, rfl, hbuf, hb⟩ := hrel
    by_cases hlt : k < s.size
    · have HT : Hid (bs ++ escs (s.data.toList.take (k + 1)) = (bs ++ escs (s.data.toList.take k)) ++ esc s[k]) := by rw [take_snoc s k hlt, escs_snoc, List.append_assoc]; trivial
      have hlen : (bs ++ escs (s.data.toList.take k)).length ≤ bs.length + 3 * k := by
        have := escs_le (s.data.toList.take k)
        have h2 : (s.data.toList.take k).length ≤ k := List.length_take_le _ _
        rw [List.length_append]; omega
      have hz : base ≤ wr.heap.size := Nat.le_trans hbase hb.1.size
      have HE : Hid (∀ d : List UInt8, d = esc s[k] → bs ++ escs (s.data.toList.take k) ++ d = bs ++ escs (s.data.toList.take (k + 1))) := fun d hd => by rw [HT.out, hd]
      have HU : Hid (esc s[k] = if s[k].toNat = 124 then [92, 70, 92] else if s[k].toNat = 94 then [92, 83, 92] else if s[k].toNat = 38 then [92, 84, 92] else if s[k].toNat = 126 then [92, 82, 92] else if s[k].toNat = 92 then [92, 69, 92] else [s[k]]) := rfl
      generalize hB : bs ++ escs (s.data.toList.take k) = B at *
      clear HT hB
      by_cases h1 : s[k].toNat = 124
      · have h1' : ((s[k].toNat : Int) == 124) = true := by simp; omega
        have H1 := hide h1
        clear h1
        go_wp2_with fail
        refine (put_any base B ⟨#[92, 70, 92]⟩ _ _ hbuf hz (by have : (⟨#[92, 70, 92]⟩ : ByteArray).size = 3 := rfl; omega)).mono ?_
        rintro e w2 ⟨u, rfl, hu, hb2⟩
        go_wp2_with fail
        go_roundw
        case rel => exact ⟨k + 1, by omega, by go_num, by rw [← HE.out _ (by rw [HU.out, if_pos H1.out])]; exact hu, hb.trans hb2⟩
        case measure => simp [intOf]; omega
      have h1' : ((s[k].toNat : Int) == 124) = false := by simp; omega
      have H1 := hide h1
      clear h1
      by_cases h2 : s[k].toNat = 94
      · have h2' : ((s[k].toNat : Int) == 94) = true := by simp; omega
        have H2 := hide h2
        clear h2
        go_wp2_with fail
        refine (put_any base B ⟨#[92, 83, 92]⟩ _ _ hbuf hz (by have : (⟨#[92, 83, 92]⟩ : ByteArray).size = 3 := rfl; omega)).mono ?_
        rintro e w2 ⟨u, rfl, hu, hb2⟩
        go_wp2_with fail
        go_roundw
        case rel => exact ⟨k + 1, by omega, by go_num, by rw [← HE.out _ (by rw [HU.out, if_neg H1.out, if_pos H2.out])]; exact hu, hb.trans hb2⟩
        case measure => simp [intOf]; omega
      have h2' : ((s[k].toNat : Int) == 94) = false := by simp; omega
      have H2 := hide h2
      clear h2
      by_cases h3 : s[k].toNat = 38
      · have h3' : ((s[k].toNat : Int) == 38) = true := by simp; omega
        have H3 := hide h3
        clear h3
        go_wp2_with fail
        refine (put_any base B ⟨#[92, 84, 92]⟩ _ _ hbuf hz (by have : (⟨#[92, 84, 92]⟩ : ByteArray).size = 3 := rfl; omega)).mono ?_
        rintro e w2 ⟨u, rfl, hu, hb2⟩
        go_wp2_with fail
        go_roundw
        case rel => exact ⟨k + 1, by omega, by go_num, by rw [← HE.out _ (by rw [HU.out, if_neg H1.out, if_neg H2.out, if_pos H3.out])]; exact hu, hb.trans hb2⟩
        case measure => simp [intOf]; omega
      have h3' : ((s[k].toNat : Int) == 38) = false := by simp; omega
      have H3 := hide h3
      clear h3
      by_cases h4 : s[k].toNat = 126
      · have h4' : ((s[k].toNat : Int) == 126) = true := by simp; omega
        have H4 := hide h4
        clear h4
        go_wp2_with fail
        refine (put_any base B ⟨#[92, 82, 92]⟩ _ _ hbuf hz (by have : (⟨#[92, 82, 92]⟩ : ByteArray).size = 3 := rfl; omega)).mono ?_
        rintro e w2 ⟨u, rfl, hu, hb2⟩
        go_wp2_with fail
        go_roundw
        case rel => exact ⟨k + 1, by omega, by go_num, by rw [← HE.out _ (by rw [HU.out, if_neg H1.out, if_neg H2.out, if_neg H3.out, if_pos H4.out])]; exact hu, hb.trans hb2⟩
        case measure => simp [intOf]; omega
      have h4' : ((s[k].toNat : Int) == 126) = false := by simp; omega
      have H4 := hide h4
      clear h4
      by_cases h5 : s[k].toNat = 92
      · have h5' : ((s[k].toNat : Int) == 92) = true := by simp; omega
        have H5 := hide h5
        clear h5
        go_wp2_with fail
        refine (put_any base B ⟨#[92, 69, 92]⟩ _ _ hbuf hz (by have : (⟨#[92, 69, 92]⟩ : ByteArray).size = 3 := rfl; omega)).mono ?_
        rintro e w2 ⟨u, rfl, hu, hb2⟩
        go_wp2_with fail
        go_roundw
        case rel => exact ⟨k + 1, by omega, by go_num, by rw [← HE.out _ (by rw [HU.out, if_neg H1.out, if_neg H2.out, if_neg H3.out, if_neg H4.out, if_pos H5.out])]; exact hu, hb.trans hb2⟩
        case measure => simp [intOf]; omega
      have h5' : ((s[k].toNat : Int) == 92) = false := by simp; omega
      have H5 := hide h5
      clear h5
      go_wp2_with (first
        | (at_builtin; refine wpList_append_own_at _ rfl _ _ 22 rfl base 5 i0 (.int .u8 0) 1 1 Try.underlying22 hi hz0 hz1 hz2 rfl (by decide) _ _ _ rfl (World.ownsRow.alloc hbuf _) ⟨wr.heap.size, 0, none⟩ 1 1 [.int .u8 s[k].toNat] rfl rfl ?c1 ?c2 ?c3 ?c4 ?c5 ?_)
        | go_in)
      case c1 => exact new_cell _ _ _
      case c2 => exact one_u8 _
      case c3 => unfold maxLen; omega
      case c4 => omega
      case c5 => simp; omega
      · intro v' w' hown' hgrow hnil hat
        have R := Buf.snoc (bs := B) s[k] _ hb rfl hown' hgrow hat
        clear hown' hgrow hnil hat hbuf hb
        go_wp2
        go_roundw
        case rel => exact ⟨k + 1, by omega, by go_num, by rw [← HE.out _ (by rw [HU.out, if_neg H1.out, if_neg H2.out, if_neg H3.out, if_neg H4.out, if_neg H5.out])]; exact R.1, R.2⟩
        case measure => simp [intOf]; omega
    · go_wp2
      go_ret
      exact ⟨_, rfl, by rw [List.take_of_length_le (by simp; omega)] at hbuf; exact hbuf, hb⟩
end Go.Proofs.Ytjpdgcodjnnljaa.Msg

namespace Go.Proofs.Ytjpdgcodjnnljaa.Msg
set_option linter.unusedVariables false
set_option linter.unusedSimpArgs false

/-- the texts of a list, a byte between -/
def joined {α : Type} (sep : UInt8) (f : α → List UInt8) (xs : List α) : List UInt8 := xs.zipIdx.flatMap fun p => (if p.2 = 0 then [] else [sep]) ++ f p.1
def repW (r : Rep) : List UInt8 := joined 94 (fun c => escs c.data.toList) r
def fieldW (f : Field) : List UInt8 := joined 126 repW f
def fieldsW (fs : List Field) : List UInt8 := fs.flatMap fun f => 124 :: fieldW f
def segW (i : Nat) (s : Seg) : List UInt8 := s.name.data.toList ++ (if i = 0 then [124, 94, 126, 92, 38] else []) ++ fieldsW s.fields ++ [13]
def msgW (m : List Seg) : List UInt8 := m.zipIdx.flatMap fun p => segW p.2 p.1

theorem zip_snoc {α : Type} (xs : List α) (k : Nat) (h : k < xs.length) : (xs.take (k + 1)).zipIdx = (xs.take k).zipIdx ++ [(xs[k], k)] := by
  rw [List.take_succ_eq_append_getElem h, List.zipIdx_append]
  simp [Nat.min_eq_left (Nat.le_of_lt h)]

theorem flat_take_le {α : Type} (g : α × Nat → List UInt8) (xs : List α) (k : Nat) : ((xs.take k).zipIdx.flatMap g).length ≤ (xs.zipIdx.flatMap g).length := by
  conv => rhs; rw [← List.take_append_drop k xs]
  rw [List.zipIdx_append, List.flatMap_append, List.length_append]
  omega

theorem joined_snoc {α : Type} (sep : UInt8) (f : α → List UInt8) (xs : List α) (k : Nat) (h : k < xs.length) : joined sep f (xs.take (k + 1)) = joined sep f (xs.take k) ++ ((if k = 0 then [] else [sep]) ++ f xs[k]) := by
  unfold joined
  rw [zip_snoc xs k h, List.flatMap_append]
  simp
theorem joined_room {α : Type} (sep : UInt8) (f : α → List UInt8) (xs : List α) (k : Nat) (h : k < xs.length) :
    (joined sep f (xs.take k)).length + ((if k = 0 then 0 else 1) + (f xs[k]).length) ≤ (joined sep f xs).length := by
  have h1 := flat_take_le (fun p => (if p.2 = 0 then [] else [sep]) ++ f p.1) xs (k + 1)
  have h2 := joined_snoc sep f xs k h
  change (joined sep f (xs.take (k + 1))).length ≤ (joined sep f xs).length at h1
  rw [h2, List.length_append, List.length_append] at h1
  split <;> split at h1 <;> simp_all <;> omega
theorem fieldsW_snoc (xs : List Field) (k : Nat) (h : k < xs.length) : fieldsW (xs.take (k + 1)) = fieldsW (xs.take k) ++ (124 :: fieldW xs[k]) := by
  unfold fieldsW
  rw [List.take_succ_eq_append_getElem h, List.flatMap_append]
  simp
theorem fieldsW_room (xs : List Field) (k : Nat) (h : k < xs.length) : (fieldsW (xs.take k)).length + (1 + (fieldW xs[k]).length) ≤ (fieldsW xs).length := by
  have h1 : (fieldsW (xs.take (k + 1))).length ≤ (fieldsW xs).length := by
    unfold fieldsW
    conv => rhs; rw [← List.take_append_drop (k + 1) xs]
    rw [List.flatMap_append, List.length_append]
    omega
  rw [fieldsW_snoc xs k h, List.length_append, List.length_cons] at h1
  omega
theorem msgW_snoc (xs : List Seg) (k : Nat) (h : k < xs.length) : msgW (xs.take (k + 1)) = msgW (xs.take k) ++ segW k xs[k] := by
  unfold msgW
  rw [zip_snoc xs k h, List.flatMap_append]
  simp
theorem msgW_room (xs : List Seg) (k : Nat) (h : k < xs.length) : (msgW (xs.take k)).length + (segW k xs[k]).length ≤ (msgW xs).length := by
  have h1 := flat_take_le (fun p => segW p.2 p.1) xs (k + 1)
  change (msgW (xs.take (k + 1))).length ≤ (msgW xs).length at h1
  rw [msgW_snoc xs k h, List.length_append] at h1
  exact h1

/-! no text is longer than what it is made of allows -/
theorem flat_le {α : Type} (g : α × Nat → List UInt8) (f : α → Nat) (h : ∀ p, (g p).length ≤ f p.1) : ∀ (xs : List α) (n : Nat), ((xs.zipIdx n).flatMap g).length ≤ sumOf f xs
  | [], _ => by simp [sumOf]
  | x :: xs, n => by
    have ih := flat_le g f h xs (n + 1)
    have hx := h (x, n)
    simp only [sumOf, List.zipIdx_cons, List.flatMap_cons, List.length_append, List.map_cons, List.sum_cons] at *
    omega
theorem sum_mono {α : Type} (f g : α → Nat) (h : ∀ x, f x ≤ g x) : ∀ xs : List α, sumOf f xs ≤ sumOf g xs
  | [] => by simp [sumOf]
  | x :: xs => by
    have ih := sum_mono f g h xs
    have hx := h x
    simp only [sumOf, List.map_cons, List.sum_cons] at *
    omega
theorem sum_lin {α : Type} (f : α → Nat) (a c : Nat) : ∀ xs : List α, sumOf (fun x => a + c * f x) xs = a * xs.length + c * sumOf f xs
  | [] => by simp [sumOf]
  | x :: xs => by
    have ih := sum_lin f a c xs
    simp only [sumOf, List.map_cons, List.sum_cons, List.length_cons] at *
    rw [ih, Nat.mul_add, Nat.mul_add]
    omega
theorem repW_le (r : Rep) : (repW r).length ≤ 3 * repSz r := by
  have h := flat_le (fun p : ByteArray × Nat => (if p.2 = 0 then [] else [94]) ++ escs p.1.data.toList) (fun c => 1 + 3 * strSz c) (fun p => by
    have := escs_le p.1.data.toList
    have h2 : p.1.data.toList.length = strSz p.1 := by simp [strSz]
    rw [List.length_append]
    split <;> simp <;> omega) r 0
  rw [sum_lin] at h
  change (repW r).length ≤ _ at h
  unfold repSz lenSum
  omega
theorem fieldW_le (f : Field) : (fieldW f).length ≤ 3 * fieldSz f := by
  have h := flat_le (fun p : Rep × Nat => (if p.2 = 0 then [] else [126]) ++ repW p.1) (fun c => 1 + 3 * repSz c) (fun p => by
    have := repW_le p.1
    rw [List.length_append]
    split <;> simp <;> omega) f 0
  rw [sum_lin] at h
  change (fieldW f).length ≤ _ at h
  unfold fieldSz lenSum
  omega
theorem fieldsW_le : ∀ fs : List Field, (fieldsW fs).length ≤ 3 * lenSum fieldSz fs
  | [] => by simp [fieldsW, lenSum, sumOf]
  | f :: fs => by
    have ih := fieldsW_le fs
    have hf := fieldW_le f
    simp only [fieldsW, lenSum, sumOf, List.flatMap_cons, List.length_append, List.length_cons, List.map_cons, List.sum_cons] at *
    omega
theorem segW_le (i : Nat) (s : Seg) : (segW i s).length ≤ 6 + 3 * segSz s := by
  have h := fieldsW_le s.fields
  have h2 : s.name.data.toList.length = s.name.size := by simp
  unfold segW segSz
  simp only [List.length_append]
  split <;> simp <;> omega
theorem msgW_le (m : List Seg) : (msgW m).length ≤ 6 * msgSz m := by
  have h := flat_le (fun p : Seg × Nat => segW p.2 p.1) (fun s => 6 + 3 * segSz s) (fun p => segW_le p.2 p.1) m 0
  rw [sum_lin] at h
  change (msgW m).length ≤ _ at h
  unfold msgSz lenSum
  omega
end Go.Proofs.Ytjpdgcodjnnljaa.Msg
