import Derived.Test.YtfcmhnfdbobnlaaGreatDoorParseListswithParseUnescwithSegBuf
import Derived.Test.YtfcmhnfdbobnlaaGreatDoorBufPutwithParseDatawithCutPure
import Derived.Test.YtfcmhnfdbobnlaaGreatDoorQryReadwithImplOkwithTextImpl
import Derived.Test.YtfcmhnfdbobnlaaGreatDoorImplCutwithMarkStrwithMarkMsg
namespace Go.Proofs.YtfcmhnfdbobnlaaGreatDoor.Msg
open Go.ChangeShapes Go.WideShapes Go.ChangeAt Go.RowKit
set_option linter.unusedVariables false
set_option linter.unusedSimpArgs false

/-! Parse, said over lists -/
def fieldsT (d : ByteArray) (hd : d.size = 5) (l : List UInt8) : List Field := (fieldsL d[0] d[1] d[2] l).map fieldT
def restL (i : Nat) (p : List UInt8) : List UInt8 := if i = 0 then p.drop 8 else p.drop 3
/-- one piece: a segment, or the code -/
def segL (d : ByteArray) (hd : d.size = 5) (i : Nat) (p : List UInt8) : Except Nat Seg :=
  if p.length < 3 ∨ nameB (txt (p.take 3)) = false ∨ (0 < i ∧ p.take 3 = [77, 83, 72]) then .error 4
  else if (restL i p).head?.any (fun c => c != d[0]) = true then .error 4
  else if 250 ≤ i ∨ longB (fieldsT d hd (restL i p)) = true then .error 5
  else match allO (allO (allO (plainO d hd))) (fieldsT d hd (restL i p)) with
    | none => .error 6
    | some g => .ok ⟨txt (p.take 3), g⟩
def segsGo (d : ByteArray) (hd : d.size = 5) : Nat → List (List UInt8) → Except Nat (List Seg)
  | _, [] => .ok []
  | i, p :: ps => match segL d hd i p with
    | .error c => .error c
    | .ok x => (segsGo d hd (i + 1) ps).map (x :: ·)
theorem segs_step {d : ByteArray} {hd : d.size = 5} {ps : List (List UInt8)} {k : Nat} (hk : k < ps.length) {acc : List Seg} {x : Seg} (h : segsGo d hd 0 ps = (segsGo d hd k (ps.drop k)).map (acc ++ ·)) (hx : segL d hd k ps[k] = .ok x) :
    segsGo d hd 0 ps = (segsGo d hd (k + 1) (ps.drop (k + 1))).map ((acc ++ [x]) ++ ·) := by
  rw [h, List.drop_eq_getElem_cons hk]
  have e1 : segsGo d hd k (ps[k] :: ps.drop (k + 1)) = (segsGo d hd (k + 1) (ps.drop (k + 1))).map (x :: ·) := by
    conv => lhs; unfold segsGo
    rw [hx]
  rw [e1]
  cases segsGo d hd (k + 1) (ps.drop (k + 1)) with
  | error c => rfl
  | ok ys => simp [Except.map]
theorem segs_fail {d : ByteArray} {hd : d.size = 5} {ps : List (List UInt8)} {k c : Nat} (hk : k < ps.length) {acc : List Seg} (h : segsGo d hd 0 ps = (segsGo d hd k (ps.drop k)).map (acc ++ ·)) (hx : segL d hd k ps[k] = .error c) : segsGo d hd 0 ps = .error c := by
  rw [h, List.drop_eq_getElem_cons hk]
  have e1 : segsGo d hd k (ps[k] :: ps.drop (k + 1)) = .error c := by
    conv => lhs; unfold segsGo
    rw [hx]
  rw [e1]
  rfl
theorem segs_done {d : ByteArray} {hd : d.size = 5} {ps : List (List UInt8)} {k : Nat} (hk : ps.length ≤ k) {acc : List Seg} (h : segsGo d hd 0 ps = (segsGo d hd k (ps.drop k)).map (acc ++ ·)) : segsGo d hd 0 ps = .ok acc := by
  rw [h, List.drop_eq_nil_of_le hk]
  simp [segsGo, Except.map]
/-- the pieces without an empty one at the end -/
def piecesL (l : List UInt8) : List (List UInt8) := if (cutL 13 l).getLast? = some [] then (cutL 13 l).dropLast else cutL 13 l
def headB (s : ByteArray) : Bool := decide (8 ≤ s.size) && ((s.extract 0 3).toList == [77, 83, 72] && (delimsB (s.extract 3 8) && (decide (s.size ≤ 8) || (s.data.toList[8]? == some 13 || s.data.toList[8]? == s.data.toList[3]?))))
theorem head_size {s : ByteArray} (h : headB s = true) : (s.extract 3 8).size = 5 := by
  unfold headB at h
  rw [Bool.and_eq_true] at h
  have : 8 ≤ s.size := by simpa using h.1
  rw [ByteArray.size_extract]
  omega
def parseL (s : ByteArray) : Except Nat (List Seg) :=
  if s.size = 0 ∨ 40000 < s.size then .error 1
  else if bytesB s = false then .error 2
  else if h : headB s = true then segsGo (s.extract 3 8) (head_size h) 0 (piecesL s.data.toList)
  else .error 3

/-! sizes -/
theorem trimE_mem {α : Type} {p : α → Bool} {xs : List α} {x : α} (h : x ∈ trimE p xs) : x ∈ xs := List.mem_of_mem_take h
theorem compsL_sz (c1 : UInt8) (l : List UInt8) : ∀ c ∈ compsL c1 l, c.length ≤ l.length := fun c h => cutL_sz c1 l c (trimE_mem h)
theorem repsL_sz (c1 c2 : UInt8) (l : List UInt8) : ∀ r ∈ repsL c1 c2 l, ∀ c ∈ r, c.length ≤ l.length := fun r hr c hc => by
  have := trimE_mem hr
  rw [List.mem_map] at this
  obtain ⟨p, hp, rfl⟩ := this
  exact Nat.le_trans (compsL_sz c1 p c hc) (cutL_sz c2 l p hp)
theorem fieldsL_sz (c0 c1 c2 : UInt8) (l : List UInt8) : ∀ f ∈ fieldsL c0 c1 c2 l, ∀ r ∈ f, ∀ c ∈ r, c.length ≤ l.length := fun f hf r hr c hc => by
  cases l with
  | nil => cases hf
  | cons x l =>
    have := trimE_mem hf
    rw [List.mem_map] at this
    obtain ⟨p, hp, rfl⟩ := this
    have h1 := repsL_sz c1 c2 p r hr c hc
    have h2 := cutL_sz c0 l p hp
    simp only [List.length_cons]
    omega
theorem fieldsT_sz (d : ByteArray) (hd : d.size = 5) (l : List UInt8) (hl : l.length ≤ 1048576) : ∀ f ∈ fieldsT d hd l, ∀ r ∈ f, ∀ c ∈ r, c.size ≤ 1048576 := fun f hf r hr c hc => by
  unfold fieldsT at hf
  rw [List.mem_map] at hf
  obtain ⟨f', hf', rfl⟩ := hf
  unfold fieldT at hr
  rw [List.mem_map] at hr
  obtain ⟨r', hr', rfl⟩ := hr
  unfold repT at hc
  rw [List.mem_map] at hc
  obtain ⟨c', hc', rfl⟩ := hc
  rw [txt_size]
  have := fieldsL_sz _ _ _ l f' hf' r' hr' c' hc'
  omega
end Go.Proofs.YtfcmhnfdbobnlaaGreatDoor.Msg

namespace Go.Proofs.YtfcmhnfdbobnlaaGreatDoor.Msg
open Go.ChangeShapes Go.WideShapes Go.ChangeAt Go.RowKit
set_option linter.unusedVariables false
set_option linter.unusedSimpArgs false

theorem toList_size (s : ByteArray) : s.toList.length = s.size := by rw [ByteArray.toList_eq]; simp
theorem isEmptyText_any (s : ByteArray) (w : World) :
    Calls Tryz.prog 103 #[.string s] w fun e w' => e = .returned (.bool (decide (s.size = 0))) ∧ w' = w := by
  have HE : Hid (s.toList.isEmpty = decide (s.size = 0)) := by
    show s.toList.isEmpty = decide (s.size = 0)
    rw [← toList_size]
    cases s.toList <;> simp
  go_enter Tryz.func103, Tryz.ntmps103
  go_wp2
  go_ret
  exact ⟨ret_bool HE.out, rfl⟩

theorem repIsEmpty_any (a : Option Addr) (n c : Nat) (w : World) :
    Calls Tryz.prog 88 #[.agg #[.slice a n c]] w fun e w' => e = .returned (.bool (decide (n = 0))) ∧ w' = w.alloc (.cells #[.slice a n c] 62) := by
  have HE : Hid (((n : Int) == 0) = decide (n = 0)) := by
    show ((n : Int) == 0) = decide (n = 0)
    by_cases h : n = 0
    · subst h; rfl
    · rw [decide_eq_false h, beq_eq_false_iff_ne]; omega
  go_enter Tryz.func88, Tryz.ntmps88
  go_wp2
  go_ret
  exact ⟨ret_bool HE.out, rfl⟩

theorem fieldIsEmpty_any (a : Option Addr) (n c : Nat) (w : World) :
    Calls Tryz.prog 74 #[.agg #[.slice a n c]] w fun e w' => e = .returned (.bool (decide (n = 0))) ∧ w' = w.alloc (.cells #[.slice a n c] 60) := by
  have HE : Hid (((n : Int) == 0) = decide (n = 0)) := by
    show ((n : Int) == 0) = decide (n = 0)
    by_cases h : n = 0
    · subst h; rfl
    · rw [decide_eq_false h, beq_eq_false_iff_ne]; omega
  go_enter Tryz.func74, Tryz.ntmps74
  go_wp2
  go_ret
  exact ⟨ret_bool HE.out, rfl⟩

/-- a list that is no longer than 'lim' and whose last is not empty -/
def csB {α : Type} (lim : Nat) (f : α → Nat) (xs : List α) : Bool := decide (xs.length ≤ lim) && endB f xs

set_option maxHeartbeats 1000000 in
theorem cutShortS_any (xs : List ByteArray) (lim : Nat) (v : Value) (w : World) {lo : Nat} (hv : StrsAt lo w v xs) (hlim : lim ≤ 1000) :
    Calls Tryz.prog 102 #[v, .int .i64 lim, .func (.func 103) #[] #[]] w fun e w' => e = .returned (.bool (csB lim ByteArray.size xs)) ∧ w' = w := by
  have hl := hv.1
  obtain ⟨a, cap, rfl, hc⟩ := hv.form
  have HR : Hid (csB lim ByteArray.size xs = (decide (xs.length ≤ lim) && endB ByteArray.size xs)) := rfl
  by_cases hle : (xs.length : Int) ≤ (lim : Int)
  · by_cases h0 : xs.length = 0
    · have hz : ((xs.length : Int) == 0) = true := by rw [beq_iff_eq]; omega
      have HX : Hid (csB lim ByteArray.size xs = true) := by rw [HR.out, endB_nil _ _ h0, decide_eq_true (by omega)]; rfl
      clear h0 hc hv
      go_enter Tryz.func102, Tryz.ntmps102
      go_wp2_with fail
      go_ret
      exact ⟨ret_bool HX.out.symm, rfl⟩
    · have hz : ((xs.length : Int) == 0) = false := by rw [beq_eq_false_iff_ne]; omega
      have hi : xs.length - 1 < xs.length := by omega
      obtain ⟨b, off, rfl, _, hbl, hr⟩ := hc (xs.length - 1) hi
      have hlast : w.cell? ⟨b, off + (xs.length - 1), none⟩ = some (.string (xs[xs.length - 1]'hi)) := by simpa using hr.1
      have HE : Hid (endB ByteArray.size xs = decide (0 < (xs[xs.length - 1]'hi).size)) := endB_at ByteArray.size xs (by omega)
      have hn1 : ((xs.length : Int) - 1).toNat = xs.length - 1 := by omega
      have hn2 : ¬ (xs.length : Int) - 1 < 0 := by omega
      clear hr hc hv
      generalize xs[xs.length - 1]'hi = z at *
      have HX : Hid (csB lim ByteArray.size xs = !decide (z.size = 0)) := by
        rw [HR.out, HE.out, decide_eq_true (by omega), Bool.true_and]
        by_cases hq : z.size = 0
        · rw [decide_eq_true hq, decide_eq_false (by omega)]; rfl
        · rw [decide_eq_false hq, decide_eq_true (by omega)]; rfl
      obtain ⟨bz, HB⟩ : ∃ b, Hid (decide (z.size = 0) = b) := ⟨_, rfl⟩
      clear h0
      go_enter Tryz.func102, Tryz.ntmps102
      go_wp2_with fail
      refine (isEmptyText_any z _).mono ?_
      rintro e w' ⟨rfl, rfl⟩
      rw [HB.out]
      go_wp2_with fail
      go_ret
      exact ⟨ret_bool (by rw [HX.out, HB.out]), rfl⟩
  · have HX : Hid (csB lim ByteArray.size xs = false) := by rw [HR.out, decide_eq_false (by omega)]; rfl
    clear hc hv
    go_enter Tryz.func102, Tryz.ntmps102
    go_wp2_with fail
    go_ret
    exact ⟨ret_bool HX.out.symm, rfl⟩
set_option maxHeartbeats 1000000 in
theorem cutShortR_any (xs : List Rep) (lim : Nat) (v : Value) (w : World) {lo : Nat} (hv : RepsAt lo w v xs) (hlim : lim ≤ 1000) :
    Calls Tryz.prog 87 #[v, .int .i64 lim, .func (.func 88) #[] #[]] w fun e w' => e = .returned (.bool (csB lim List.length xs)) ∧ Below w.heap.size w w' := by
  have hl := hv.1
  obtain ⟨a, cap, rfl, hc⟩ := hv.form
  have HR : Hid (csB lim List.length xs = (decide (xs.length ≤ lim) && endB List.length xs)) := rfl
  by_cases hle : (xs.length : Int) ≤ (lim : Int)
  · by_cases h0 : xs.length = 0
    · have hz : ((xs.length : Int) == 0) = true := by rw [beq_iff_eq]; omega
      have HX : Hid (csB lim List.length xs = true) := by rw [HR.out, endB_nil _ _ h0, decide_eq_true (by omega)]; rfl
      clear h0 hc hv
      go_enter Tryz.func87, Tryz.ntmps87
      go_wp2_with fail
      go_ret
      exact ⟨ret_bool HX.out.symm, Below.refl _ _⟩
    · have hz : ((xs.length : Int) == 0) = false := by rw [beq_eq_false_iff_ne]; omega
      have hi : xs.length - 1 < xs.length := by omega
      obtain ⟨b, off, rfl, _, hbl, ve, hcell, hel⟩ := hc (xs.length - 1) hi
      have hlast : w.cell? ⟨b, off + (xs.length - 1), none⟩ = some ve := by simpa using hcell
      obtain ⟨a5, cap5, rfl, _⟩ := hel.form
      have HE : Hid (endB List.length xs = decide (0 < (xs[xs.length - 1]'hi).length)) := endB_at List.length xs (by omega)
      have hn1 : ((xs.length : Int) - 1).toNat = xs.length - 1 := by omega
      have hn2 : ¬ (xs.length : Int) - 1 < 0 := by omega
      clear hcell hel hc hv
      generalize xs[xs.length - 1]'hi = z at *
      have HX : Hid (csB lim List.length xs = !decide (z.length = 0)) := by
        rw [HR.out, HE.out, decide_eq_true (by omega), Bool.true_and]
        by_cases hq : z.length = 0
        · rw [decide_eq_true hq, decide_eq_false (by omega)]; rfl
        · rw [decide_eq_false hq, decide_eq_true (by omega)]; rfl
      obtain ⟨bz, HB⟩ : ∃ b, Hid (decide (z.length = 0) = b) := ⟨_, rfl⟩
      clear h0
      go_enter Tryz.func87, Tryz.ntmps87
      go_wp2_with fail
      refine (repIsEmpty_any _ _ _ _).mono ?_
      rintro e w' ⟨rfl, rfl⟩
      rw [HB.out]
      go_wp2_with fail
      go_ret
      exact ⟨ret_bool (by rw [HX.out, HB.out]), (Below.refl _ _).alloc (Nat.le_refl _) _⟩
  · have HX : Hid (csB lim List.length xs = false) := by rw [HR.out, decide_eq_false (by omega)]; rfl
    clear hc hv
    go_enter Tryz.func87, Tryz.ntmps87
    go_wp2_with fail
    go_ret
    exact ⟨ret_bool HX.out.symm, Below.refl _ _⟩

set_option maxHeartbeats 1000000 in
theorem cutShortF_any (xs : List Field) (lim : Nat) (v : Value) (w : World) {lo : Nat} (hv : FieldsAt lo w v xs) (hlim : lim ≤ 1000) :
    Calls Tryz.prog 73 #[v, .int .i64 lim, .func (.func 74) #[] #[]] w fun e w' => e = .returned (.bool (csB lim List.length xs)) ∧ Below w.heap.size w w' := by
  have hl := hv.1
  obtain ⟨a, cap, rfl, hc⟩ := hv.form
  have HR : Hid (csB lim List.length xs = (decide (xs.length ≤ lim) && endB List.length xs)) := rfl
  by_cases hle : (xs.length : Int) ≤ (lim : Int)
  · by_cases h0 : xs.length = 0
    · have hz : ((xs.length : Int) == 0) = true := by rw [beq_iff_eq]; omega
      have HX : Hid (csB lim List.length xs = true) := by rw [HR.out, endB_nil _ _ h0, decide_eq_true (by omega)]; rfl
      clear h0 hc hv
      go_enter Tryz.func73, Tryz.ntmps73
      go_wp2_with fail
      go_ret
      exact ⟨ret_bool HX.out.symm, Below.refl _ _⟩
    · have hz : ((xs.length : Int) == 0) = false := by rw [beq_eq_false_iff_ne]; omega
      have hi : xs.length - 1 < xs.length := by omega
      obtain ⟨b, off, rfl, _, hbl, ve, hcell, hel⟩ := hc (xs.length - 1) hi
      have hlast : w.cell? ⟨b, off + (xs.length - 1), none⟩ = some ve := by simpa using hcell
      obtain ⟨a5, cap5, rfl, _⟩ := hel.form
      have HE : Hid (endB List.length xs = decide (0 < (xs[xs.length - 1]'hi).length)) := endB_at List.length xs (by omega)
      have hn1 : ((xs.length : Int) - 1).toNat = xs.length - 1 := by omega
      have hn2 : ¬ (xs.length : Int) - 1 < 0 := by omega
      clear hcell hel hc hv
      generalize xs[xs.length - 1]'hi = z at *
      have HX : Hid (csB lim List.length xs = !decide (z.length = 0)) := by
        rw [HR.out, HE.out, decide_eq_true (by omega), Bool.true_and]
        by_cases hq : z.length = 0
        · rw [decide_eq_true hq, decide_eq_false (by omega)]; rfl
        · rw [decide_eq_false hq, decide_eq_true (by omega)]; rfl
      obtain ⟨bz, HB⟩ : ∃ b, Hid (decide (z.length = 0) = b) := ⟨_, rfl⟩
      clear h0
      go_enter Tryz.func73, Tryz.ntmps73
      go_wp2_with fail
      refine (fieldIsEmpty_any _ _ _ _).mono ?_
      rintro e w' ⟨rfl, rfl⟩
      rw [HB.out]
      go_wp2_with fail
      go_ret
      exact ⟨ret_bool (by rw [HX.out, HB.out]), (Below.refl _ _).alloc (Nat.le_refl _) _⟩
  · have HX : Hid (csB lim List.length xs = false) := by rw [HR.out, decide_eq_false (by omega)]; rfl
    clear hc hv
    go_enter Tryz.func73, Tryz.ntmps73
    go_wp2_with fail
    go_ret
    exact ⟨ret_bool HX.out.symm, Below.refl _ _⟩
end Go.Proofs.YtfcmhnfdbobnlaaGreatDoor.Msg

namespace Go.Proofs.YtfcmhnfdbobnlaaGreatDoor.Msg
open Go.ChangeShapes Go.WideShapes Go.ChangeAt Go.RowKit
set_option linter.unusedVariables false
set_option linter.unusedSimpArgs false

theorem add_none0 (b off k : Nat) : (⟨b, off, none⟩ : Addr).add k = ⟨b, off + k, none⟩ := by
  unfold Addr.add
  split <;> simp_all
theorem take_cells (ps : List (List UInt8)) (k : Nat) (hk : k ≤ ps.length) {w : World} {g : Nat} (hc : ∀ i (hi : i < ps.length), w.cell? ⟨g, i, none⟩ = some (.string (txt ps[i])) ∧ w.frozen? ⟨g, i, none⟩ = false) :
    ∀ (j : Nat) (u : Value), (((ps.take k).map txt).map Value.string)[j]? = some u → w.cell? ((⟨g, 0, none⟩ : Addr).add j) = some u := by
  intro j u hj
  rw [add_none0, Nat.zero_add]
  have hjl : j < (((ps.take k).map txt).map Value.string).length := (List.getElem?_eq_some_iff.1 hj).1
  simp only [List.length_map, List.length_take] at hjl
  rw [List.getElem?_eq_getElem (by simp only [List.length_map, List.length_take]; omega)] at hj
  simp only [List.getElem_map, List.getElem_take] at hj
  injection hj with hj
  rw [← hj]
  exact (hc j (by omega)).1
theorem one_strs (xs : List ByteArray) : ∀ u ∈ xs.map Value.string, u.oneCell' = true := by
  intro u hu
  rw [List.mem_map] at hu
  obtain ⟨x, _, rfl⟩ := hu
  rfl
theorem grown_nil {w w' : World} (h : w.grownBy w' none) : Below w.heap.size w w' := ⟨h.os, h.tape, h.output, h.size, fun k hk => h.block k hk (by simp)⟩
set_option maxRecDepth 100000 in
set_option maxHeartbeats 2000000 in
theorem cutS_any (ps : List (List UInt8)) (base : Nat) (v : Value) (w : World) (hv : SBuf base w v (ps.map txt)) (hp : 0 < ps.length) (hl : ps.length ≤ 40001) (hz : ∀ p ∈ ps, p.length ≤ 1048576) :
    Calls Tryz.prog 155 #[v, .func (.func 103) #[] #[]] w fun e w' => ∃ u, e = .returned u ∧ SBuf w.heap.size w' u ((trimE List.isEmpty ps).map txt) ∧ Below w.heap.size w w' := by
  obtain ⟨i0, hi, hz0, hz1, hz2⟩ := str_facts
  obtain ⟨g, cap, rfl, hg, hgl, hcap, hcm, hcell⟩ := pieces_form hv hp
  have HC := hide hcell
  clear hv hcell
  go_enter Tryz.func155, Tryz.ntmps155
  go_wp2_with fail
  go_loop [5] (fun n => ∃ k : Nat, k ≤ ps.length ∧ n = .int .i64 k ∧ ∀ j (h : j < ps.length), k ≤ j → (ps[j]).isEmpty = true) (fun n => (intOf n).toNat)
  case atStart => exact ⟨ps.length, Nat.le_refl _, rfl, fun j h h1 => absurd h1 (by omega)⟩
  case round =>
    obtain ⟨k, hk, rfl, hA⟩ := hrel
    have HA := hide hA
    clear hA
    by_cases hz : 0 < k
    · have hk1 : k - 1 < ps.length := by omega
      have hzi : (0 : Int) < (k : Int) := by omega
      have hc1 := (HC.out (k - 1) hk1).1
      have htn : ((k : Int) - 1).toNat = k - 1 := by omega
      have hb0' : (0 : Int) ≤ (k : Int) - 1 := by omega
      have hb1' : (k : Int) - 1 < (ps.length : Int) := by omega
      have HTS := hide (txt_size (ps[k - 1]'hk1))
      cases hem : (ps[k - 1]'hk1).isEmpty
      · have HD : Hid (decide ((txt (ps[k - 1]'hk1)).size = 0) = false) := by
          rw [HTS.out]
          show decide _ = false
          refine decide_eq_false fun h0 => ?_
          rw [List.length_eq_zero_iff.1 h0] at hem; cases hem
        have HK := hide (keepN_is List.isEmpty ps k hk HA.out (fun _ _ => hem))
        have HT : Hid (trimE List.isEmpty ps = ps.take k) := by unfold trimE; rw [HK.out]; trivial
        clear hem
        have hcp : (k : Int) ≤ (cap : Int) := by omega
        go_wp2_with fail
        refine (isEmptyText_any _ _).mono ?_
        rintro e w' ⟨rfl, rfl⟩
        rw [HD.out]
        go_wp2_with (first
          | (at_builtin; refine wpList_append_own_at _ rfl _ _ 26 rfl w'.heap.size 9 i0 (.string ByteArray.empty) 1 16 Tryz.underlying26 hi hz0 hz1 hz2 rfl (by decide) _ _ _ rfl (World.ownsRow_nil w' w'.heap.size 9 1) ⟨g, 0, none⟩ k cap (((ps.take k).map txt).map Value.string) rfl ?c0 ?c1 ?c2 ?c3 ?c4 ?c5 ?_)
          | fail)
        case c0 => simp; omega
        case c1 => exact take_cells ps k hk HC.out
        case c2 => exact one_strs _
        case c3 => unfold maxLen; omega
        case c4 => omega
        case c5 => exact Nat.le_refl _
        intro v' w2 hown' hgrow hnil hat
        have HS : Hid (SBuf w'.heap.size w2 v' ((trimE List.isEmpty ps).map txt)) := by
          have hlk : ((ps.take k).map txt).length = 0 + k := by simp; omega
          rw [HT.out]
          show World.ownsRow _ _ _ _ _ _ _
          rw [hlk]
          simpa using hown'
        have HBW := hide (grown_nil (by simpa [Value.ownBlock] using hgrow))
        clear hown' hgrow hnil hat
        go_wp2_with fail
        go_ret
        exact ⟨_, rfl, HS.out, HBW.out⟩
      · have HD : Hid (decide ((txt (ps[k - 1]'hk1)).size = 0) = true) := by
          rw [HTS.out, List.isEmpty_iff.1 hem]; rfl
        have HA2 : Hid (∀ j (h : j < ps.length), k - 1 ≤ j → (ps[j]).isEmpty = true) := fun j hj h => by
          by_cases e : j = k - 1
          · subst e; exact hem
          · exact HA.out j hj (by omega)
        clear hem
        go_wp2_with fail
        refine (isEmptyText_any _ _).mono ?_
        rintro e w' ⟨rfl, rfl⟩
        rw [HD.out]
        go_wp2_with fail
        go_round
        case rel => exact ⟨k - 1, by omega, by go_num, HA2.out⟩
        case measure => simp [intOf]; omega
    · obtain rfl : k = 0 := by omega
      have HK := hide (keepN_is List.isEmpty ps 0 (Nat.zero_le _) HA.out (fun _ h => absurd h (by omega)))
      have HT : Hid (trimE List.isEmpty ps = []) := by unfold trimE; rw [HK.out]; rfl
      have HS : Hid (SBuf w.heap.size w (.slice none 0 0) ((trimE List.isEmpty ps).map txt)) := by
        rw [HT.out]
        exact World.ownsRow_nil w w.heap.size 9 1
      go_wp2_with fail
      go_ret
      exact ⟨_, rfl, HS.out, Below.refl _ _⟩
end Go.Proofs.YtfcmhnfdbobnlaaGreatDoor.Msg
