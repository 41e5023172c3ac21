import Derived.Test.YtfcmhnfdbobnlaaGreatDoorFlatKitwithFlatAppwithPartsR
import Derived.Deep.RegionHeld3
import Derived.Test.YtfcmhnfdbobnlaaGreatDoorSpecWRpl
import Derived.Test.YtfcmhnfdbobnlaaGreatDoorMsgInjwithSameMsgwithSameMsg2
import Derived.Test.YtfcmhnfdbobnlaaGreatDoorMsgGet
import Derived.Test.YtfcmhnfdbobnlaaGreatDoorNumwithQrySpecwithQryNum
import Derived.Test.YtfcmhnfdbobnlaaGreatDoorQryReadwithImplOkwithTextImpl
namespace Go.Proofs.YtfcmhnfdbobnlaaGreatDoor.Msg
open Go
set_option linter.unusedVariables false
set_option linter.unusedSimpArgs false
section
variable {P : Program} {ops : Array Oper} {Q : Exit → Act → World → Prop} {md : Region.Mode} {S : World → Prop} {n1 : Nat}
/-- in any order, and S is there behind each of the operations ahead of number n1 -/
def wpTwo (P : Program) (md : Region.Mode) (ops : Array Oper) (Q : Exit → Act → World → Prop) (S : World → Prop) (n1 : Nat) : Nat → Array Bool → Act → World → Prop
  | 0, done, a, w => Region.ready md ops done = [] ∧ Q .normal a w
  | f + 1, done, a, w => (Region.ready md ops done = [] → Q .normal a w) ∧ ∀ j ∈ Region.ready md ops done, wpOp P ops Q j (fun b v => (j < n1 → S v) ∧ wpTwo P md ops Q S n1 f (done.setIfInBounds j true) b v) a w
theorem wpTwo_any : ∀ (f : Nat) (done : Array Bool) (a : Act) (w : World), wpTwo P md ops Q S n1 f done a w → wpAny P md ops Q f done a w
  | 0, _, _, _, h => h
  | f + 1, done, a, w, h => ⟨h.1, fun j hj => wpOp_mono (fun b v hv => wpTwo_any f (done.setIfInBounds j true) b v hv.2) (h.2 j hj)⟩
/-- each of the later operations waits for number i -/
def lateWait (md : Region.Mode) (ops : Array Oper) (n1 i : Nat) : Bool := (ops.toList.drop n1).all fun o => o.after.any fun e => Region.binds md e && e.on == i
theorem lateWait_of {i j : Nat} {o : Oper} (h : lateWait md ops n1 i = true) (hj : ops[j]? = some o) (hn : ¬ ∃ e ∈ o.after, Region.binds md e = true ∧ e.on = i) : j < n1 := by
  refine Nat.lt_of_not_le fun hle => hn ?_
  have hm : o ∈ ops.toList.drop n1 := by
    rw [List.mem_iff_getElem?]
    exact ⟨j - n1, by rw [List.getElem?_drop, show n1 + (j - n1) = j by omega, Array.getElem?_toList]; exact hj⟩
  have h1 := List.all_eq_true.1 h o hm
  rw [Array.any_eq_true'] at h1
  obtain ⟨e, he, hb⟩ := h1
  simp only [Bool.and_eq_true, beq_iff_eq] at hb
  exact ⟨e, he, hb.1, hb.2⟩
theorem wpTwo_first {i : Nat} {oi : Oper} {v : Value} (hi : ops[i]? = some oi) (hlate : lateWait md ops n1 i = true) (hsel : ∀ (j : Nat) (o : Oper) cs b, ops[j]? = some o → o.op ≠ .select cs b) (hQ : ∀ c a w, Q (.panic c) (a.put oi.dst v) w → Q (.panic c) a w) :
    ∀ (f : Nat) (done : Array Bool) (a : Act) (w : World),
      (∀ j oj, ops[j]? = some oj → j ≠ i → done.getD j true = false → (∀ e ∈ oj.after, Region.binds md e = true → e.on ≠ i) → oi.apart ops oj = true) →
      i ∈ Region.ready md ops done → YieldsIf P ops S oi v a → S w →
      wpTwo P md ops Q S n1 f (done.setIfInBounds i true) (a.put oi.dst v) w → wpTwo P md ops Q S n1 (f + 1) done a w
  | 0, done, a, w, _, hr, hy, hS, H => by
    refine ⟨fun h => (by rw [h] at hr; cases hr), fun j hj => ?_⟩
    by_cases hji : j = i
    · subst hji
      exact hy.wpOp hi hS ⟨fun _ => hS, H⟩
    · have h1 := ready_mono hj hji
      rw [H.1] at h1
      cases h1
  | f + 1, done, a, w, hfree, hr, hy, hS, H => by
    refine ⟨fun h => (by rw [h] at hr; cases hr), fun j hj => ?_⟩
    by_cases hji : j = i
    · subst hji
      exact hy.wpOp hi hS ⟨fun _ => hS, H⟩
    · have h1 := H.2 j (ready_mono hj hji)
      obtain ⟨hun, oj, hoj, hall⟩ := mem_ready.1 hj
      have hnot : ∀ e ∈ oj.after, Region.binds md e = true → e.on ≠ i := fun e he hb heq => by
        have hd := hall e he hb
        have h0 := (mem_ready.1 hr).1
        rw [heq] at hd
        rcases Nat.lt_or_ge i done.size with h' | h'
        · simp [h'] at h0 hd; rw [h0] at hd; cases hd
        · simp [Array.getElem?_eq_none h'] at hd
      have hjn : j < n1 := lateWait_of hlate hoj fun ⟨e, he, hb, hei⟩ => hnot e he hb hei
      have h2 := wpOp_putIf hoj (hfree j oj hoj hji hun hnot) (fun cs b => hsel i oi cs b hi) (fun cs b => hsel j oj cs b hoj) hQ hy h1
      refine wpOp_mono (fun b u h3 => ?_) h2
      obtain ⟨hyb, hSu, hK⟩ := h3
      refine ⟨hSu, wpTwo_first hi hlate hsel hQ f (done.setIfInBounds j true) b u (fun k ok hk hki hku hno => hfree k ok hk hki ?_ hno) (ready_mono hr (Ne.symm hji)) hyb (hSu hjn) ?_⟩
      · by_cases hjk : j = k
        · subst hjk; exact hun
        · rw [getD_set_ne true hjk] at hku; exact hku
      · rw [Array.setIfInBounds_comm _ _ hji]
        exact hK
theorem wpTwo_take {i : Nat} (d : Option Tmp) {oi : Oper} {v : Value} {f : Nat} {done : Array Bool} {a : Act} {w : World} (hi : ops[i]? = some oi) (hd : oi.dst = d) (hl : lateWait md ops n1 i = true) (hs : Region.noSelect ops = true) (hf : Region.free md ops done i = true) (hr : (Region.ready md ops done).contains i = true)
    (hQ : ∀ c a w, Q (.panic c) (a.put d v) w → Q (.panic c) a w) (hS : S w) (hy : YieldsIf P ops S oi v a)
    (h : wpTwo P md ops Q S n1 f (done.setIfInBounds i true) (a.put d v) w) : wpTwo P md ops Q S n1 (f + 1) done a w := by
  subst hd
  exact wpTwo_first hi hl (Region.noSelect_spec hs) hQ f done a w (Region.free_spec hi hf) (by simpa using hr) hy hS h
theorem wpTwo_one {j : Nat} {o : Oper} {f : Nat} {done : Array Bool} {a : Act} {w : World} (hr : Region.ready md ops done = [j]) (ho : ops[j]? = some o)
    (h : ∀ K : Act → World → Prop, Shut (∀ b v, (j < n1 → S v) → wpTwo P md ops Q S n1 f (done.setIfInBounds j true) b v → K b v) → if Region.wanted o (yielded ops a.tmps) = true then Oper.wp P o a w K Q else K (a.put o.dst undef) w) :
    wpTwo P md ops Q S n1 (f + 1) done a w :=
  ⟨fun h0 => (by rw [hr] at h0; cases h0), fun k hk => by
    rw [hr] at hk
    simp at hk
    subst hk
    exact wpOp_step ho fun K hK => h K fun b v h1 h2 => hK b v ⟨h1, h2⟩⟩
theorem wpTwo_done {done : Array Bool} {a : Act} {w : World} (hr : Region.ready md ops done = []) (h : Q .normal a w) : ∀ f, wpTwo P md ops Q S n1 f done a w
  | 0 => ⟨hr, h⟩
  | _ + 1 => ⟨fun _ => h, by rw [hr]; simp⟩
theorem wp_region_two {id : Nat} {a : Act} {w : World} (S : World → Prop) (n1 : Nat) (hm : P.follows .mixedOrders = true) (h : wpTwo P .any ops Q S n1 ops.size (Array.replicate ops.size false) a w.drew) : (Code.region id ops true).wp P Q a w :=
  wp_region_any hm (wpTwo_any _ _ _ _ h)
end
end Go.Proofs.YtfcmhnfdbobnlaaGreatDoor.Msg

namespace Go.Proofs.YtfcmhnfdbobnlaaGreatDoor.Msg
open Go.ChangeShapes Go.WideShapes Go.ChangeAt Go.RowKit
set_option linter.unusedVariables false
set_option linter.unusedSimpArgs false

/-! ReadReply of the specification -/
def rdtB (s : Seg) : Bool := s.name.toList == [82, 68, 84]
def rowsOf (xs : List Seg) : List ByteArray := (xs.filter rdtB).map fun s => getFrom [s] ⟨#[82, 68, 84]⟩ 1 1
theorem rowsOf_yes {xs : List Seg} {k : Nat} (h : k < xs.length) (hb : rdtB xs[k] = true) : rowsOf (xs.take (k + 1)) = rowsOf (xs.take k) ++ [getFrom [xs[k]] ⟨#[82, 68, 84]⟩ 1 1] := by
  unfold rowsOf
  rw [List.take_succ_eq_append_getElem h, List.filter_append, List.map_append]
  simp [hb]
theorem rowsOf_no {xs : List Seg} {k : Nat} (h : k < xs.length) (hb : rdtB xs[k] = false) : rowsOf (xs.take (k + 1)) = rowsOf (xs.take k) := by
  unfold rowsOf
  rw [List.take_succ_eq_append_getElem h, List.filter_append, List.map_append]
  simp [hb]
theorem rowsOf_len (xs : List Seg) : (rowsOf xs).length ≤ xs.length := by unfold rowsOf; rw [List.length_map]; exact List.length_filter_le _ _
theorem rowsOf_sz {xs : List Seg} (h : msgSz xs ≤ 1048576) : ∀ s ∈ rowsOf xs, s.size ≤ 1048576 := fun s hs => by
  unfold rowsOf at hs
  rw [List.mem_map] at hs
  obtain ⟨x, hx, rfl⟩ := hs
  have h1 := getFrom_sz [x] ⟨#[82, 68, 84]⟩ 1 1
  have h2 := mem_le segSz xs x ((List.mem_filter.1 hx).1)
  have h3 : msgSz [x] = 1 + segSz x := by simp [msgSz, lenSum, sumOf]
  unfold msgSz lenSum at h
  have h4 : 0 < xs.length := List.length_pos_of_mem ((List.mem_filter.1 hx).1)
  omega
def looseS (xs : List Seg) : Rpl := ⟨getFrom xs ⟨#[77, 83, 65]⟩ 1 1, getFrom xs ⟨#[77, 83, 65]⟩ 2 1, if aAA (getFrom xs ⟨#[77, 83, 65]⟩ 1 1) then 0 else numS (getFrom xs ⟨#[69, 82, 82]⟩ 3 1).data.toList, getFrom xs ⟨#[81, 65, 75]⟩ 1 1, rowsOf xs, getFrom xs ⟨#[68, 83, 67]⟩ 1 1⟩
def rpl0 : Rpl := ⟨⟨#[]⟩, ⟨#[]⟩, 0, ⟨#[]⟩, [], ⟨#[]⟩⟩
open Classical in
noncomputable def readS (xs : List Seg) : Rpl × Bool := if rplM (looseS xs) ≠ [] ∧ rplM (looseS xs) = xs then (looseS xs, true) else (rpl0, false)
open Classical in
theorem readS_yes {xs : List Seg} (h1 : rplM (looseS xs) ≠ []) (h2 : rplM (looseS xs) = xs) : readS xs = (looseS xs, true) := if_pos ⟨h1, h2⟩
open Classical in
theorem readS_no {xs : List Seg} (h : ¬ (rplM (looseS xs) ≠ [] ∧ rplM (looseS xs) = xs)) : readS xs = (rpl0, false) := if_neg h
/-- a reply that can be read -/
def RplPost (w : World) (p : Rpl × Bool) (e : Ending) (w' : World) : Prop := ∃ u, e = .returned (.tuple #[rplV p.1 u, .bool p.2]) ∧ StrsAt 0 w' u p.1.rows ∧ Below w.heap.size w w'

def strC (s : ByteArray) : List Value := [.string s]
theorem strC_one : ∀ (x : ByteArray), ∀ u ∈ strC x, u.oneCell' = true := fun x u hu => by rw [List.mem_singleton.1 hu]; rfl
theorem fb_strs {base : Nat} {w : World} {v : Value} {xs : List ByteArray} (h : FB strC 1 9 base w v xs) (hl : xs.length ≤ 9223372036854775807) (hz : ∀ s ∈ xs, s.size ≤ 9223372036854775807) : StrsAt base w v xs := by
  obtain ⟨h0, hA⟩ := FB.at (C := strC) (c := 1) (Z := fun s : ByteArray => s.size ≤ 9223372036854775807) (fun _ => rfl) h hl (fun i hi => hz _ (List.getElem_mem hi))
  refine ⟨h0, ?_⟩
  rcases hA with hA | ⟨b, off, cap, e, hb, hA⟩
  · exact .inl hA
  · exact .inr ⟨b, off, cap, e, hb, fun i hi => ⟨by simpa [strC] using (hA i hi).1 0 (by simp [strC]), (hA i hi).2⟩⟩
theorem rdt_sz {s : Seg} (h : rdtB s = true) : 3 ≤ segSz s := by
  have h1 : s.name.size = 3 := by rw [← toList_size]; unfold rdtB at h; rw [eq_of_beq h]; rfl
  unfold segSz
  omega
theorem rdt_count : ∀ xs : List Seg, 4 * (xs.filter rdtB).length ≤ lenSum segSz xs
  | [] => by simp [lenSum, sumOf]
  | x :: xs => by
    have ih := rdt_count xs
    have e : lenSum segSz (x :: xs) = lenSum segSz xs + 1 + segSz x := by simp [lenSum, sumOf]; omega
    cases h : rdtB x
    · simp only [List.filter_cons, h, Bool.false_eq_true, if_false]; omega
    · have := rdt_sz h
      simp only [List.filter_cons, h, if_true, List.length_cons]; omega
theorem rows_count {xs : List Seg} (h : msgSz xs ≤ 1048576) (k : Nat) : (rowsOf (xs.take k)).length ≤ 262144 := by
  have h1 := rdt_count (xs.take k)
  have h2 := sum_le segSz xs k
  have h3 := List.length_take_le k xs
  have h4 : (rowsOf (xs.take k)).length = ((xs.take k).filter rdtB).length := by unfold rowsOf; rw [List.length_map]
  unfold msgSz lenSum at h
  unfold lenSum at h1
  have h5 : (xs.take k).length ≤ xs.length := by rw [List.length_take]; omega
  omega
theorem Below.al2 {B : Nat} {w X : World} {o : Obj} (h : Below B w X) (hs : B ≤ w.heap.size) : Below B w (X.alloc o) := h.alloc (Nat.le_trans hs h.size) o
theorem Below.st2 {B : Nat} {w X : World} {b o : Nat} {v : Value} (h : Below B w X) (hb : B ≤ b) : Below B w (X.setCell ⟨b, o, none⟩ v) := h.setCell hb v
theorem rb6 {W : World} {b : Nat} {t : TypeId} {y0 y1 y2 y3 y4 y5 : Value} (h : Box W b t #[y0, y1, y2, y3, y4, y5]) {G : Prop}
    (k : Box W b t #[y0, y1, y2, y3, y4, y5] → (W.cell? ⟨b, 0, none⟩ = some y0 ∧ W.cell? ⟨b, 1, none⟩ = some y1 ∧ W.cell? ⟨b, 2, none⟩ = some y2 ∧ W.cell? ⟨b, 3, none⟩ = some y3 ∧ W.cell? ⟨b, 4, none⟩ = some y4 ∧ W.cell? ⟨b, 5, none⟩ = some y5) ∧ W.frozen? ⟨b, 0, none⟩ = false ∧ W.frozen? ⟨b, 1, none⟩ = false ∧ W.frozen? ⟨b, 2, none⟩ = false ∧ W.frozen? ⟨b, 3, none⟩ = false ∧ W.frozen? ⟨b, 4, none⟩ = false ∧ W.frozen? ⟨b, 5, none⟩ = false → G) : G :=
  k h ⟨⟨h.cell 0 (by simp), h.cell 1 (by simp), h.cell 2 (by simp), h.cell 3 (by simp), h.cell 4 (by simp), h.cell 5 (by simp)⟩, h.frozen 0, h.frozen 1, h.frozen 2, h.frozen 3, h.frozen 4, h.frozen 5⟩
theorem Box.fill6 {W : World} {b : Nat} {t : TypeId} {y0 y1 y2 y3 y4 y5 : Value} (h : Box W b t #[y0, y1, y2, y3, y4, y5]) (x0 x1 x2 x3 x4 x5 : Value) :
    Box ((((((W.setCell ⟨b, 0, none⟩ x0).setCell ⟨b, 1, none⟩ x1).setCell ⟨b, 2, none⟩ x2).setCell ⟨b, 3, none⟩ x3).setCell ⟨b, 4, none⟩ x4).setCell ⟨b, 5, none⟩ x5) b t #[x0, x1, x2, x3, x4, x5] := by
  have := (((((h.set 0 x0).set 1 x1).set 2 x2).set 3 x3).set 4 x4).set 5 x5
  simpa using this
theorem below_fill6 {B : Nat} {w X : World} {b : Nat} (h : Below B w X) (hb : B ≤ b) (x0 x1 x2 x3 x4 x5 : Value) :
    Below B w ((((((X.setCell ⟨b, 0, none⟩ x0).setCell ⟨b, 1, none⟩ x1).setCell ⟨b, 2, none⟩ x2).setCell ⟨b, 3, none⟩ x3).setCell ⟨b, 4, none⟩ x4).setCell ⟨b, 5, none⟩ x5) :=
  Below.st2 (Below.st2 (Below.st2 (Below.st2 (Below.st2 (Below.st2 h hb) hb) hb) hb) hb) hb
/-- the reply's box, made behind W0 -/
def RB (W0 X : World) (M : Nat) (cs : Array Value) : Prop := Box X M 28 cs ∧ Below W0.heap.size W0 X ∧ W0.heap.size ≤ M
theorem RB.late {W0 X : World} {cs : Array Value} (h : Below W0.heap.size W0 X) : RB W0 (X.alloc (.cells cs 28)) X.heap.size cs := ⟨Box.new _ _ _, h.alloc h.size _, h.size⟩
theorem RB.early {W0 X : World} {M : Nat} {y0 y1 y2 y3 y4 y5 : Value} (h : Box X M 28 #[y0, y1, y2, y3, y4, y5]) (hb : Below W0.heap.size W0 X) (hM : W0.heap.size ≤ M) (x0 x1 x2 x3 x4 x5 : Value) :
    RB W0 ((((((X.setCell ⟨M, 0, none⟩ x0).setCell ⟨M, 1, none⟩ x1).setCell ⟨M, 2, none⟩ x2).setCell ⟨M, 3, none⟩ x3).setCell ⟨M, 4, none⟩ x4).setCell ⟨M, 5, none⟩ x5) M #[x0, x1, x2, x3, x4, x5] :=
  ⟨h.fill6 _ _ _ _ _ _, (((((hb.setCell (p := ⟨M, 0, none⟩) hM _).setCell (p := ⟨M, 1, none⟩) hM _).setCell (p := ⟨M, 2, none⟩) hM _).setCell (p := ⟨M, 3, none⟩) hM _).setCell (p := ⟨M, 4, none⟩) hM _).setCell (p := ⟨M, 5, none⟩) hM _, hM⟩
end Go.Proofs.YtfcmhnfdbobnlaaGreatDoor.Msg

namespace Go.Proofs.YtfcmhnfdbobnlaaGreatDoor.Msg
open Go.ChangeShapes Go.WideShapes Go.ChangeAt Go.RowKit
set_option linter.unusedVariables false
set_option linter.unusedSimpArgs false

/-! newWord and newSegment, with the blocks of what they give -/
theorem newWordO (s : ByteArray) (W : World) (hs : s.size ≤ 1048576) :
    Calls Tryz.prog 151 #[.string s] W fun e w' => ∃ a c, e = .returned (.agg #[.slice a (wordF s).length c]) ∧ ∃ bs, OReps w' (.slice a (wordF s).length c) (wordF s) bs ∧ (∀ b ∈ bs, W.heap.size ≤ b ∧ b < w'.heap.size) ∧ Below W.heap.size W w' := by
  refine (newWord_any s W hs).mono ?_
  rintro e w' ⟨u, rfl, bs, hO, hn, hf, hb⟩
  obtain ⟨a, c, rfl⟩ := form_reps hO
  exact ⟨a, c, rfl, bs, hO, fun b h => ⟨hf b h, OAt.lt ltO_rep hO b h⟩, hb⟩
theorem newSegP (name : ByteArray) (vs : List Value) (xs : List Field) (bss : List (List Nat)) (B : Nat) (W : World) (hbox : Box W B 60 vs.toArray) (hlen : vs.length = xs.length) (hlb : bss.length = xs.length) (hx : ∀ i (h : i < xs.length) (h1 : i < vs.length) (h2 : i < bss.length), OReps W vs[i] xs[i] bss[i]) (hp : 0 < vs.length) (hl : vs.length ≤ 100) (hz : ∀ x ∈ xs, x.length ≤ 1048576) (n : Nat) (hn : n = vs.length) :
    Calls Tryz.prog 150 #[.string name, .slice (some ⟨B, 0, none⟩) n n] W fun e w' => ∃ a c, e = .returned (.agg #[.string name, .slice a (trimE List.isEmpty xs).length c]) ∧ ∃ bs, OFields w' (.slice a (trimE List.isEmpty xs).length c) (trimE List.isEmpty xs) bs ∧ (∀ b ∈ bs, b < w'.heap.size ∧ (W.heap.size ≤ b ∨ b ∈ bss.flatten)) ∧ Below W.heap.size W w' := by
  subst hn
  have hL : Lens vs xs := ⟨hlen, fun i h h2 => form_reps (hx i h2 h (by omega))⟩
  refine (newSegment_any (β := Rep) name xs vs B _ _ (own_box hbox (by omega)) hL (fun h => by omega) (by omega) (fun x hx => by have := hz x hx; omega)).mono ?_
  rintro e w' ⟨u, rfl, hu, hb⟩
  have hk := keepN_le List.isEmpty xs
  obtain ⟨m, hm⟩ : ∃ m, keepN List.isEmpty xs = m := ⟨_, rfl⟩
  have hT : trimE List.isEmpty xs = xs.take m := by unfold trimE; rw [hm]
  rw [hm] at hu hk
  have hA : ∃ bs, OFields w' u (xs.take m) bs ∧ ∀ b ∈ bs, b < w'.heap.size ∧ (W.heap.size ≤ b ∨ b ∈ bss.flatten) := by
    have hlen' : (vs.take m).length = m := by rw [List.length_take]; omega
    have hlx : (xs.take m).length = m := by rw [List.length_take]; omega
    have hlb' : (bss.take m).length = m := by rw [List.length_take]; omega
    have hu' : w'.ownsRow W.heap.size 60 1 u (vs.take m).length (vs.take m) := by rw [hlen']; exact hu
    obtain ⟨h0, rfl⟩ | ⟨g, cap, rfl, hg, hlt, hc⟩ := own_cells hu'
    · have m0 : m = 0 := by rw [← hlen', h0]; rfl
      subst m0
      exact ⟨[], ⟨by simp, .inl ⟨none, 0, rfl, by simp, rfl⟩⟩, by simp⟩
    · have hO : OFields w' (.slice (some ⟨g, 0, none⟩) (vs.take m).length cap) (xs.take m) (g :: (bss.take m).flatten) := by
        refine ⟨by omega, .inr ⟨g, 0, cap, bss.take m, by rw [hlen', hlx], hlt, rfl, by omega, fun i hi h2 => ?_⟩⟩
        have hix : i < xs.length := by omega
        have := (hc i (by omega)).1
        rw [List.getElem_take] at this
        rw [List.getElem_take, List.getElem_take]
        have hOi := hx i hix (by omega) (by omega)
        exact ⟨vs[i]'(by omega), by simpa using this, OAt.kept keptO_rep hOi hb.size fun d hd => hb.block d (OAt.lt ltO_rep hOi d hd)⟩
      refine ⟨_, hO, fun b hb' => ⟨OAt.lt ltO_field hO b hb', ?_⟩⟩
      rw [List.mem_cons] at hb'
      rcases hb' with rfl | hb'
      · exact .inl hg
      · right
        rw [show bss.flatten = (bss.take m).flatten ++ (bss.drop m).flatten by rw [← List.flatten_append, List.take_append_drop]]
        exact List.mem_append_left _ hb'
  obtain ⟨bs, hO, hbs⟩ := hA
  rw [← hT] at hO
  obtain ⟨a, c, rfl⟩ := form_fields hO
  exact ⟨a, c, rfl, bs, hO, hbs, hb⟩
theorem newSegP1 (name : ByteArray) (u1 : Value) (f1 : Field) (b1 : List Nat) (B : Nat) (W : World) (hbox : Box W B 60 #[u1]) (h1 : OReps W u1 f1 b1) (z1 : f1.length ≤ 1) :
    Calls Tryz.prog 150 #[.string name, .slice (some ⟨B, 0, none⟩) 1 1] W fun e w' => ∃ a c, e = .returned (.agg #[.string name, .slice a (trimE List.isEmpty [f1]).length c]) ∧ ∃ bs, OFields w' (.slice a (trimE List.isEmpty [f1]).length c) (trimE List.isEmpty [f1]) bs ∧ (∀ b ∈ bs, b < w'.heap.size ∧ (W.heap.size ≤ b ∨ b ∈ b1)) ∧ Below W.heap.size W w' :=
  (newSegP name [u1] [f1] [b1] B W hbox rfl rfl (fun i h _ _ => by
    match i, h with
    | 0, _ => exact h1) (by simp) (by simp) (fun x hx => by rw [List.mem_singleton.1 hx]; omega) 1 rfl).mono fun e w' h => by
      obtain ⟨a, c, he, bs, hO, hbs, hb⟩ := h
      exact ⟨a, c, he, bs, hO, fun b hb' => by simpa using hbs b hb', hb⟩
theorem newSegP2 (name : ByteArray) (u1 u2 : Value) (f1 f2 : Field) (b1 b2 : List Nat) (B : Nat) (W : World) (hbox : Box W B 60 #[u1, u2]) (h1 : OReps W u1 f1 b1) (h2 : OReps W u2 f2 b2) (z1 : f1.length ≤ 1) (z2 : f2.length ≤ 1) :
    Calls Tryz.prog 150 #[.string name, .slice (some ⟨B, 0, none⟩) 2 2] W fun e w' => ∃ a c, e = .returned (.agg #[.string name, .slice a (trimE List.isEmpty [f1, f2]).length c]) ∧ ∃ bs, OFields w' (.slice a (trimE List.isEmpty [f1, f2]).length c) (trimE List.isEmpty [f1, f2]) bs ∧ (∀ b ∈ bs, b < w'.heap.size ∧ (W.heap.size ≤ b ∨ b ∈ b1 ∨ b ∈ b2)) ∧ Below W.heap.size W w' :=
  (newSegP name [u1, u2] [f1, f2] [b1, b2] B W hbox rfl rfl (fun i h _ _ => by
    match i, h with
    | 0, _ => exact h1
    | 1, _ => exact h2) (by simp) (by simp) (fun x hx => by
      simp only [List.mem_cons, List.not_mem_nil, or_false] at hx
      rcases hx with rfl | rfl <;> omega) 2 rfl).mono fun e w' h => by
      obtain ⟨a, c, he, bs, hO, hbs, hb⟩ := h
      exact ⟨a, c, he, bs, hO, fun b hb' => by simpa using hbs b hb', hb⟩
theorem newHeadO (s1 s2 ctl : ByteArray) (a : Option Addr) (c : Nat) (bk : List Nat) (lo : Nat) (W : World) (hk : OStrs W (.slice a 2 c) [s1, s2] bk) (hnd : bk.Nodup) (hb : ∀ b ∈ bk, lo ≤ b) (hlo : lo ≤ W.heap.size) (hctl : ctl.size ≤ 1048576) :
    Calls Tryz.prog 148 #[.agg #[.slice a 2 c], .string ctl] W fun e w' => ∃ a' c', e = .returned (.agg #[.string ⟨#[77, 83, 72]⟩, .slice a' (headF [s1, s2] ctl).length c']) ∧ ∃ bs, OFields w' (.slice a' (headF [s1, s2] ctl).length c') (headF [s1, s2] ctl) bs ∧ (∀ b ∈ bs, b < w'.heap.size ∧ (W.heap.size ≤ b ∨ b ∈ bk)) ∧ Below W.heap.size W w' := by
  refine (newHeader_any [s1, s2] ctl _ bk lo W hk (by simp) (by simp) hnd (fun b h => ⟨hb b h, OAt.lt ltO_str hk b h⟩) hlo hctl).mono ?_
  rintro e w' ⟨u, rfl, bs, hO, hn, hf, hb'⟩
  obtain ⟨a', c', rfl⟩ := form_fields hO
  exact ⟨a', c', rfl, bs, hO, fun b h => (hf b h).2, hb'⟩
theorem keepRO {W W' : World} {v : Value} {x : Field} {bs : List Nat} (h : OReps W v x bs) (hb : Below W.heap.size W W') : OReps W' v x bs := OAt.kept keptO_rep h hb.size fun d hd => hb.block d (OAt.lt ltO_rep h d hd)
theorem keepFO {W W' : World} {v : Value} {x : List Field} {bs : List Nat} (h : OFields W v x bs) (hb : Below W.heap.size W W') : OFields W' v x bs := OAt.kept keptO_field h hb.size fun d hd => hb.block d (OAt.lt ltO_field h d hd)
theorem keepSO {W W' : World} {v : Value} {x : List ByteArray} {bs : List Nat} (h : OStrs W v x bs) (hb : Below W.heap.size W W') : OStrs W' v x bs := OAt.kept keptO_str h hb.size fun d hd => hb.block d (OAt.lt ltO_str h d hd)

/-! a list of segments that a box at M holds and that grows by append, to be read -/
abbrev QS := Seg × (Option Addr × Nat)
def qV (p : QS) : Value := .slice p.2.1 p.1.fields.length p.2.2
def qC (p : QS) : List Value := [.string p.1.name, .slice p.2.1 p.1.fields.length p.2.2]
theorem qC_len (p : QS) : (qC p).length = 2 := rfl
theorem qC_one : ∀ (p : QS), ∀ u ∈ qC p, u.oneCell' = true := fun p u hu => by
  simp only [qC, List.mem_cons, List.not_mem_nil, or_false] at hu
  rcases hu with rfl | rfl <;> rfl
structure MRow (base M : Nat) (w : World) (v : Value) (ps : List QS) : Prop where
  row : FB qC 2 45 base w v ps
  own : v.ownBlock ≠ some M
  nm : ∀ p ∈ ps, p.1.name.size ≤ 9223372036854775807
  el : ∀ p ∈ ps, ∃ bs, OFields w (qV p) p.1.fields bs ∧ ∀ b ∈ bs, base ≤ b ∧ b ≠ M ∧ v.ownBlock ≠ some b
theorem MRow.keep {base M : Nat} {w w' : World} {v : Value} {ps : List QS} (h : MRow base M w v ps) (hs : w.heap.size ≤ w'.heap.size) (hb : ∀ b, base ≤ b → b < w.heap.size → b ≠ M → w'.heap[b]? = w.heap[b]?) : MRow base M w' v ps :=
  ⟨h.row.keep fun b hb' => hb b (h.row.own b hb').1 (h.row.own b hb').2 (fun e => h.own (by subst e; simpa using hb')), h.own, h.nm, fun p hp => by
    obtain ⟨bs, hO, hbs⟩ := h.el p hp
    exact ⟨bs, OAt.kept keptO_field hO hs fun d hd => hb d (hbs d hd).1 (OAt.lt ltO_field hO d hd) (hbs d hd).2.1, hbs⟩⟩
theorem MRow.below {base M : Nat} {w w' : World} {v : Value} {ps : List QS} (h : MRow base M w v ps) (hb : Below w.heap.size w w') : MRow base M w' v ps := h.keep hb.size fun b _ h1 _ => hb.block b h1
theorem MRow.set {base M o : Nat} {w : World} {v : Value} {ps : List QS} (h : MRow base M w v ps) (x : Value) : MRow base M (w.setCell ⟨M, o, none⟩ x) v ps :=
  h.keep (by rw [Deep.nblk_setCell]; exact Nat.le_refl _) fun b _ _ hne => Deep.blk_setCell_other _ ⟨M, o, none⟩ _ b hne
theorem MRow.low {base M b o : Nat} {w : World} {v : Value} {ps : List QS} (h : MRow base M w v ps) (hb : b < base) (x : Value) : MRow base M (w.setCell ⟨b, o, none⟩ x) v ps :=
  h.keep (by rw [Deep.nblk_setCell]; exact Nat.le_refl _) fun d h1 _ _ => Deep.blk_setCell_other _ ⟨b, o, none⟩ _ d (by dsimp only; omega)
theorem MRow.segs {base M : Nat} {w : World} {v : Value} {ps : List QS} (h : MRow base M w v ps) (hl : ps.length ≤ 9223372036854775807) : SegsAt base w v (ps.map Prod.fst) := by
  obtain ⟨h0, hA⟩ := FB.at (C := qC) (c := 2) (Z := fun _ => True) qC_len h.row hl (fun i hi => trivial)
  refine ⟨by rw [List.length_map]; exact h0, ?_⟩
  rcases hA with ⟨a, cap, e, e2⟩ | ⟨b, off, cap, e, hb, hA⟩
  · exact .inl ⟨a, cap, e, by rw [e2]; rfl⟩
  · refine .inr ⟨b, off, cap, by rw [List.length_map]; exact e, hb, fun i hi => ?_⟩
    have hi' : i < ps.length := by rw [List.length_map] at hi; exact hi
    rw [List.getElem_map]
    have h1 := (hA i hi').1
    obtain ⟨bs, hO, hbs⟩ := h.el ps[i] (List.getElem_mem hi')
    refine ⟨by simpa [qC] using h1 0 (by simp [qC]), h.nm _ (List.getElem_mem hi'), qV ps[i], by simpa [qC, qV] using h1 1 (by simp [qC]), OAt.toAt toAt_field hO fun d hd => (hbs d hd).1⟩
/-- one segment more: the append's run -/
theorem MRow.push {base M : Nat} {w : World} {v : Value} {ps : List QS} (h : MRow base M w v ps) (hb : base ≤ w.heap.size) (hM : M < w.heap.size) (hl : ps.length ≤ 1000000) (p : QS) (hn : p.1.name.size ≤ 9223372036854775807) {bs : List Nat} (hO : OFields w (qV p) p.1.fields bs) (hbs : ∀ b ∈ bs, base ≤ b ∧ b ≠ M ∧ v.ownBlock ≠ some b) (ty : TypeId) :
    ∃ v' w', (Builtin.append_ #[31, 31] ty #[v, .slice (some ⟨w.heap.size, 0, none⟩) 1 1]).run Tryz.prog (w.alloc (.cells (qC p).toArray 45)) = .ok v' w' ∧ MRow base M w' v' (ps ++ [p]) ∧ Only v.ownBlock.toList w w' := by
  obtain ⟨v', w', hr, hF, hOn, hat⟩ := app1 (C := qC) (c := 2) (bytes := 40) (z := .agg #[.string ByteArray.empty, .slice none 0 0]) Tryz.underlying31 info_Seg2 rfl (by decide) qC_len qC_one h.row ty p hb hl (by decide)
  have hne : ∀ b, b < w.heap.size → v.ownBlock ≠ some b → v'.ownBlock ≠ some b := fun b hlt h1 e => by
    rcases hat with ha | ⟨g, ha, hg⟩
    · exact h1 (ha.symm.trans e)
    · rw [ha] at e; injection e with e; omega
  refine ⟨v', w', hr, ⟨hF, hne M hM h.own, fun q hq => ?_, fun q hq => ?_⟩, hOn⟩
  · rcases List.mem_append.1 hq with hq | hq
    · exact h.nm q hq
    · rw [List.mem_singleton.1 hq]; exact hn
  · have key : ∀ (q : QS) (cs : List Nat), OFields w (qV q) q.1.fields cs → (∀ b ∈ cs, base ≤ b ∧ b ≠ M ∧ v.ownBlock ≠ some b) → ∃ bs, OFields w' (qV q) q.1.fields bs ∧ ∀ b ∈ bs, base ≤ b ∧ b ≠ M ∧ v'.ownBlock ≠ some b := fun q cs hq hcs =>
      ⟨cs, OAt.kept keptO_field hq hOn.size fun d hd => hOn.block d (OAt.lt ltO_field hq d hd) (fun hm => (hcs d hd).2.2 (by simpa using hm)), fun b hb' => ⟨(hcs b hb').1, (hcs b hb').2.1, hne b (OAt.lt ltO_field hq b hb') (hcs b hb').2.2⟩⟩
    rcases List.mem_append.1 hq with hq | hq
    · obtain ⟨cs, h1, h2⟩ := h.el q hq
      exact key q cs h1 h2
    · rw [List.mem_singleton.1 hq]; exact key p bs hO hbs
theorem MRow.form {base M : Nat} {w : World} {v : Value} {ps : List QS} (h : MRow base M w v ps) : ∃ a c, v = .slice a ps.length c := by
  obtain ⟨a, c, e, _⟩ := h.row.form
  exact ⟨a, c, e⟩
/-- three segments, laid by a literal -/
theorem MRow.three {base M B : Nat} {W : World} {p q r : QS} (hlo : base ≤ B) (hBM : B ≠ M) (hbox : Box W B 45 #[.string p.1.name, qV p, .string q.1.name, qV q, .string r.1.name, qV r]) (hn : p.1.name.size ≤ 9223372036854775807 ∧ q.1.name.size ≤ 9223372036854775807 ∧ r.1.name.size ≤ 9223372036854775807)
    {b1 b2 b3 : List Nat} (h1 : OFields W (qV p) p.1.fields b1) (h2 : OFields W (qV q) q.1.fields b2) (h3 : OFields W (qV r) r.1.fields b3) (k1 : ∀ b ∈ b1, base ≤ b ∧ b ≠ M ∧ b ≠ B) (k2 : ∀ b ∈ b2, base ≤ b ∧ b ≠ M ∧ b ≠ B) (k3 : ∀ b ∈ b3, base ≤ b ∧ b ≠ M ∧ b ≠ B) :
    MRow base M W (.slice (some ⟨B, 0, none⟩) 3 3) [p, q, r] := by
  refine ⟨⟨rfl, .inr ⟨B, 3, _, rfl, hlo, hbox, Nat.le_refl _, by unfold maxLen; omega, rfl, rfl⟩⟩, by simp [Value.ownBlock]; exact hBM, fun s hs => ?_, fun s hs => ?_⟩
  · simp only [List.mem_cons, List.not_mem_nil, or_false] at hs
    rcases hs with rfl | rfl | rfl
    · exact hn.1
    · exact hn.2.1
    · exact hn.2.2
  · simp only [List.mem_cons, List.not_mem_nil, or_false] at hs
    have key : ∀ {bs : List Nat}, (∀ b ∈ bs, base ≤ b ∧ b ≠ M ∧ b ≠ B) → ∀ b ∈ bs, base ≤ b ∧ b ≠ M ∧ (Value.slice (some ⟨B, 0, none⟩) 3 3).ownBlock ≠ some b := fun h b hb => ⟨(h b hb).1, (h b hb).2.1, by simp [Value.ownBlock]; exact fun e => (h b hb).2.2 e.symm⟩
    rcases hs with rfl | rfl | rfl
    · exact ⟨b1, h1, key k1⟩
    · exact ⟨b2, h2, key k2⟩
    · exact ⟨b3, h3, key k3⟩
end Go.Proofs.YtfcmhnfdbobnlaaGreatDoor.Msg
