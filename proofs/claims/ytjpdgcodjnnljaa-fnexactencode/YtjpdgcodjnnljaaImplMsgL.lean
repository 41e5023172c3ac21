import Derived.Test.YtjpdgcodjnnljaaImplSegW
import Derived.Test.YtjpdgcodjnnljaaImplSegIn
import Derived.Test.YtjpdgcodjnnljaaMsgEncode
namespace Go.Proofs.Ytjpdgcodjnnljaa.Msg
set_option linter.unusedVariables false
set_option linter.unusedSimpArgs false

def small (c : ByteArray) : Bool := decide (c.size ≤ 40000)
def repSmall (r : Rep) : Bool := r.all small
def fieldSmall (f : Field) : Bool := f.all repSmall
def segSmall (x : Seg) : Bool := x.fields.all fieldSmall

theorem all_and {α : Type} (p q r : α → Bool) (h : ∀ x, p x = (q x && r x)) : ∀ xs : List α, xs.all p = (xs.all q && xs.all r)
  | [] => rfl
  | x :: xs => by
    rw [List.all_cons, List.all_cons, List.all_cons, all_and p q r h xs, h x]
    cases q x <;> cases r x <;> cases xs.all q <;> rfl
theorem repI_eq (r : Rep) : repI r = (repB r && repSmall r) := by
  have h := all_and compI plainB small (fun c => by unfold compI small; exact Bool.and_comm _ _) r
  unfold repI repB repSmall csB
  rw [h]
  cases decide (r.length ≤ 20) <;> cases endB ByteArray.size r <;> rfl
theorem fieldI_eq (f : Field) : fieldI f = (fieldB f && fieldSmall f) := by
  have h := all_and repI repB repSmall repI_eq f
  unfold fieldI fieldB fieldSmall csB
  rw [h]
  cases decide (f.length ≤ 30) <;> cases endB List.length f <;> rfl
theorem segI_eq (x : Seg) (b : Bool) (hb : mshB x.name = b) : segI x = (segB b x && segSmall x) := by
  have h := all_and fieldI fieldB fieldSmall fieldI_eq x.fields
  unfold segI segB segSmall csB
  rw [h, hb]
  cases nameB x.name <;> cases decide (x.fields.length ≤ 30) <;> cases endB List.length x.fields <;> simp

theorem joined_ge {α : Type} (sep : UInt8) (f : α → List UInt8) (xs : List α) (x : α) (h : x ∈ xs) : (f x).length ≤ (joined sep f xs).length := by
  obtain ⟨k, hk, rfl⟩ := List.getElem_of_mem h
  have := joined_room sep f xs k hk
  omega
theorem fieldsW_ge (xs : List Field) (x : Field) (h : x ∈ xs) : (fieldW x).length ≤ (fieldsW xs).length := by
  obtain ⟨k, hk, rfl⟩ := List.getElem_of_mem h
  have := fieldsW_room xs k hk
  omega
theorem seg_long (x : Seg) (i : Nat) (h : segSmall x = false) : 40000 < (segW i x).length := by
  unfold segSmall at h
  rw [List.all_eq_false] at h
  obtain ⟨f, hf, h⟩ := h
  have h : fieldSmall f = false := by simpa using h
  unfold fieldSmall at h
  rw [List.all_eq_false] at h
  obtain ⟨r, hr, h⟩ := h
  have h : repSmall r = false := by simpa using h
  unfold repSmall at h
  rw [List.all_eq_false] at h
  obtain ⟨c, hc, h⟩ := h
  have h : small c = false := by simpa using h
  unfold small at h
  have h : ¬ c.size ≤ 40000 := of_decide_eq_false h
  have h1 := escs_ge c.data.toList
  have h2 : c.data.toList.length = c.size := by simp
  have h3 := joined_ge 94 (fun c : ByteArray => escs c.data.toList) r c hc
  have h4 := joined_ge 126 repW f r hr
  have h5 := fieldsW_ge x.fields f hf
  have h6 : (repW r).length = (joined 94 (fun c : ByteArray => escs c.data.toList) r).length := rfl
  have h7 : (fieldW f).length = (joined 126 repW f).length := rfl
  unfold segW
  simp only [List.length_append]
  omega
theorem segW_eq (x : Seg) (k : Nat) (h : mshB x.name = (k == 0)) : segWI x = segW k x := by
  unfold segWI segW dm
  rw [h]
  by_cases hk : k = 0
  · subst hk; rfl
  · rw [if_neg hk, if_neg (by simp [hk])]

/-- the segment in its place, as the program asks -/
def placeB (k : Nat) (x : Seg) : Bool := (mshB x.name == (k == 0)) && segI x
theorem placeB_eq (k : Nat) (x : Seg) : placeB k x = (segB (k == 0) x && segSmall x) := by
  unfold placeB
  by_cases h : mshB x.name = (k == 0)
  · rw [segI_eq x _ h, h, beq_self_eq_true, Bool.true_and]
  · have h1 : (mshB x.name == (k == 0)) = false := by rw [beq_eq_false_iff_ne]; exact h
    unfold segB
    rw [h1]
    simp
/-- the first k segments are in their places -/
def Places (xs : List Seg) (k : Nat) : Prop := ∀ j (h : j < xs.length), j < k → placeB j xs[j] = true
theorem Places.step {xs : List Seg} {k : Nat} (h : Places xs k) (hk : k < xs.length) (hp : placeB k xs[k] = true) : Places xs (k + 1) := fun j hj h2 => by
  by_cases e : j = k
  · subst e; exact hp
  · exact h j hj (by omega)
def msgWI (xs : List Seg) : List UInt8 := xs.flatMap segWI
theorem msgWI_snoc (xs : List Seg) (k : Nat) (h : k < xs.length) : msgWI (xs.take (k + 1)) = msgWI (xs.take k) ++ segWI xs[k] := by
  unfold msgWI
  rw [List.take_succ_eq_append_getElem h, List.flatMap_append]
  simp
theorem place_msh {k : Nat} {x : Seg} (h : placeB k x = true) : mshB x.name = (k == 0) := by
  unfold placeB at h
  rw [Bool.and_eq_true] at h
  exact beq_iff_eq.1 h.1
theorem msgWI_eq (xs : List Seg) : ∀ k, k ≤ xs.length → Places xs k → msgWI (xs.take k) = msgW (xs.take k)
  | 0, _, _ => by simp [msgWI, msgW]
  | k + 1, hk, hp => by
    rw [msgWI_snoc xs k (by omega), msgW_snoc xs k (by omega), msgWI_eq xs k (by omega) (fun j hj h2 => hp j hj (by omega)), segW_eq _ k (place_msh (hp k (by omega) (by omega)))]
theorem msgW_take_le (xs : List Seg) (k : Nat) : (msgW (xs.take k)).length ≤ (msgW xs).length := flat_take_le (fun p => segW p.2 p.1) xs k

theorem msgB_split (xs : List Seg) (h1 : 1 ≤ xs.length) (h2 : xs.length ≤ 250) : msgB xs = (xs.zipIdx.all segAt && decide ((msgW xs).length ≤ 40000)) := by
  unfold msgB shapeB
  rw [decide_eq_true h1, decide_eq_true h2]
  rfl
theorem msgB_bad (xs : List Seg) (k : Nat) (hk : k < xs.length) (hp : placeB k xs[k] = false) : msgB xs = false := by
  rw [placeB_eq, Bool.and_eq_false_iff] at hp
  unfold msgB
  rcases hp with hp | hp
  · have h := zall_fail hk hp
    unfold shapeB
    have h' : (xs.zipIdx.all fun p => segB (p.2 == 0) p.1) = false := h
    rw [h']
    simp
  · have h1 := seg_long xs[k] k hp
    have h2 := msgW_room xs k hk
    rw [decide_eq_false (p := (msgW xs).length ≤ 40000) (by omega), Bool.and_false]
theorem msgB_long (xs : List Seg) (k : Nat) (hk : k < xs.length) (hp : Places xs (k + 1)) (hl : 40000 < (msgWI (xs.take (k + 1))).length) : msgB xs = false := by
  rw [msgWI_eq xs (k + 1) (by omega) hp] at hl
  have := msgW_take_le xs (k + 1)
  unfold msgB
  rw [decide_eq_false (p := (msgW xs).length ≤ 40000) (by omega), Bool.and_false]
theorem msgB_good (xs : List Seg) (h1 : 1 ≤ xs.length) (h2 : xs.length ≤ 250) (hp : Places xs xs.length) (hl : (msgWI (xs.take xs.length)).length ≤ 40000) : msgB xs = true := by
  rw [msgWI_eq xs _ (Nat.le_refl _) hp, List.take_length] at hl
  rw [msgB_split xs h1 h2, decide_eq_true hl, Bool.and_true, List.all_eq_true]
  rintro ⟨x, k⟩ hm
  rw [List.mk_mem_zipIdx_iff_getElem?] at hm
  obtain ⟨hk, rfl⟩ := List.getElem?_eq_some_iff.1 hm
  have := hp k hk hk
  rw [placeB_eq, Bool.and_eq_true] at this
  exact this.1
theorem msgB_places (xs : List Seg) (h : msgB xs = true) : Places xs xs.length := fun j hj _ => by
  cases hp : placeB j xs[j]
  · rw [msgB_bad xs j hj hp] at h; cases h
  · rfl
theorem msgB_size (xs : List Seg) (h : msgB xs = true) : msgWI xs = msgW xs ∧ (msgW xs).length ≤ 40000 := by
  have h1 := msgWI_eq xs xs.length (Nat.le_refl _) (msgB_places xs h)
  rw [List.take_length] at h1
  refine ⟨h1, ?_⟩
  unfold msgB at h
  rw [Bool.and_eq_true] at h
  exact of_decide_eq_true h.2
theorem msgB_none (xs : List Seg) (h : xs.length = 0) : msgB xs = false := by
  unfold msgB shapeB
  rw [decide_eq_false (p := 1 ≤ xs.length) (by omega)]
  rfl
theorem msgB_many (xs : List Seg) (h : 250 < xs.length) : msgB xs = false := by
  unfold msgB shapeB
  rw [decide_eq_false (p := xs.length ≤ 250) (by omega)]
  simp
theorem segWI_le (x : Seg) : (segWI x).length ≤ 6 + 3 * segSz x := by
  have h := fieldsW_le x.fields
  have h2 : x.name.data.toList.length = x.name.size := by simp
  unfold segWI segSz dm
  simp only [List.length_append]
  split <;> simp <;> omega
end Go.Proofs.Ytjpdgcodjnnljaa.Msg
