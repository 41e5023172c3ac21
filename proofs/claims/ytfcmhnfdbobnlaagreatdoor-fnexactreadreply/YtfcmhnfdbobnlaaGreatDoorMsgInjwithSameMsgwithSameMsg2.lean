import Derived.Test.YtfcmhnfdbobnlaaGreatDoorMsgEncodewithImplMsgLwithImplMsgIn
import Derived.Test.YtfcmhnfdbobnlaaGreatDoorMsgEqwithMsgEq2withMsgTo
import Derived.Deep.LoopGhost
namespace Go.Proofs.YtfcmhnfdbobnlaaGreatDoor.Msg
open Go.ChangeShapes Go.WideShapes Go.ChangeAt Go.RowKit
set_option linter.unusedVariables false
set_option linter.unusedSimpArgs false

/-! two messages in order with one encoding are one message -/
/-- nothing, or a text that begins with the separator -/
def Led (c : UInt8) (s : List UInt8) : Prop := s = [] ∨ ∃ r, s = c :: r
theorem split_led {c : UInt8} : ∀ {a b s t : List UInt8}, a ++ s = b ++ t → c ∉ a → c ∉ b → Led c s → Led c t → a = b ∧ s = t
  | [], [], s, t, h, _, _, _, _ => ⟨rfl, h⟩
  | [], y :: b, s, t, h, _, hb, hs, _ => by
    rcases hs with rfl | ⟨r, rfl⟩
    · simp at h
    · simp only [List.nil_append, List.cons_append, List.cons.injEq] at h
      exact absurd (by rw [h.1]; exact List.mem_cons_self ..) hb
  | x :: a, [], s, t, h, ha, _, _, ht => by
    rcases ht with rfl | ⟨r, rfl⟩
    · simp at h
    · simp only [List.nil_append, List.cons_append, List.cons.injEq] at h
      exact absurd (by rw [← h.1]; exact List.mem_cons_self ..) ha
  | x :: a, y :: b, s, t, h, ha, hb, hs, ht => by
    simp only [List.cons_append, List.cons.injEq] at h
    obtain ⟨e1, e2⟩ := split_led h.2 (fun hm => ha (List.mem_cons_of_mem _ hm)) (fun hm => hb (List.mem_cons_of_mem _ hm)) hs ht
    exact ⟨by rw [h.1, e1], e2⟩
def ledW {α : Type} (c : UInt8) (f : α → List UInt8) (xs : List α) : List UInt8 := xs.flatMap fun x => c :: f x
theorem ledW_led {α : Type} (c : UInt8) (f : α → List UInt8) (xs : List α) : Led c (ledW c f xs) := by
  cases xs with
  | nil => exact .inl rfl
  | cons x xs => exact .inr ⟨_, rfl⟩
theorem ledW_inj {α : Type} {c : UInt8} {f : α → List UInt8} {V : α → Prop} (hc : ∀ x, V x → c ∉ f x) (hf : ∀ x y, V x → V y → f x = f y → x = y) :
    ∀ {xs ys : List α}, (∀ x ∈ xs, V x) → (∀ y ∈ ys, V y) → ledW c f xs = ledW c f ys → xs = ys
  | [], [], _, _, _ => rfl
  | [], y :: ys, _, _, h => by simp [ledW] at h
  | x :: xs, [], _, _, h => by simp [ledW] at h
  | x :: xs, y :: ys, hx, hy, h => by
    have h1 : f x ++ ledW c f xs = f y ++ ledW c f ys := by
      simp only [ledW, List.flatMap_cons, List.cons_append, List.cons.injEq, true_and] at h
      exact h
    have vx := hx x (List.mem_cons_self ..)
    have vy := hy y (List.mem_cons_self ..)
    obtain ⟨e1, e2⟩ := split_led h1 (hc x vx) (hc y vy) (ledW_led ..) (ledW_led ..)
    rw [hf x y vx vy e1, ledW_inj hc hf (fun z hz => hx z (List.mem_cons_of_mem _ hz)) (fun z hz => hy z (List.mem_cons_of_mem _ hz)) e2]
theorem joined_cons {α : Type} (c : UInt8) (f : α → List UInt8) (x : α) (xs : List α) : joined c f (x :: xs) = f x ++ ledW c f xs := by
  have key : ∀ (ys : List α) (n : Nat), 1 ≤ n → ((ys.zipIdx n).flatMap fun p => (if p.2 = 0 then [] else [c]) ++ f p.1) = ledW c f ys := by
    intro ys
    induction ys with
    | nil => intro n _; rfl
    | cons y ys ih =>
      intro n hn
      rw [List.zipIdx_cons, List.flatMap_cons, ih (n + 1) (by omega)]
      have : ¬ n = 0 := by omega
      simp [ledW, this]
  unfold joined
  rw [List.zipIdx_cons, List.flatMap_cons, key xs (0 + 1) (by omega)]
  simp
theorem joined_inj {α : Type} {c : UInt8} {f : α → List UInt8} {V : α → Prop} (hc : ∀ x, V x → c ∉ f x) (hf : ∀ x y, V x → V y → f x = f y → x = y) {xs ys : List α} (hx : ∀ x ∈ xs, V x) (hy : ∀ y ∈ ys, V y)
    (h0x : ∀ x, xs = [x] → f x ≠ []) (h0y : ∀ y, ys = [y] → f y ≠ []) (h : joined c f xs = joined c f ys) : xs = ys := by
  have single : ∀ (z : α) (zs : List α), f z ++ ledW c f zs = [] → zs = [] ∧ f z = [] := fun z zs e => by
    rw [List.append_eq_nil_iff] at e
    refine ⟨?_, e.1⟩
    cases zs with
    | nil => rfl
    | cons a t => simp [ledW] at e
  match xs, ys, h, hx, hy, h0x, h0y with
  | [], [], _, _, _, _, _ => rfl
  | [], y :: ys, h, _, _, _, h0y =>
    rw [joined_cons] at h
    obtain ⟨rfl, e⟩ := single y ys h.symm
    exact absurd e (h0y y rfl)
  | x :: xs, [], h, _, _, h0x, _ =>
    rw [joined_cons] at h
    obtain ⟨rfl, e⟩ := single x xs h
    exact absurd e (h0x x rfl)
  | x :: xs, y :: ys, h, hx, hy, _, _ =>
    rw [joined_cons, joined_cons] at h
    have vx := hx x (List.mem_cons_self ..)
    have vy := hy y (List.mem_cons_self ..)
    obtain ⟨e1, e2⟩ := split_led h (hc x vx) (hc y vy) (ledW_led ..) (ledW_led ..)
    rw [hf x y vx vy e1, ledW_inj hc hf (fun z hz => hx z (List.mem_cons_of_mem _ hz)) (fun z hz => hy z (List.mem_cons_of_mem _ hz)) e2]
theorem mem_ledW {α : Type} {c d : UInt8} {f : α → List UInt8} {xs : List α} (hd : d ≠ c) (h : ∀ x ∈ xs, d ∉ f x) : d ∉ ledW c f xs := by
  intro hm
  unfold ledW at hm
  rw [List.mem_flatMap] at hm
  obtain ⟨x, hx, hm⟩ := hm
  rcases List.mem_cons.1 hm with e | hm
  · exact hd e
  · exact h x hx hm
theorem mem_joined {α : Type} {c d : UInt8} {f : α → List UInt8} {xs : List α} (hd : d ≠ c) (h : ∀ x ∈ xs, d ∉ f x) : d ∉ joined c f xs := by
  cases xs with
  | nil => intro hm; simp [joined] at hm
  | cons x xs =>
    rw [joined_cons]
    intro hm
    rcases List.mem_append.1 hm with hm | hm
    · exact h x (List.mem_cons_self ..) hm
    · exact mem_ledW hd (fun y hy => h y (List.mem_cons_of_mem _ hy)) hm
/-! one byte -/
theorem u8 {a b : UInt8} (h : a.toNat = b.toNat) : a = b := UInt8.toNat_inj.1 h
theorem esc_cases (c : UInt8) : (∃ k, esc c = [92, k, 92] ∧ ((c = 124 ∧ k = 70) ∨ (c = 94 ∧ k = 83) ∨ (c = 38 ∧ k = 84) ∨ (c = 126 ∧ k = 82) ∨ (c = 92 ∧ k = 69))) ∨ (esc c = [c] ∧ c ≠ 124 ∧ c ≠ 94 ∧ c ≠ 38 ∧ c ≠ 126 ∧ c ≠ 92) := by
  unfold esc
  by_cases h1 : c.toNat = 124
  · rw [if_pos h1]; exact .inl ⟨70, rfl, .inl ⟨u8 h1, rfl⟩⟩
  rw [if_neg h1]
  by_cases h2 : c.toNat = 94
  · rw [if_pos h2]; exact .inl ⟨83, rfl, .inr (.inl ⟨u8 h2, rfl⟩)⟩
  rw [if_neg h2]
  by_cases h3 : c.toNat = 38
  · rw [if_pos h3]; exact .inl ⟨84, rfl, .inr (.inr (.inl ⟨u8 h3, rfl⟩))⟩
  rw [if_neg h3]
  by_cases h4 : c.toNat = 126
  · rw [if_pos h4]; exact .inl ⟨82, rfl, .inr (.inr (.inr (.inl ⟨u8 h4, rfl⟩)))⟩
  rw [if_neg h4]
  by_cases h5 : c.toNat = 92
  · rw [if_pos h5]; exact .inl ⟨69, rfl, .inr (.inr (.inr (.inr ⟨u8 h5, rfl⟩)))⟩
  rw [if_neg h5]
  exact .inr ⟨rfl, fun e => h1 (by rw [e]; rfl), fun e => h2 (by rw [e]; rfl), fun e => h3 (by rw [e]; rfl), fun e => h4 (by rw [e]; rfl), fun e => h5 (by rw [e]; rfl)⟩
theorem esc_split {a b : UInt8} {s t : List UInt8} (h : esc a ++ s = esc b ++ t) : a = b ∧ s = t := by
  rcases esc_cases a with ⟨k, ea, ha⟩ | ⟨ea, _, _, _, _, na⟩ <;> rcases esc_cases b with ⟨j, eb, hb⟩ | ⟨eb, _, _, _, _, nb⟩
  · rw [ea, eb] at h
    simp only [List.cons_append, List.nil_append, List.cons.injEq, true_and] at h
    obtain ⟨hk, hs⟩ := h
    refine ⟨?_, hs⟩
    rcases ha with ⟨rfl, rfl⟩ | ⟨rfl, rfl⟩ | ⟨rfl, rfl⟩ | ⟨rfl, rfl⟩ | ⟨rfl, rfl⟩ <;> rcases hb with ⟨rfl, rfl⟩ | ⟨rfl, rfl⟩ | ⟨rfl, rfl⟩ | ⟨rfl, rfl⟩ | ⟨rfl, rfl⟩ <;> first | rfl | exact absurd hk (by decide)
  · rw [ea, eb] at h
    simp only [List.cons_append, List.nil_append, List.cons.injEq] at h
    exact absurd h.1.symm nb
  · rw [ea, eb] at h
    simp only [List.cons_append, List.nil_append, List.cons.injEq] at h
    exact absurd h.1 na
  · rw [ea, eb] at h
    simp only [List.cons_append, List.nil_append, List.cons.injEq] at h
    exact h
theorem escs_inj : ∀ {l m : List UInt8}, escs l = escs m → l = m
  | [], [], _ => rfl
  | [], b :: m, h => by
    exfalso
    simp only [escs, List.flatMap_nil, List.flatMap_cons] at h
    rcases esc_cases b with ⟨k, e, _⟩ | ⟨e, _⟩ <;> · rw [e] at h; simp at h
  | a :: l, [], h => by
    exfalso
    simp only [escs, List.flatMap_nil, List.flatMap_cons] at h
    rcases esc_cases a with ⟨k, e, _⟩ | ⟨e, _⟩ <;> · rw [e] at h; simp at h
  | a :: l, b :: m, h => by
    have h1 : esc a ++ escs l = esc b ++ escs m := by simpa [escs] using h
    obtain ⟨e1, e2⟩ := esc_split h1
    rw [e1, escs_inj e2]
theorem escs_mem {d : UInt8} {l : List UInt8} (h : d ∈ escs l) : d ∈ l ∨ d ∈ [92, 70, 83, 84, 82, 69] := by
  unfold escs at h
  rw [List.mem_flatMap] at h
  obtain ⟨c, hc, hm⟩ := h
  rcases esc_cases c with ⟨k, e, hk⟩ | ⟨e, _⟩
  · rw [e] at hm
    right
    rcases hk with ⟨_, rfl⟩ | ⟨_, rfl⟩ | ⟨_, rfl⟩ | ⟨_, rfl⟩ | ⟨_, rfl⟩ <;> simp at hm <;> rcases hm with rfl | rfl | rfl <;> decide
  · rw [e] at hm
    left
    rw [List.mem_singleton.1 hm]
    exact hc
theorem escs_not {d : UInt8} {l : List UInt8} (hd : d = 124 ∨ d = 94 ∨ d = 126) : d ∉ escs l := by
  intro h
  unfold escs at h
  rw [List.mem_flatMap] at h
  obtain ⟨c, _, hm⟩ := h
  rcases esc_cases c with ⟨k, e, hk⟩ | ⟨e, n1, n2, n3, n4, n5⟩
  · rw [e] at hm
    rcases hk with ⟨_, rfl⟩ | ⟨_, rfl⟩ | ⟨_, rfl⟩ | ⟨_, rfl⟩ | ⟨_, rfl⟩ <;> simp at hm <;> rcases hm with rfl | rfl | rfl <;> revert hd <;> decide
  · rw [e] at hm
    rw [List.mem_singleton.1 hm] at hd
    rcases hd with rfl | rfl | rfl
    · exact n1 rfl
    · exact n2 rfl
    · exact n4 rfl
theorem escs_13 {s : ByteArray} (h : plainB s = true) : (13 : UInt8) ∉ escs s.data.toList := by
  intro hm
  rcases escs_mem hm with h1 | h1
  · unfold plainB at h
    have := List.all_eq_true.1 h 13 h1
    revert this
    decide
  · revert h1
    decide
theorem escs_nil {s : ByteArray} (h : escs s.data.toList = []) : s.size = 0 := by
  have h1 : s.data.toList = [] := escs_inj (m := []) h
  have h2 : s.data.size = 0 := by rw [← Array.length_toList, h1]; rfl
  exact h2
/-! the three levels -/
theorem end_last {α : Type} {f : α → Nat} {x : α} (h : endB f [x] = true) : 0 < f x := by
  unfold endB at h
  simpa using h
theorem rep_parts {r : Rep} (h : repB r = true) : endB ByteArray.size r = true ∧ ∀ c ∈ r, plainB c = true := by
  unfold repB at h
  simp only [Bool.and_eq_true, List.all_eq_true] at h
  exact ⟨h.2.1, h.2.2⟩
theorem field_parts {f : Field} (h : fieldB f = true) : endB List.length f = true ∧ ∀ r ∈ f, repB r = true := by
  unfold fieldB at h
  simp only [Bool.and_eq_true, List.all_eq_true] at h
  exact ⟨h.2.1, h.2.2⟩
theorem str_ext {s t : ByteArray} (h : s.data.toList = t.data.toList) : s = t := by
  apply ByteArray.ext
  exact Array.toList_inj.1 h
theorem repW_inj {r q : Rep} (hr : repB r = true) (hq : repB q = true) (h : repW r = repW q) : r = q := by
  obtain ⟨r1, r2⟩ := rep_parts hr
  obtain ⟨q1, q2⟩ := rep_parts hq
  refine joined_inj (V := fun c => plainB c = true) (fun c _ => escs_not (.inr (.inl rfl))) (fun c d _ _ e => str_ext (escs_inj e)) r2 q2 ?_ ?_ h
  · rintro c rfl e
    have := end_last r1
    have := escs_nil e
    omega
  · rintro c rfl e
    have := end_last q1
    have := escs_nil e
    omega
theorem repW_nil {r : Rep} (hr : repB r = true) (h : repW r = []) : r = [] := repW_inj hr (by decide) (by rw [h]; rfl)
theorem repW_not {r : Rep} : (126 : UInt8) ∉ repW r ∧ (124 : UInt8) ∉ repW r := ⟨mem_joined (by decide) fun c _ => escs_not (.inr (.inr rfl)), mem_joined (by decide) fun c _ => escs_not (.inl rfl)⟩
theorem repW_13 {r : Rep} (hr : repB r = true) : (13 : UInt8) ∉ repW r := mem_joined (by decide) fun c hc => escs_13 ((rep_parts hr).2 c hc)
theorem fieldW_inj {f g : Field} (hf : fieldB f = true) (hg : fieldB g = true) (h : fieldW f = fieldW g) : f = g := by
  obtain ⟨r1, r2⟩ := field_parts hf
  obtain ⟨q1, q2⟩ := field_parts hg
  refine joined_inj (V := fun r => repB r = true) (fun c _ => repW_not.1) (fun c d hc hd e => repW_inj hc hd e) r2 q2 ?_ ?_ h
  · rintro c rfl e
    have h1 := end_last r1
    have h2 := repW_nil (r2 c (List.mem_singleton.2 rfl)) e
    rw [h2] at h1
    exact absurd h1 (by decide)
  · rintro c rfl e
    have h1 := end_last q1
    have h2 := repW_nil (q2 c (List.mem_singleton.2 rfl)) e
    rw [h2] at h1
    exact absurd h1 (by decide)
theorem fieldW_not {f : Field} : (124 : UInt8) ∉ fieldW f := mem_joined (by decide) fun c _ => repW_not.2
theorem fieldW_13 {f : Field} (hf : fieldB f = true) : (13 : UInt8) ∉ fieldW f := mem_joined (by decide) fun c hc => repW_13 ((field_parts hf).2 c hc)
theorem fieldsW_is (fs : List Field) : fieldsW fs = ledW 124 fieldW fs := rfl
theorem seg_parts {b : Bool} {s : Seg} (h : segB b s = true) : nameB s.name = true ∧ ∀ f ∈ s.fields, fieldB f = true := by
  unfold segB at h
  simp only [Bool.and_eq_true, List.all_eq_true] at h
  exact ⟨h.1, h.2.2.2.2⟩
theorem name3 {s : ByteArray} (h : nameB s = true) : s.data.toList.length = 3 ∧ (13 : UInt8) ∉ s.data.toList := by
  unfold nameB at h
  split at h
  · rename_i a b c e
    rw [e]
    refine ⟨rfl, fun hm => ?_⟩
    simp only [Bool.and_eq_true, Bool.or_eq_true, capB, digB, decide_eq_true_eq] at h
    simp only [List.mem_cons, List.not_mem_nil, or_false] at hm
    have k : (13 : UInt8).toNat = 13 := rfl
    rcases hm with rfl | rfl | rfl <;> rw [k] at h <;> omega
  · cases h
def segA (i : Nat) (s : Seg) : List UInt8 := s.name.data.toList ++ (if i = 0 then [124, 94, 126, 92, 38] else []) ++ fieldsW s.fields
theorem segW_is (i : Nat) (s : Seg) : segW i s = segA i s ++ [13] := rfl
theorem segA_inj {i : Nat} {b : Bool} {s t : Seg} (hs : segB b s = true) (ht : segB b t = true) (h : segA i s = segA i t) : s = t := by
  obtain ⟨s1, s2⟩ := seg_parts hs
  obtain ⟨t1, t2⟩ := seg_parts ht
  unfold segA at h
  rw [List.append_assoc, List.append_assoc] at h
  obtain ⟨e1, e2⟩ := List.append_inj h (by rw [(name3 s1).1, (name3 t1).1])
  have e3 := List.append_cancel_left e2
  rw [fieldsW_is, fieldsW_is] at e3
  have e4 := ledW_inj (V := fun f => fieldB f = true) (fun f _ => fieldW_not) (fun f g hf hg e => fieldW_inj hf hg e) s2 t2 e3
  obtain ⟨n, fs⟩ := s
  obtain ⟨m, gs⟩ := t
  simp only at e1 e4
  rw [str_ext e1, e4]
theorem segA_13 {i : Nat} {b : Bool} {s : Seg} (hs : segB b s = true) : (13 : UInt8) ∉ segA i s := by
  obtain ⟨s1, s2⟩ := seg_parts hs
  unfold segA
  intro hm
  rcases List.mem_append.1 hm with hm | hm
  · rcases List.mem_append.1 hm with hm | hm
    · exact (name3 s1).2 hm
    · split at hm
      · revert hm; decide
      · cases hm
  · rw [fieldsW_is] at hm
    exact mem_ledW (by decide) (fun f hf => fieldW_13 (s2 f hf)) hm
theorem msgGo_inj : ∀ (xs ys : List Seg) (n : Nat), (∀ p ∈ xs.zipIdx n, segB (p.2 == 0) p.1 = true) → (∀ p ∈ ys.zipIdx n, segB (p.2 == 0) p.1 = true) →
    ((xs.zipIdx n).flatMap fun p => segW p.2 p.1) = ((ys.zipIdx n).flatMap fun p => segW p.2 p.1) → xs = ys
  | [], [], _, _, _, _ => rfl
  | [], y :: ys, n, _, _, h => by
    exfalso
    rw [List.zipIdx_cons, List.flatMap_cons, segW_is] at h
    simp at h
  | x :: xs, [], n, _, _, h => by
    exfalso
    rw [List.zipIdx_cons, List.flatMap_cons, segW_is] at h
    simp at h
  | x :: xs, y :: ys, n, hx, hy, h => by
    rw [List.zipIdx_cons, List.flatMap_cons, List.zipIdx_cons, List.flatMap_cons, segW_is, segW_is, List.append_assoc, List.append_assoc] at h
    rw [List.zipIdx_cons] at hx hy
    have vx := hx _ (List.mem_cons_self ..)
    have vy := hy _ (List.mem_cons_self ..)
    obtain ⟨e1, e2⟩ := split_led h (segA_13 vx) (segA_13 vy) (.inr ⟨_, rfl⟩) (.inr ⟨_, rfl⟩)
    have e3 : x = y := segA_inj (i := n) vx vy e1
    rw [e3, msgGo_inj xs ys (n + 1) (fun p hp => hx p (List.mem_cons_of_mem _ hp)) (fun p hp => hy p (List.mem_cons_of_mem _ hp)) (List.append_cancel_left e2)]
theorem shape_parts {m : List Seg} (h : msgB m = true) : 1 ≤ m.length ∧ ∀ p ∈ m.zipIdx, segB (p.2 == 0) p.1 = true := by
  unfold msgB shapeB at h
  simp only [Bool.and_eq_true, decide_eq_true_eq, List.all_eq_true] at h
  exact ⟨h.1.1, h.1.2.2⟩
theorem msgW_inj {xs ys : List Seg} (hx : msgB xs = true) (hy : msgB ys = true) (h : msgW xs = msgW ys) : xs = ys :=
  msgGo_inj xs ys 0 (shape_parts hx).2 (shape_parts hy).2 h
theorem msgW_ne {xs : List Seg} (hx : msgB xs = true) : msgW xs ≠ [] := by
  intro h
  have h1 := (shape_parts hx).1
  match xs, h1 with
  | x :: t, _ =>
    unfold msgW at h
    rw [List.zipIdx_cons, List.flatMap_cons, segW_is] at h
    simp at h
theorem encoded_size {xs : List Seg} : (encoded xs).size = 0 ↔ msgB xs = false := by
  cases h : msgB xs with
  | false => rw [encoded_no h]; exact ⟨fun _ => rfl, fun _ => rfl⟩
  | true =>
    rw [encoded_yes h]
    refine ⟨fun e => ?_, fun e => by cases e⟩
    exfalso
    have e1 : (msgW xs).toArray.size = 0 := e
    rw [List.size_toArray] at e1
    exact msgW_ne h (List.length_eq_zero_iff.1 e1)
theorem encoded_inj {xs ys : List Seg} (hx : msgB xs = true) (hy : msgB ys = true) (h : encoded xs = encoded ys) : xs = ys := by
  rw [encoded_yes hx, encoded_yes hy] at h
  have e := congrArg (fun b : ByteArray => b.data.toList) h
  exact msgW_inj hx hy (by simpa using e)
end Go.Proofs.YtfcmhnfdbobnlaaGreatDoor.Msg

namespace Go.Proofs.YtfcmhnfdbobnlaaGreatDoor.Msg
open Go.ChangeShapes Go.WideShapes Go.ChangeAt Go.RowKit
set_option linter.unusedVariables false
set_option linter.unusedSimpArgs false

/-! l3SameTexts, l3SameField, l3SameMessage: are two lists one list? -/
def SameP (P : Prop) (w : World) (e : Ending) (w' : World) : Prop := ∃ b : Bool, e = .returned (.bool b) ∧ (b = true ↔ P) ∧ Below w.heap.size w w'
theorem toList_ne {x y : ByteArray} (h : ¬ x = y) : ¬ x.toList = y.toList ∧ (x.toList == y.toList) = false := by
  have e : ¬ x.toList = y.toList := fun e => h (str_ext (by rw [ByteArray.toList_eq, ByteArray.toList_eq] at e; exact e))
  exact ⟨e, by rw [beq_eq_false_iff_ne]; exact e⟩
theorem take_both {α : Type} {xs ys : List α} {k : Nat} (h1 : k < xs.length) (h2 : k < ys.length) (h : xs.take k = ys.take k) (e : xs[k] = ys[k]) : xs.take (k + 1) = ys.take (k + 1) := by
  rw [List.take_succ_eq_append_getElem h1, List.take_succ_eq_append_getElem h2, h, e]
theorem take_all {α : Type} {xs ys : List α} (hl : xs.length = ys.length) (h : xs.take xs.length = ys.take xs.length) : xs = ys := by
  rw [List.take_length] at h
  rw [h, hl, List.take_length]

set_option maxHeartbeats 2000000 in
theorem sameTexts_b (xs ys : List ByteArray) (v u : Value) (w : World) {lo lo2 : Nat} (hv : StrsAt lo w v xs) (hu : StrsAt lo2 w u ys) :
    Calls Tryz.prog 54 #[v, u] w (SameP (xs = ys) w) := by
  have hl1 := hv.1
  have hl2 := hu.1
  obtain ⟨a, cap, rfl, hc⟩ := hv.form
  obtain ⟨a2, cap2, rfl, hc2⟩ := hu.form
  clear hv hu
  by_cases hl : xs.length = ys.length
  · obtain ⟨n, hn⟩ : ∃ n, xs.length = n := ⟨_, rfl⟩
    have hn2 : ys.length = n := by omega
    rw [hn, hn2]
    rw [hn] at hl1
    have HC : Hid (∀ k (h1 : k < xs.length) (h2 : k < ys.length), ∃ b off b2 off2, a = some ⟨b, off, none⟩ ∧ a2 = some ⟨b2, off2, none⟩ ∧ b < w.heap.size ∧ b2 < w.heap.size ∧ w.cell? ⟨b, off + k, none⟩ = some (.string (xs[k])) ∧ w.cell? ⟨b2, off2 + k, none⟩ = some (.string (ys[k]))) := fun k h1 h2 => by
      obtain ⟨b, off, e1, _, l1, r1⟩ := hc k h1
      obtain ⟨b2, off2, e2, _, l2, r2⟩ := hc2 k h2
      exact ⟨b, off, b2, off2, e1, e2, l1, l2, by simpa using r1.1, by simpa using r2.1⟩
    have HN := hide (And.intro hn hn2)
    clear hc hc2 hl hl2 hn hn2
    go_enter Tryz.func54, Tryz.ntmps54
    go_wp2_with fail
    go_loopg [5] n (fun q i wr => ∃ k : Nat, k ≤ n ∧ q = n - k ∧ i = .int .i64 (k : Int) ∧ xs.take k = ys.take k ∧ Below w.heap.size w wr)
    case atStart => exact ⟨0, Nat.zero_le _, rfl, rfl, rfl, Below.refl _ _⟩
    case round =>
      obtain ⟨k, hk, rfl, rfl, htk, hb⟩ := hrel
      have HT := hide htk
      clear htk
      by_cases hlt : k < n
      · have hki : (k : Int) < (n : Int) := by omega
        have k1 : k < xs.length := by have := HN.out.1; omega
        have k2 : k < ys.length := by have := HN.out.2; omega
        obtain ⟨b, off, b2, off2, rfl, rfl, l1, l2, r1, r2⟩ := HC.out k k1 k2
        have h1 := (hb.cell (p := ⟨b, off + k, none⟩) l1).trans r1
        have h2 := (hb.cell (p := ⟨b2, off2 + k, none⟩) l2).trans r2
        obtain ⟨x, hx⟩ : ∃ x, xs[k] = x := ⟨_, rfl⟩
        obtain ⟨y, hy⟩ : ∃ y, ys[k] = y := ⟨_, rfl⟩
        rw [hx] at h1
        rw [hy] at h2
        clear r1 r2
        by_cases hxy : x = y
        · subst hxy
          have HT2 := hide (take_both k1 k2 HT.out (hx.trans hy.symm))
          clear hx hy k1 k2
          go_wp2_with fail
          go_quiet (fail)
          go_wp2_with fail
          go_roundg (n - (k + 1))
          case measure => omega
          case rel => exact ⟨k + 1, by omega, rfl, by go_num, HT2.out, below_drewN hb _⟩
        · have HX : Hid (¬ xs = ys) := fun e => hxy (by subst e; exact hx.symm.trans hy)
          obtain ⟨e1, e2⟩ := toList_ne hxy
          clear hx hy k1 k2 hxy
          go_wp2_with fail
          go_quiet (fail)
          go_wp2_with fail
          go_ret
          exact ⟨false, rfl, ⟨fun h => (by cases h), fun h => absurd h HX.out⟩, below_drewN hb _⟩
      · have hki : ¬ (k : Int) < (n : Int) := by omega
        have HX : Hid (xs = ys) := by
          have h1 := HN.out
          have : k = xs.length := by omega
          have h2 := HT.out
          rw [this] at h2
          exact take_all (by omega) h2
        go_wp2_with fail
        go_ret
        exact ⟨true, rfl, ⟨fun _ => HX.out, fun _ => rfl⟩, hb⟩
  · have hli : ¬ (xs.length : Int) = (ys.length : Int) := by omega
    have hlb : ((xs.length : Int) == (ys.length : Int)) = false := by simpa using hli
    have HX : Hid (¬ xs = ys) := fun e => hl (by rw [e])
    clear hc hc2 hl
    go_enter Tryz.func54, Tryz.ntmps54
    go_wp2_with fail
    go_ret
    exact ⟨false, rfl, ⟨fun h => (by cases h), fun h => absurd h HX.out⟩, Below.refl _ _⟩

set_option maxRecDepth 100000 in
set_option maxHeartbeats 4000000 in
theorem sameField_b (xs ys : Field) (v u : Value) (w : World) {lo lo2 : Nat} (hv : RepsAt lo w v xs) (hu : RepsAt lo2 w u ys) :
    Calls Tryz.prog 33 #[.agg #[v], .agg #[u]] w (SameP (xs = ys) w) := by
  have hl1 := hv.1
  have hl2 := hu.1
  obtain ⟨w2, hw2⟩ : ∃ w2, (w.alloc (Obj.cells #[v] 60)).alloc (Obj.cells #[u] 60) = w2 := ⟨_, rfl⟩
  have hb0 : Below w.heap.size w w2 := by rw [← hw2]; exact ((Below.refl w.heap.size w).alloc (Nat.le_refl _) _).alloc (by simp) _
  have c0 : w2.cell? ⟨w.heap.size, 0, none⟩ = some v := by rw [← hw2]; simp
  have c1 : w2.cell? ⟨w.heap.size + 1, 0, none⟩ = some u := by rw [← hw2]; simp
  have hs2 : w2.heap.size = w.heap.size + 2 := by rw [← hw2]; simp
  have hv2 := At.kept kept_rep hv hb0
  have hu2 := At.kept kept_rep hu hb0
  obtain ⟨a, cap, rfl, hc⟩ := hv2.form
  obtain ⟨a2, cap2, rfl, hc2⟩ := hu2.form
  have HB0 := hide hb0
  have HW2 := hide hw2
  clear hv hu hv2 hu2 hb0 hw2
  by_cases hl : xs.length = ys.length
  · obtain ⟨n, hn⟩ : ∃ n, xs.length = n := ⟨_, rfl⟩
    have hn2 : ys.length = n := by omega
    have HN := hide (And.intro hn hn2)
    have KB : Hid (∀ X, Below w2.heap.size w2 X → X.cell? ⟨w.heap.size, 0, none⟩ = some (.slice a n cap) ∧ X.cell? ⟨w.heap.size + 1, 0, none⟩ = some (.slice a2 n cap2)) := fun X h => by
      rw [← hn]
      refine ⟨(h.cell (p := ⟨w.heap.size, 0, none⟩) (by rw [hs2]; simp)).trans c0, ?_⟩
      rw [hn, ← hn2]
      exact (h.cell (p := ⟨w.heap.size + 1, 0, none⟩) (by rw [hs2]; simp)).trans c1
    have HC : Hid (∀ k (h1 : k < xs.length) (h2 : k < ys.length), ∃ b off b2 off2 ve ue, a = some ⟨b, off, none⟩ ∧ a2 = some ⟨b2, off2, none⟩ ∧ b < w2.heap.size ∧ b2 < w2.heap.size ∧ w2.cell? ⟨b, off + k, none⟩ = some ve ∧ w2.cell? ⟨b2, off2 + k, none⟩ = some ue ∧ StrsAt lo w2 ve (xs[k]) ∧ StrsAt lo2 w2 ue (ys[k])) := fun k h1 h2 => by
      obtain ⟨b, off, e1, _, l1, ve, r1, s1⟩ := hc k h1
      obtain ⟨b2, off2, e2, _, l2, ue, r2, s2⟩ := hc2 k h2
      exact ⟨b, off, b2, off2, ve, ue, e1, e2, l1, l2, by simpa using r1, by simpa using r2, s1, s2⟩
    have hw2 := HW2.out
    rw [hn] at c0 hw2 ⊢
    rw [hn2] at c1 hw2 ⊢
    rw [hn] at hl1
    clear hc hc2 hl hl2 hn hn2 HW2
    go_enter Tryz.func33, Tryz.ntmps33
    go_wp2_with fail
    go_loopg [5] n (fun q i wr => ∃ k : Nat, k ≤ n ∧ q = n - k ∧ i = .int .i64 (k : Int) ∧ xs.take k = ys.take k ∧ Below w2.heap.size w2 wr)
    case atStart => exact ⟨0, Nat.zero_le _, rfl, rfl, rfl, Below.refl _ _⟩
    case round =>
      obtain ⟨k, hk, rfl, rfl, htk, hb⟩ := hrel
      have HT := hide htk
      clear htk c0 c1
      obtain ⟨c0, c1⟩ := KB.out wr hb
      have HBR := hide hb
      by_cases hlt : k < n
      · have hki : (k : Int) < (n : Int) := by omega
        have k1 : k < xs.length := by have := HN.out.1; omega
        have k2 : k < ys.length := by have := HN.out.2; omega
        obtain ⟨b, off, b2, off2, ve, ue, rfl, rfl, l1, l2, r1, r2, s1, s2⟩ := HC.out k k1 k2
        obtain ⟨x, hx⟩ : ∃ x, xs[k] = x := ⟨_, rfl⟩
        obtain ⟨y, hy⟩ : ∃ y, ys[k] = y := ⟨_, rfl⟩
        rw [hx] at s1
        rw [hy] at s2
        have KS : Hid (∀ X, Below w2.heap.size w2 X → X.cell? ⟨w.heap.size, 0, none⟩ = some (.slice (some ⟨b, off, none⟩) n cap) ∧ X.cell? ⟨w.heap.size + 1, 0, none⟩ = some (.slice (some ⟨b2, off2, none⟩) n cap2) ∧ X.cell? ⟨b, off + k, none⟩ = some ve ∧ X.cell? ⟨b2, off2 + k, none⟩ = some ue) := fun X h =>
          ⟨(KB.out X h).1, (KB.out X h).2, (h.cell (p := ⟨b, off + k, none⟩) l1).trans r1, (h.cell (p := ⟨b2, off2 + k, none⟩) l2).trans r2⟩
        have HST := hide (fun X (h : Below w2.heap.size w2 X) => sameTexts_b x y ve ue X (At.kept kept_str s1 h) (At.kept kept_str s2 h))
        have HT2 := hide (fun e : x = y => take_both k1 k2 HT.out (hx.trans (e.trans hy.symm)))
        have HNE : Hid (¬ x = y → ¬ xs = ys) := fun hne e => hne (by subst e; exact hx.symm.trans hy)
        obtain ⟨D, hDe⟩ : ∃ D, wr.drew = D := ⟨_, rfl⟩
        have hD0 : Below w2.heap.size w2 wr.drew := hb.drew
        have hD : Below w2.heap.size w2 D := by rw [← hDe]; exact hD0
        clear hx hy k1 k2 r1 r2 s1 s2 hb
        go_wp2_with fail
        go_region_held3 (fun X => X.cell? ⟨w.heap.size, 0, none⟩ = some (.slice (some ⟨b, off, none⟩) n cap) ∧ X.cell? ⟨w.heap.size + 1, 0, none⟩ = some (.slice (some ⟨b2, off2, none⟩) n cap2) ∧ X.cell? ⟨b, off + k, none⟩ = some ve ∧ X.cell? ⟨b2, off2 + k, none⟩ = some ue)
          (first | with_reducible exact KS.out _ hD0 | with_reducible exact KS.out _ hD | with_reducible exact KS.out _ hB9)
          ((go_at_call 54; refine (HST.out _ hD).mono ?_; rintro e W9 ⟨bb, rfl, hbb, hb9⟩; have hB9 : Below w2.heap.size w2 W9 := bjoin hb9 hD))
        have hB9 : Below w2.heap.size w2 W9 := bjoin hb9 hD
        have hcc : bb = true ∨ bb = false := by cases bb; exact .inr rfl; exact .inl rfl
        rcases hcc with hcc | hcc
        · subst hcc
          have HXY := hide (HT2.out (hbb.1 rfl))
          go_wp2_with fail
          go_roundg (n - (k + 1))
          case measure => omega
          case rel => exact ⟨k + 1, by omega, rfl, by go_num, HXY.out, hB9⟩
        · subst hcc
          have HXY := hide (HNE.out (fun e => by have := hbb.2 e; cases this))
          go_wp2_with fail
          go_ret
          exact ⟨false, rfl, ⟨fun h => (by cases h), fun h => absurd h HXY.out⟩, bjoin hB9 HB0.out⟩
      · have hki : ¬ (k : Int) < (n : Int) := by omega
        have HX : Hid (xs = ys) := by
          have h1 := HN.out
          have : k = xs.length := by omega
          have h2 := HT.out
          rw [this] at h2
          exact take_all (by omega) h2
        go_wp2_with fail
        go_ret
        exact ⟨true, rfl, ⟨fun _ => HX.out, fun _ => rfl⟩, bjoin HBR.out HB0.out⟩
  · have hli : ¬ (xs.length : Int) = (ys.length : Int) := by omega
    have hlb : ((xs.length : Int) == (ys.length : Int)) = false := by simpa using hli
    have HX : Hid (¬ xs = ys) := fun e => hl (by rw [e])
    have hw2 := HW2.out
    clear hc hc2 hl HW2
    go_enter Tryz.func33, Tryz.ntmps33
    go_wp2_with fail
    go_ret
    exact ⟨false, rfl, ⟨fun h => (by cases h), fun h => absurd h HX.out⟩, HB0.out⟩
end Go.Proofs.YtfcmhnfdbobnlaaGreatDoor.Msg

namespace Go.Proofs.YtfcmhnfdbobnlaaGreatDoor.Msg
open Go.ChangeShapes Go.WideShapes Go.ChangeAt Go.RowKit
set_option linter.unusedVariables false
set_option linter.unusedSimpArgs false

theorem seg_ne_name {xs ys : List Seg} {i : Nat} (h1 : i < xs.length) (h2 : i < ys.length) (h : ¬ xs[i].name = ys[i].name) : ¬ xs = ys := fun e => h (by subst e; rfl)
theorem seg_ne_fields {xs ys : List Seg} {i : Nat} (h1 : i < xs.length) (h2 : i < ys.length) (h : ¬ xs[i].fields = ys[i].fields) : ¬ xs = ys := fun e => h (by subst e; rfl)
theorem seg_eq {s t : Seg} (h1 : s.name = t.name) (h2 : s.fields = t.fields) : s = t := by
  obtain ⟨a, b⟩ := s
  obtain ⟨c, d⟩ := t
  simp only at h1 h2
  rw [h1, h2]
theorem field_ne {fs gs : List Field} {j : Nat} (h1 : j < fs.length) (h2 : j < gs.length) (h : ¬ fs[j] = gs[j]) : ¬ fs = gs := fun e => h (by subst e; rfl)

set_option maxRecDepth 100000 in
set_option maxHeartbeats 8000000 in
theorem sameMsg_b (xs ys : List Seg) (v u : Value) (w : World) {lo lo2 : Nat} (hv : SegsAt lo w v xs) (hu : SegsAt lo2 w u ys) :
    Calls Tryz.prog 17 #[.agg #[v], .agg #[u]] w (SameP (xs = ys) w) := by
  have hl1 := hv.1
  have hl2 := hu.1
  obtain ⟨w2, hw2⟩ : ∃ w2, (w.alloc (Obj.cells #[v] 33)).alloc (Obj.cells #[u] 33) = w2 := ⟨_, rfl⟩
  have hb0 : Below w.heap.size w w2 := by rw [← hw2]; exact ((Below.refl w.heap.size w).alloc (Nat.le_refl _) _).alloc (by simp) _
  have c0 : w2.cell? ⟨w.heap.size, 0, none⟩ = some v := by rw [← hw2]; simp
  have c1 : w2.cell? ⟨w.heap.size + 1, 0, none⟩ = some u := by rw [← hw2]; simp
  have hs2 : w2.heap.size = w.heap.size + 2 := by rw [← hw2]; simp
  have hv2 := At.kept kept_seg hv hb0
  have hu2 := At.kept kept_seg hu hb0
  obtain ⟨a, cap, rfl, hc⟩ := hv2.form
  obtain ⟨a2, cap2, rfl, hc2⟩ := hu2.form
  have HB0 := hide hb0
  have HW2 := hide hw2
  clear hv hu hv2 hu2 hb0 hw2
  by_cases hl : xs.length = ys.length
  · obtain ⟨n, hn⟩ : ∃ n, xs.length = n := ⟨_, rfl⟩
    have hn2 : ys.length = n := by omega
    have HN := hide (And.intro hn hn2)
    have KB : Hid (∀ X, Below w2.heap.size w2 X → X.cell? ⟨w.heap.size, 0, none⟩ = some (.slice a n cap) ∧ X.cell? ⟨w.heap.size + 1, 0, none⟩ = some (.slice a2 n cap2)) := fun X h => by
      rw [← hn]
      refine ⟨(h.cell (p := ⟨w.heap.size, 0, none⟩) (by rw [hs2]; simp)).trans c0, ?_⟩
      rw [hn, ← hn2]
      exact (h.cell (p := ⟨w.heap.size + 1, 0, none⟩) (by rw [hs2]; simp)).trans c1
    have HC : Hid (∀ k (h1 : k < xs.length) (h2 : k < ys.length), ∃ b off b2 off2 a5 k5 a6 k6, a = some ⟨b, off, none⟩ ∧ a2 = some ⟨b2, off2, none⟩ ∧ b < w2.heap.size ∧ b2 < w2.heap.size ∧ w2.cell? ⟨b, off + k * 2, none⟩ = some (.string xs[k].name) ∧ w2.cell? ⟨b2, off2 + k * 2, none⟩ = some (.string ys[k].name) ∧ w2.cell? ⟨b, off + k * 2 + 1, none⟩ = some (.slice a5 xs[k].fields.length k5) ∧ w2.cell? ⟨b2, off2 + k * 2 + 1, none⟩ = some (.slice a6 ys[k].fields.length k6) ∧ FieldsAt lo w2 (.slice a5 xs[k].fields.length k5) xs[k].fields ∧ FieldsAt lo2 w2 (.slice a6 ys[k].fields.length k6) ys[k].fields) := fun k h1 h2 => by
      obtain ⟨b, off, e1, _, l1, r1, _, ve, q1, s1⟩ := hc k h1
      obtain ⟨b2, off2, e2, _, l2, r2, _, ue, q2, s2⟩ := hc2 k h2
      obtain ⟨a5, k5, rfl, _⟩ := s1.form
      obtain ⟨a6, k6, rfl, _⟩ := s2.form
      exact ⟨b, off, b2, off2, a5, k5, a6, k6, e1, e2, l1, l2, r1, r2, q1, q2, s1, s2⟩
    have hw2 := HW2.out
    rw [hn] at c0 hw2 ⊢
    rw [hn2] at c1 hw2 ⊢
    rw [hn] at hl1
    clear hc hc2 hl hl2 hn hn2 HW2
    go_enter Tryz.func17, Tryz.ntmps17
    go_wp2_with fail
    go_loopg [5] n (fun q i wr => ∃ k : Nat, k ≤ n ∧ q = n - k ∧ i = .int .i64 (k : Int) ∧ xs.take k = ys.take k ∧ Below w2.heap.size w2 wr)
    case atStart => exact ⟨0, Nat.zero_le _, rfl, rfl, rfl, Below.refl _ _⟩
    case round =>
      obtain ⟨k, hk, rfl, rfl, htk, hb⟩ := hrel
      have HT := hide htk
      clear htk c0 c1
      obtain ⟨c0, c1⟩ := KB.out wr hb
      have HBR := hide hb
      by_cases hlt : k < n
      · have hki : (k : Int) < (n : Int) := by omega
        have k1 : k < xs.length := by have := HN.out.1; omega
        have k2 : k < ys.length := by have := HN.out.2; omega
        obtain ⟨b, off, b2, off2, a5, k5, a6, k6, rfl, rfl, l1, l2, r1, r2, q1, q2, s1, s2⟩ := HC.out k k1 k2
        have HNAME := hide (fun h => seg_ne_name k1 k2 h)
        have HFLD := hide (fun h => seg_ne_fields k1 k2 h)
        have HT2 := hide (fun e => take_both k1 k2 HT.out e)
        obtain ⟨s, hs⟩ : ∃ s, xs[k] = s := ⟨_, rfl⟩
        obtain ⟨t, ht⟩ : ∃ t, ys[k] = t := ⟨_, rfl⟩
        rw [hs] at r1 q1 s1 HNAME HFLD HT2
        rw [ht] at r2 q2 s2 HNAME HFLD HT2
        obtain ⟨nm, fs⟩ := s
        obtain ⟨nm2, gs⟩ := t
        simp only at r1 q1 s1 r2 q2 s2 HNAME HFLD
        have KS : Hid (∀ X, Below w2.heap.size w2 X → X.cell? ⟨w.heap.size, 0, none⟩ = some (.slice (some ⟨b, off, none⟩) n cap) ∧ X.cell? ⟨w.heap.size + 1, 0, none⟩ = some (.slice (some ⟨b2, off2, none⟩) n cap2) ∧ X.cell? ⟨b, off + k * 2, none⟩ = some (.string nm) ∧ X.cell? ⟨b2, off2 + k * 2, none⟩ = some (.string nm2) ∧ X.cell? ⟨b, off + k * 2 + 1, none⟩ = some (.slice a5 fs.length k5) ∧ X.cell? ⟨b2, off2 + k * 2 + 1, none⟩ = some (.slice a6 gs.length k6)) := fun X h =>
          ⟨(KB.out X h).1, (KB.out X h).2, (h.cell (p := ⟨b, off + k * 2, none⟩) l1).trans r1, (h.cell (p := ⟨b2, off2 + k * 2, none⟩) l2).trans r2, (h.cell (p := ⟨b, off + k * 2 + 1, none⟩) l1).trans q1, (h.cell (p := ⟨b2, off2 + k * 2 + 1, none⟩) l2).trans q2⟩
        clear r1 r2 q1 q2 hs ht c0 c1 k1 k2
        obtain ⟨c0, c1, g0, g1, g2, g3⟩ := KS.out wr hb
        by_cases hnm : nm = nm2
        · subst hnm
          by_cases hfl : fs.length = gs.length
          · obtain ⟨m, hm⟩ : ∃ m, fs.length = m := ⟨_, rfl⟩
            have hm2 : gs.length = m := by omega
            have HM := hide (And.intro hm hm2)
            obtain ⟨a5', k5', e5, hf1⟩ := s1.form
            injection e5 with e5a _ e5c
            subst e5a e5c
            obtain ⟨a6', k6', e6, hf2⟩ := s2.form
            injection e6 with e6a _ e6c
            subst e6a e6c
            have HF : Hid (∀ j (h1 : j < fs.length) (h2 : j < gs.length), ∃ b5 o5 b6 o6 ve ue, a5 = some ⟨b5, o5, none⟩ ∧ a6 = some ⟨b6, o6, none⟩ ∧ b5 < w2.heap.size ∧ b6 < w2.heap.size ∧ w2.cell? ⟨b5, o5 + j, none⟩ = some ve ∧ w2.cell? ⟨b6, o6 + j, none⟩ = some ue ∧ RepsAt lo w2 ve fs[j] ∧ RepsAt lo2 w2 ue gs[j]) := fun j h1 h2 => by
              obtain ⟨b5, o5, e1, _, l1, ve, r1, s1⟩ := hf1 j h1
              obtain ⟨b6, o6, e2, _, l2, ue, r2, s2⟩ := hf2 j h2
              exact ⟨b5, o5, b6, o6, ve, ue, e1, e2, l1, l2, by simpa using r1, by simpa using r2, s1, s2⟩
            have hml := s1.1
            rw [hm] at hml g2 KS
            rw [hm2] at g3 KS
            clear hf1 hf2 s1 s2 hfl hm hm2 HNAME
            go_wp2_with fail
            go_quiet (fail)
            go_wp2_with fail
            go_loopg [6] m (fun q i wx => ∃ j : Nat, j ≤ m ∧ q = m - j ∧ i = .int .i64 (j : Int) ∧ fs.take j = gs.take j ∧ Below w2.heap.size w2 wx)
            case atStart => exact ⟨0, Nat.zero_le _, rfl, rfl, rfl, below_drewN hb _⟩
            case round =>
              obtain ⟨j, hj, rfl, rfl, htj, hbj⟩ := hrel
              obtain ⟨Wj, rfl⟩ : ∃ x, x = wr := ⟨_, rfl⟩
              have HTJ := hide htj
              have HBJ := hide hbj
              clear htj c0 c1 g0 g1 g2 g3
              obtain ⟨c0, c1, g0, g1, g2, g3⟩ := KS.out Wj hbj
              by_cases hjl : j < m
              · have hji : (j : Int) < (m : Int) := by omega
                have j1 : j < fs.length := by have := HM.out.1; omega
                have j2 : j < gs.length := by have := HM.out.2; omega
                obtain ⟨b5, o5, b6, o6, ve, ue, rfl, rfl, l5, l6, r5, r6, p1, p2⟩ := HF.out j j1 j2
                have HNF := hide (fun h => HFLD.out (field_ne j1 j2 h))
                have HTJ2 := hide (fun e => take_both j1 j2 HTJ.out e)
                obtain ⟨f, hf⟩ : ∃ f, fs[j] = f := ⟨_, rfl⟩
                obtain ⟨g, hg⟩ : ∃ g, gs[j] = g := ⟨_, rfl⟩
                rw [hf] at p1 HNF HTJ2
                rw [hg] at p2 HNF HTJ2
                have KS2 : Hid (∀ X, Below w2.heap.size w2 X → X.cell? ⟨w.heap.size, 0, none⟩ = some (.slice (some ⟨b, off, none⟩) n cap) ∧ X.cell? ⟨w.heap.size + 1, 0, none⟩ = some (.slice (some ⟨b2, off2, none⟩) n cap2) ∧ X.cell? ⟨b, off + k * 2 + 1, none⟩ = some (.slice (some ⟨b5, o5, none⟩) m k5) ∧ X.cell? ⟨b2, off2 + k * 2 + 1, none⟩ = some (.slice (some ⟨b6, o6, none⟩) m k6) ∧ X.cell? ⟨b5, o5 + j, none⟩ = some ve ∧ X.cell? ⟨b6, o6 + j, none⟩ = some ue) := fun X h =>
                  ⟨(KS.out X h).1, (KS.out X h).2.1, (KS.out X h).2.2.2.2.1, (KS.out X h).2.2.2.2.2, (h.cell (p := ⟨b5, o5 + j, none⟩) l5).trans r5, (h.cell (p := ⟨b6, o6 + j, none⟩) l6).trans r6⟩
                have HSF := hide (fun X (h : Below w2.heap.size w2 X) => sameField_b f g ve ue X (At.kept kept_rep p1 h) (At.kept kept_rep p2 h))
                obtain ⟨D, hDe⟩ : ∃ D, Wj.drew = D := ⟨_, rfl⟩
                have hD0 : Below w2.heap.size w2 Wj.drew := hbj.drew
                have hD : Below w2.heap.size w2 D := by rw [← hDe]; exact hD0
                clear hf hg j1 j2 r5 r6 p1 p2 hbj g0 g1
                go_wp2_with fail
                go_region_held3 (fun X => X.cell? ⟨w.heap.size, 0, none⟩ = some (.slice (some ⟨b, off, none⟩) n cap) ∧ X.cell? ⟨w.heap.size + 1, 0, none⟩ = some (.slice (some ⟨b2, off2, none⟩) n cap2) ∧ X.cell? ⟨b, off + k * 2 + 1, none⟩ = some (.slice (some ⟨b5, o5, none⟩) m k5) ∧ X.cell? ⟨b2, off2 + k * 2 + 1, none⟩ = some (.slice (some ⟨b6, o6, none⟩) m k6) ∧ X.cell? ⟨b5, o5 + j, none⟩ = some ve ∧ X.cell? ⟨b6, o6 + j, none⟩ = some ue)
                  (first | with_reducible exact KS2.out _ hD0 | with_reducible exact KS2.out _ hD | with_reducible exact KS2.out _ hB9)
                  ((go_at_call 33; refine (HSF.out _ hD).mono ?_; rintro e W9 ⟨bb, rfl, hbb, hb9⟩; have hB9 : Below w2.heap.size w2 W9 := bjoin hb9 hD))
                have hcc : bb = true ∨ bb = false := by cases bb; exact .inr rfl; exact .inl rfl
                rcases hcc with hcc | hcc
                · subst hcc
                  have HXY := hide (HTJ2.out (hbb.1 rfl))
                  have hB9' : Below w2.heap.size w2 W9 := bjoin hb9 hD
                  go_wp2_with fail
                  go_roundg (m - (j + 1))
                  case measure => omega
                  case rel => exact ⟨j + 1, by omega, rfl, by go_num, HXY.out, hB9'⟩
                · subst hcc
                  have HXY := hide (HNF.out (fun e => by have := hbb.2 e; cases this))
                  have hB9' : Below w2.heap.size w2 W9 := bjoin hb9 hD
                  go_wp2_with fail
                  go_ret
                  exact ⟨false, rfl, ⟨fun h => (by cases h), fun h => absurd h HXY.out⟩, bjoin hB9' HB0.out⟩
              · have hji : ¬ (j : Int) < (m : Int) := by omega
                have HXF : Hid (fs = gs) := by
                  have h1 := HM.out
                  have : j = fs.length := by omega
                  have h2 := HTJ.out
                  rw [this] at h2
                  exact take_all (by omega) h2
                have HXY := hide (HT2.out (by rw [HXF.out]))
                clear hbj
                go_wp2_with fail
                go_roundg (n - (k + 1))
                case measure => omega
                case rel => exact ⟨k + 1, by omega, rfl, by go_num, HXY.out, HBJ.out⟩
          · have hfi : ¬ (fs.length : Int) = (gs.length : Int) := by omega
            have hfb : ((fs.length : Int) == (gs.length : Int)) = false := by simpa using hfi
            have HX : Hid (¬ xs = ys) := HFLD.out (fun e => hfl (by rw [e]))
            have q1 := s1.1
            have q2 := s2.1
            clear hfl s1 s2
            go_wp2_with fail
            go_quiet (fail)
            go_wp2_with fail
            go_ret
            exact ⟨false, rfl, ⟨fun h => (by cases h), fun h => absurd h HX.out⟩, bjoin (below_drewN hb _) HB0.out⟩
        · obtain ⟨e1, e2⟩ := toList_ne hnm
          have HX : Hid (¬ xs = ys) := HNAME.out hnm
          have q1 := s1.1
          have q2 := s2.1
          clear hnm s1 s2
          go_wp2_with fail
          go_quiet (fail)
          go_wp2_with fail
          go_ret
          exact ⟨false, rfl, ⟨fun h => (by cases h), fun h => absurd h HX.out⟩, bjoin (below_drewN hb _) HB0.out⟩
      · have hki : ¬ (k : Int) < (n : Int) := by omega
        have HX : Hid (xs = ys) := by
          have h1 := HN.out
          have : k = xs.length := by omega
          have h2 := HT.out
          rw [this] at h2
          exact take_all (by omega) h2
        go_wp2_with fail
        go_ret
        exact ⟨true, rfl, ⟨fun _ => HX.out, fun _ => rfl⟩, bjoin HBR.out HB0.out⟩
  · have hli : ¬ (xs.length : Int) = (ys.length : Int) := by omega
    have hlb : ((xs.length : Int) == (ys.length : Int)) = false := by simpa using hli
    have HX : Hid (¬ xs = ys) := fun e => hl (by rw [e])
    have hw2 := HW2.out
    clear hc hc2 hl HW2
    go_enter Tryz.func17, Tryz.ntmps17
    go_wp2_with fail
    go_ret
    exact ⟨false, rfl, ⟨fun h => (by cases h), fun h => absurd h HX.out⟩, HB0.out⟩
end Go.Proofs.YtfcmhnfdbobnlaaGreatDoor.Msg
