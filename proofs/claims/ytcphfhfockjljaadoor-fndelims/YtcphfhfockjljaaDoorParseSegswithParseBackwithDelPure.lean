import Derived.Test.YtcphfhfockjljaaDoorParseUnescwithSegBufwithCutPure
import Derived.Test.YtcphfhfockjljaaDoorMsgEncodewithMsgInjwithParseData
namespace Go.Proofs.YtcphfhfockjljaaDoor.Msg
open Go.ChangeShapes Go.WideShapes Go.ChangeAt Go.RowKit
set_option linter.unusedVariables false
set_option linter.unusedSimpArgs false

/-! Parse, said over lists -/
def fieldsT (d : ByteArray) (hd : d.size = 5) (l : List UInt8) : List Field := (fieldsL d[0] d[1] d[2] l).map fieldT
def restL (i : Nat) (p : List UInt8) : List UInt8 := if i = 0 then p.drop 8 else p.drop 3
/-- one piece: a segment, or the code -/
def segL (d : ByteArray) (hd : d.size = 5) (i : Nat) (p : List UInt8) : Except Nat Seg :=
  if p.length < 3 ∨ nameB (txt (p.take 3)) = false ∨ (0 < i ∧ p.take 3 = [77, 83, 72]) then .error 4
  else if (restL i p).head?.any (fun c => c != d[0]) = true then .error 4
  else if 250 ≤ i ∨ longB (fieldsT d hd (restL i p)) = true then .error 5
  else match allO (allO (allO (plainO d hd))) (fieldsT d hd (restL i p)) with
    | none => .error 6
    | some g => .ok ⟨txt (p.take 3), g⟩
def segsGo (d : ByteArray) (hd : d.size = 5) : Nat → List (List UInt8) → Except Nat (List Seg)
  | _, [] => .ok []
  | i, p :: ps => match segL d hd i p with
    | .error c => .error c
    | .ok x => (segsGo d hd (i + 1) ps).map (x :: ·)
theorem segs_step {d : ByteArray} {hd : d.size = 5} {ps : List (List UInt8)} {k : Nat} (hk : k < ps.length) {acc : List Seg} {x : Seg} (h : segsGo d hd 0 ps = (segsGo d hd k (ps.drop k)).map (acc ++ ·)) (hx : segL d hd k ps[k] = .ok x) :
    segsGo d hd 0 ps = (segsGo d hd (k + 1) (ps.drop (k + 1))).map ((acc ++ [x]) ++ ·) := by
  rw [h, List.drop_eq_getElem_cons hk]
  have e1 : segsGo d hd k (ps[k] :: ps.drop (k + 1)) = (segsGo d hd (k + 1) (ps.drop (k + 1))).map (x :: ·) := by
    conv => lhs; unfold segsGo
    rw [hx]
  rw [e1]
  cases segsGo d hd (k + 1) (ps.drop (k + 1)) with
  | error c => rfl
  | ok ys => simp [Except.map]
theorem segs_fail {d : ByteArray} {hd : d.size = 5} {ps : List (List UInt8)} {k c : Nat} (hk : k < ps.length) {acc : List Seg} (h : segsGo d hd 0 ps = (segsGo d hd k (ps.drop k)).map (acc ++ ·)) (hx : segL d hd k ps[k] = .error c) : segsGo d hd 0 ps = .error c := by
  rw [h, List.drop_eq_getElem_cons hk]
  have e1 : segsGo d hd k (ps[k] :: ps.drop (k + 1)) = .error c := by
    conv => lhs; unfold segsGo
    rw [hx]
  rw [e1]
  rfl
theorem segs_done {d : ByteArray} {hd : d.size = 5} {ps : List (List UInt8)} {k : Nat} (hk : ps.length ≤ k) {acc : List Seg} (h : segsGo d hd 0 ps = (segsGo d hd k (ps.drop k)).map (acc ++ ·)) : segsGo d hd 0 ps = .ok acc := by
  rw [h, List.drop_eq_nil_of_le hk]
  simp [segsGo, Except.map]
/-- the pieces without an empty one at the end -/
def piecesL (l : List UInt8) : List (List UInt8) := if (cutL 13 l).getLast? = some [] then (cutL 13 l).dropLast else cutL 13 l
def headB (s : ByteArray) : Bool := decide (8 ≤ s.size) && ((s.extract 0 3).toList == [77, 83, 72] && (delimsB (s.extract 3 8) && (decide (s.size ≤ 8) || (s.data.toList[8]? == some 13 || s.data.toList[8]? == s.data.toList[3]?))))
theorem head_size {s : ByteArray} (h : headB s = true) : (s.extract 3 8).size = 5 := by
  unfold headB at h
  rw [Bool.and_eq_true] at h
  have : 8 ≤ s.size := by simpa using h.1
  rw [ByteArray.size_extract]
  omega
def parseL (s : ByteArray) : Except Nat (List Seg) :=
  if s.size = 0 ∨ 40000 < s.size then .error 1
  else if bytesB s = false then .error 2
  else if h : headB s = true then segsGo (s.extract 3 8) (head_size h) 0 (piecesL s.data.toList)
  else .error 3

/-! sizes -/
theorem trimE_mem {α : Type} {p : α → Bool} {xs : List α} {x : α} (h : x ∈ trimE p xs) : x ∈ xs := List.mem_of_mem_take h
theorem compsL_sz (c1 : UInt8) (l : List UInt8) : ∀ c ∈ compsL c1 l, c.length ≤ l.length := fun c h => cutL_sz c1 l c (trimE_mem h)
theorem repsL_sz (c1 c2 : UInt8) (l : List UInt8) : ∀ r ∈ repsL c1 c2 l, ∀ c ∈ r, c.length ≤ l.length := fun r hr c hc => by
  have := trimE_mem hr
  rw [List.mem_map] at this
  obtain ⟨p, hp, rfl⟩ := this
  exact Nat.le_trans (compsL_sz c1 p c hc) (cutL_sz c2 l p hp)
theorem fieldsL_sz (c0 c1 c2 : UInt8) (l : List UInt8) : ∀ f ∈ fieldsL c0 c1 c2 l, ∀ r ∈ f, ∀ c ∈ r, c.length ≤ l.length := fun f hf r hr c hc => by
  cases l with
  | nil => cases hf
  | cons x l =>
    have := trimE_mem hf
    rw [List.mem_map] at this
    obtain ⟨p, hp, rfl⟩ := this
    have h1 := repsL_sz c1 c2 p r hr c hc
    have h2 := cutL_sz c0 l p hp
    simp only [List.length_cons]
    omega
theorem fieldsT_sz (d : ByteArray) (hd : d.size = 5) (l : List UInt8) (hl : l.length ≤ 1048576) : ∀ f ∈ fieldsT d hd l, ∀ r ∈ f, ∀ c ∈ r, c.size ≤ 1048576 := fun f hf r hr c hc => by
  unfold fieldsT at hf
  rw [List.mem_map] at hf
  obtain ⟨f', hf', rfl⟩ := hf
  unfold fieldT at hr
  rw [List.mem_map] at hr
  obtain ⟨r', hr', rfl⟩ := hr
  unfold repT at hc
  rw [List.mem_map] at hc
  obtain ⟨c', hc', rfl⟩ := hc
  rw [txt_size]
  have := fieldsL_sz _ _ _ l f' hf' r' hr' c' hc'
  omega
end Go.Proofs.YtcphfhfockjljaaDoor.Msg

namespace Go.Proofs.YtcphfhfockjljaaDoor.Msg
set_option linter.unusedVariables false
set_option linter.unusedSimpArgs false

/-! what is written with five delimiters is read back -/
structure Dl where
  c0 : UInt8
  c1 : UInt8
  c2 : UInt8
  c3 : UInt8
  c4 : UInt8
def Dl.list (d : Dl) : List UInt8 := [d.c0, d.c1, d.c2, d.c3, d.c4]
structure Dl.Ok (d : Dl) : Prop where
  nd : d.list.Nodup
  good : ∀ c ∈ d.list, badB c = false ∧ plainC c = true
def escD (d : Dl) (c : UInt8) : List UInt8 :=
  if c = d.c0 then [d.c3, 70, d.c3] else if c = d.c1 then [d.c3, 83, d.c3] else if c = d.c2 then [d.c3, 82, d.c3] else if c = d.c3 then [d.c3, 69, d.c3] else if c = d.c4 then [d.c3, 84, d.c3] else [c]
def escsD (d : Dl) (l : List UInt8) : List UInt8 := l.flatMap (escD d)
def repD (d : Dl) (r : Rep) : List UInt8 := joined d.c1 (fun c => escsD d c.data.toList) r
def fieldD (d : Dl) (f : Field) : List UInt8 := joined d.c2 (repD d) f
def fieldsD (d : Dl) (fs : List Field) : List UInt8 := ledW d.c0 (fieldD d) fs
def segDA (d : Dl) (i : Nat) (s : Seg) : List UInt8 := s.name.data.toList ++ (if i = 0 then d.list else []) ++ fieldsD d s.fields
def msgD (d : Dl) (m : List Seg) : List UInt8 := m.zipIdx.flatMap fun p => segDA d p.2 p.1 ++ [13]

theorem bad_letters {c : UInt8} (h : badB c = false) : c ≠ 70 ∧ c ≠ 83 ∧ c ≠ 82 ∧ c ≠ 69 ∧ c ≠ 84 ∧ c ≠ 13 := by
  refine ⟨?_, ?_, ?_, ?_, ?_, ?_⟩ <;> (rintro rfl; revert h; decide)
theorem Dl.Ok.ne {d : Dl} (h : d.Ok) : d.c0 ≠ d.c1 ∧ d.c0 ≠ d.c2 ∧ d.c0 ≠ d.c3 ∧ d.c0 ≠ d.c4 ∧ d.c1 ≠ d.c2 ∧ d.c1 ≠ d.c3 ∧ d.c1 ≠ d.c4 ∧ d.c2 ≠ d.c3 ∧ d.c2 ≠ d.c4 ∧ d.c3 ≠ d.c4 := by
  have := h.nd
  unfold Dl.list at this
  simp only [List.nodup_cons, List.mem_cons, List.not_mem_nil, or_false, not_or, not_false_eq_true, List.nodup_nil, and_true] at this
  obtain ⟨⟨a, b, c, e⟩, ⟨f, g, i⟩, ⟨j, k⟩, l⟩ := this
  exact ⟨a, b, c, e, f, g, i, j, k, l⟩
theorem escD_cases {d : Dl} (h : d.Ok) (c : UInt8) : (∃ k, escD d c = [d.c3, k, d.c3] ∧ k ≠ d.c3 ∧ escL d.c0 d.c1 d.c2 d.c3 d.c4 [k] = some [c] ∧ k ∈ [(70 : UInt8), 83, 82, 69, 84]) ∨ (escD d c = [c] ∧ c ∉ d.list) := by
  have hb := (h.good d.c3 (by simp [Dl.list])).1
  obtain ⟨l1, l2, l3, l4, l5, _⟩ := bad_letters hb
  unfold escD
  by_cases h0 : c = d.c0
  · rw [if_pos h0]; exact .inl ⟨70, rfl, fun e => l1 e.symm, by subst h0; rfl, by decide⟩
  rw [if_neg h0]
  by_cases h1 : c = d.c1
  · rw [if_pos h1]; exact .inl ⟨83, rfl, fun e => l2 e.symm, by subst h1; rfl, by decide⟩
  rw [if_neg h1]
  by_cases h2 : c = d.c2
  · rw [if_pos h2]; exact .inl ⟨82, rfl, fun e => l3 e.symm, by subst h2; rfl, by decide⟩
  rw [if_neg h2]
  by_cases h3 : c = d.c3
  · rw [if_pos h3]; exact .inl ⟨69, rfl, fun e => l4 e.symm, by subst h3; rfl, by decide⟩
  rw [if_neg h3]
  by_cases h4 : c = d.c4
  · rw [if_pos h4]; exact .inl ⟨84, rfl, fun e => l5 e.symm, by subst h4; rfl, by decide⟩
  rw [if_neg h4]
  exact .inr ⟨rfl, by simp [Dl.list, h0, h1, h2, h3, h4]⟩
theorem unesc_back {d : Dl} (h : d.Ok) : ∀ (l cur : List UInt8) (i : Nat), i % 2 = 0 → unescGo (escL d.c0 d.c1 d.c2 d.c3 d.c4) i (cutGo d.c3 cur (escsD d l)) = some (cur ++ l) ∧ (cutGo d.c3 cur (escsD d l)).length % 2 = 1
  | [], cur, i, hi => by
    have e : escsD d [] = [] := rfl
    rw [e]
    refine ⟨?_, rfl⟩
    simp only [cutGo, unescGo, partL, hi, if_true, Option.map_some, List.append_nil]
  | a :: l, cur, i, hi => by
    have e : escsD d (a :: l) = escD d a ++ escsD d l := rfl
    rw [e]
    rcases escD_cases h a with ⟨k, ek, hk, hl, _⟩ | ⟨ea, hn⟩
    · obtain ⟨q1, q2⟩ := unesc_back h l [] (i + 1 + 1) (by omega)
      rw [ek]
      have e1 : cutGo d.c3 cur ([d.c3, k, d.c3] ++ escsD d l) = cur :: [k] :: cutGo d.c3 [] (escsD d l) := by
        simp only [List.cons_append, List.nil_append]
        rw [cutGo, if_pos rfl, cutGo, if_neg hk, cutGo, if_pos rfl]
        rfl
      rw [e1]
      have hi1 : ¬ (i + 1) % 2 = 0 := by omega
      refine ⟨?_, by simp only [List.length_cons]; omega⟩
      simp only [unescGo, partL, hi, if_true, if_neg hi1, hl, q1, Option.map_some, List.nil_append]
      simp
    · have hne : a ≠ d.c3 := fun e => hn (by simp [Dl.list, e])
      obtain ⟨q1, q2⟩ := unesc_back h l (cur ++ [a]) i hi
      rw [ea]
      have e1 : cutGo d.c3 cur ([a] ++ escsD d l) = cutGo d.c3 (cur ++ [a]) (escsD d l) := by
        simp only [List.cons_append, List.nil_append]
        rw [cutGo, if_neg hne]
      rw [e1]
      exact ⟨by rw [q1]; simp, q2⟩
theorem plain_back {d : Dl} (h : d.Ok) (l : List UInt8) : plainL d.c0 d.c1 d.c2 d.c3 d.c4 (escsD d l) = some l := by
  obtain ⟨q1, q2⟩ := unesc_back h l [] 0 rfl
  unfold plainL cutL
  rw [if_neg (by omega), q1]
  rfl
/-! cutting -/
theorem cut_led {α : Type} {c : UInt8} {f : α → List UInt8} : ∀ (xs : List α) (cur : List UInt8), (∀ x ∈ xs, c ∉ f x) → cutGo c cur (ledW c f xs) = cur :: xs.map f
  | [], cur, _ => rfl
  | x :: xs, cur, h => by
    have e : ledW c f (x :: xs) = c :: (f x ++ ledW c f xs) := by simp [ledW]
    rw [e, cutGo, if_pos rfl, cutGo_skip c (f x) _ [] (fun y hy e => h x (List.mem_cons_self ..) (e ▸ hy)), cut_led xs _ (fun y hy => h y (List.mem_cons_of_mem _ hy))]
    simp
theorem cut_joined {α : Type} {c : UInt8} {f : α → List UInt8} (x : α) (xs : List α) (h : ∀ y ∈ x :: xs, c ∉ f y) : cutL c (joined c f (x :: xs)) = (x :: xs).map f := by
  unfold cutL
  rw [joined_cons, cutGo_skip c (f x) _ [] (fun y hy e => h x (List.mem_cons_self ..) (e ▸ hy)), cut_led xs _ (fun y hy => h y (List.mem_cons_of_mem _ hy))]
  simp
theorem keep_full {α : Type} {p : α → Bool} : ∀ (xs : List α) (x : α), xs.getLast? = some x → p x = false → keepN p xs = xs.length
  | [], x, h, _ => by simp at h
  | [y], x, h, hp => by
    simp at h
    subst h
    simp [keepN, hp]
  | y :: z :: xs, x, h, hp => by
    have h' : (z :: xs).getLast? = some x := by simpa [List.getLast?_cons_cons] using h
    have := keep_full (z :: xs) x h' hp
    rw [keepN, this]
    rfl
theorem trim_full {α β : Type} {f : α → List β} {xs : List α} (h : endB (fun x => (f x).length) xs = true) : trimE List.isEmpty (xs.map f) = xs.map f := by
  unfold trimE
  cases hl : xs.getLast? with
  | none =>
    rw [List.getLast?_eq_none_iff] at hl
    rw [hl]
    rfl
  | some x =>
    unfold endB at h
    rw [hl] at h
    have h0 : 0 < (f x).length := by simpa using h
    have e : (xs.map f).getLast? = some (f x) := by rw [List.getLast?_map, hl]; rfl
    rw [keep_full _ _ e (by cases hf : f x with
      | nil => rw [hf] at h0; simp at h0
      | cons a b => rfl)]
    exact List.take_of_length_le (by simp)
theorem endB_congr {α : Type} {f g : α → Nat} {xs : List α} (h : ∀ x ∈ xs, 0 < f x → 0 < g x) (he : endB f xs = true) : endB g xs = true := by
  unfold endB at *
  cases hl : xs.getLast? with
  | none => rfl
  | some x =>
    rw [hl] at he
    simp only [decide_eq_true_eq] at he ⊢
    exact h x (List.mem_of_getLast? hl) he
theorem escD_ne {d : Dl} (h : d.Ok) (c : UInt8) : escD d c ≠ [] := by
  rcases escD_cases h c with ⟨k, e, _⟩ | ⟨e, _⟩ <;> rw [e] <;> simp
theorem escsD_pos {d : Dl} (h : d.Ok) {s : ByteArray} (hs : 0 < s.size) : 0 < (escsD d s.data.toList).length := by
  cases hl : s.data.toList with
  | nil =>
    have : s.data.toList.length = s.size := by simp
    rw [hl] at this
    simp at this
    omega
  | cons a l =>
    have := escD_ne h a
    unfold escsD
    rw [List.flatMap_cons, List.length_append]
    have : 0 < (escD d a).length := List.length_pos_iff.2 this
    omega
theorem escsD_not {d : Dl} (h : d.Ok) {c : UInt8} (hc : c = d.c0 ∨ c = d.c1 ∨ c = d.c2 ∨ c = d.c4) (l : List UInt8) : c ∉ escsD d l := by
  intro hm
  unfold escsD at hm
  rw [List.mem_flatMap] at hm
  obtain ⟨a, _, hm⟩ := hm
  obtain ⟨n01, n02, n03, n04, n12, n13, n14, n23, n24, n34⟩ := h.ne
  have hcl : c ∈ d.list := by rcases hc with rfl | rfl | rfl | rfl <;> simp [Dl.list]
  obtain ⟨l1, l2, l3, l4, l5, _⟩ := bad_letters (h.good c hcl).1
  have hc3 : c ≠ d.c3 := by rcases hc with rfl | rfl | rfl | rfl <;> first | assumption | exact fun e => n34 e.symm
  rcases escD_cases h a with ⟨k, e, _, _, hk⟩ | ⟨e, hn⟩
  · rw [e] at hm
    simp only [List.mem_cons, List.not_mem_nil, or_false] at hm hk
    rcases hm with rfl | rfl | rfl
    · exact hc3 rfl
    · rcases hk with rfl | rfl | rfl | rfl | rfl
      · exact l1 rfl
      · exact l2 rfl
      · exact l3 rfl
      · exact l4 rfl
      · exact l5 rfl
    · exact hc3 rfl
  · rw [e] at hm
    rw [List.mem_singleton.1 hm] at hcl
    exact hn hcl
theorem comps_back {d : Dl} (h : d.Ok) {r : Rep} (hr : repB r = true) : compsL d.c1 (repD d r) = r.map fun c => escsD d c.data.toList := by
  obtain ⟨r1, r2⟩ := rep_parts hr
  unfold compsL repD
  cases r with
  | nil => rfl
  | cons x r =>
    rw [cut_joined x r fun y _ => escsD_not h (.inr (.inl rfl)) _]
    exact trim_full (endB_congr (fun c hc hp => escsD_pos h hp) r1)
theorem repD_not {d : Dl} (h : d.Ok) (r : Rep) : d.c2 ∉ repD d r ∧ d.c0 ∉ repD d r := by
  obtain ⟨n01, n02, n03, n04, n12, n13, n14, n23, n24, n34⟩ := h.ne
  exact ⟨mem_joined (fun e => n12 e.symm) fun c _ => escsD_not h (.inr (.inr (.inl rfl))) _, mem_joined n01 fun c _ => escsD_not h (.inl rfl) _⟩
theorem reps_back {d : Dl} (h : d.Ok) {f : Field} (hf : fieldB f = true) : repsL d.c1 d.c2 (fieldD d f) = f.map fun r => r.map fun c => escsD d c.data.toList := by
  obtain ⟨f1, f2⟩ := field_parts hf
  unfold repsL fieldD
  cases f with
  | nil => rfl
  | cons x f =>
    rw [cut_joined x f fun y _ => (repD_not h y).1]
    have e : ((x :: f).map (repD d)).map (compsL d.c1) = (x :: f).map fun r => r.map fun c => escsD d c.data.toList := by
      rw [List.map_map]
      exact List.map_congr_left fun r hr => comps_back h (f2 r hr)
    rw [e]
    exact trim_full (endB_congr (fun c hc hp => by rw [List.length_map]; exact hp) f1)
theorem fieldD_not {d : Dl} (h : d.Ok) (f : Field) : d.c0 ∉ fieldD d f := by
  obtain ⟨n01, n02, n03, n04, n12, n13, n14, n23, n24, n34⟩ := h.ne
  exact mem_joined n02 fun r _ => (repD_not h r).2
theorem fields_back {d : Dl} (h : d.Ok) {fs : List Field} (h1 : endB List.length fs = true) (h2 : ∀ f ∈ fs, fieldB f = true) : fieldsL d.c0 d.c1 d.c2 (fieldsD d fs) = fs.map fun f => f.map fun r => r.map fun c => escsD d c.data.toList := by
  cases fs with
  | nil => rfl
  | cons x fs =>
    have e : fieldsD d (x :: fs) = d.c0 :: (fieldD d x ++ ledW d.c0 (fieldD d) fs) := by simp [fieldsD, ledW]
    rw [e]
    show trimE List.isEmpty ((cutL d.c0 (fieldD d x ++ ledW d.c0 (fieldD d) fs)).map (repsL d.c1 d.c2)) = _
    rw [← joined_cons, cut_joined x fs fun y _ => fieldD_not h y]
    have e2 : ((x :: fs).map (fieldD d)).map (repsL d.c1 d.c2) = (x :: fs).map fun f => f.map fun r => r.map fun c => escsD d c.data.toList := by
      rw [List.map_map]
      exact List.map_congr_left fun f hf => reps_back h (h2 f hf)
    rw [e2]
    exact trim_full (endB_congr (fun c hc hp => by rw [List.length_map]; exact hp) h1)
theorem allO_map {α β : Type} {g : β → α} {f : α → Option β} : ∀ (xs : List β), (∀ x ∈ xs, f (g x) = some x) → allO f (xs.map g) = some xs
  | [], _ => rfl
  | x :: xs, h => by
    rw [List.map_cons, allO, h x (List.mem_cons_self ..)]
    simp only
    rw [allO_map xs fun y hy => h y (List.mem_cons_of_mem _ hy)]
    rfl
/-! a piece -/
theorem nameL {s : ByteArray} (h : nameB s = true) : ∃ a b c, s.data.toList = [a, b, c] ∧ plainC a = true ∧ plainC b = true ∧ plainC c = true := by
  unfold nameB at h
  split at h
  · rename_i a b c e
    refine ⟨a, b, c, e, ?_⟩
    simp only [Bool.and_eq_true, Bool.or_eq_true, capB, digB, decide_eq_true_eq] at h
    unfold plainC
    simp only [Bool.and_eq_true, decide_eq_true_eq]
    omega
  · cases h
theorem seg_all {b : Bool} {s : Seg} (h : segB b s = true) : nameB s.name = true ∧ (mshB s.name == b) = true ∧ s.fields.length ≤ 30 ∧ endB List.length s.fields = true ∧ ∀ f ∈ s.fields, fieldB f = true := by
  unfold segB at h
  simp only [Bool.and_eq_true, List.all_eq_true, decide_eq_true_eq] at h
  exact ⟨h.1, h.2.1, h.2.2.1, h.2.2.2.1, h.2.2.2.2⟩
theorem long_back {d : Dl} {fs : List Field} (h1 : fs.length ≤ 30) (h2 : ∀ f ∈ fs, fieldB f = true) (g : ByteArray → ByteArray) : longB (fs.map fun f => f.map fun r => r.map g) = false := by
  unfold longB
  rw [Bool.or_eq_false_iff]
  refine ⟨by rw [List.length_map]; simpa using h1, ?_⟩
  rw [Bool.not_eq_false', List.all_eq_true]
  intro f hf
  rw [List.mem_map] at hf
  obtain ⟨f', hf', rfl⟩ := hf
  have hb := h2 f' hf'
  unfold fieldB at hb
  simp only [Bool.and_eq_true, decide_eq_true_eq, List.all_eq_true] at hb
  unfold fldLB
  rw [Bool.and_eq_true]
  refine ⟨by rw [List.length_map]; simpa using hb.1, ?_⟩
  rw [List.all_eq_true]
  intro r hr
  rw [List.mem_map] at hr
  obtain ⟨r', hr', rfl⟩ := hr
  have hc := hb.2.2 r' hr'
  unfold repB at hc
  simp only [Bool.and_eq_true, decide_eq_true_eq] at hc
  unfold repLB
  rw [List.length_map]
  simpa using hc.1
theorem seg_back {d : Dl} (h : d.Ok) {s : Seg} {i : Nat} (hs : segB (i == 0) s = true) (hi : i < 250) {db : ByteArray} (hd : db.size = 5) (e0 : db[0] = d.c0) (e1 : db[1] = d.c1) (e2 : db[2] = d.c2) (e3 : db[3] = d.c3) (e4 : db[4] = d.c4) :
    segL db hd i (segDA d i s) = .ok s := by
  obtain ⟨s1, s2, s3, s4, s5⟩ := seg_all hs
  obtain ⟨a, b, c, hn, _⟩ := nameL s1
  have ht : (segDA d i s).take 3 = [a, b, c] := by unfold segDA; rw [hn]; rfl
  have htx : txt [a, b, c] = s.name := by rw [← hn]; exact txt_of _
  have hr : restL i (segDA d i s) = fieldsD d s.fields := by
    unfold restL segDA
    rw [hn]
    by_cases h0 : i = 0
    · rw [if_pos h0, if_pos h0]; rfl
    · rw [if_neg h0, if_neg h0]; rfl
  have hm : mshB s.name = (i == 0) := eq_of_beq s2
  unfold segL
  rw [ht, hr, htx]
  rw [if_neg (by
    rintro (hl | hl | ⟨hl, hl2⟩)
    · unfold segDA at hl; rw [hn] at hl; simp at hl; omega
    · rw [s1] at hl; cases hl
    · have : mshB s.name = true := by unfold mshB; rw [ByteArray.toList_eq, hn, hl2]; rfl
      rw [this] at hm
      have : (i == 0) = false := by simpa using (by omega : i ≠ 0)
      rw [this] at hm
      cases hm)]
  rw [if_neg (by
    cases hf : s.fields with
    | nil => simp [fieldsD, ledW]
    | cons x fs => simp [fieldsD, ledW, e0])]
  have hT : fieldsT db hd (fieldsD d s.fields) = s.fields.map fun f => f.map fun r => r.map fun c => txt (escsD d c.data.toList) := by
    unfold fieldsT
    rw [e0, e1, e2, fields_back h s4 s5, List.map_map]
    refine List.map_congr_left fun f _ => ?_
    show fieldT _ = _
    unfold fieldT
    rw [List.map_map]
    refine List.map_congr_left fun r _ => ?_
    show repT _ = _
    unfold repT
    rw [List.map_map]
    rfl
  rw [hT, if_neg (by
    rintro (hl | hl)
    · omega
    · rw [long_back (d := d) s3 s5] at hl; cases hl)]
  have hA : allO (allO (allO (plainO db hd))) (s.fields.map fun f => f.map fun r => r.map fun c => txt (escsD d c.data.toList)) = some s.fields :=
    allO_map _ fun f _ => allO_map _ fun r _ => allO_map _ fun c _ => by
      unfold plainO
      rw [txt_data, e0, e1, e2, e3, e4, plain_back h]
      simp only [Option.map_some, txt_of]
  rw [hA]
theorem segsGo_back {d : Dl} (h : d.Ok) {db : ByteArray} (hd : db.size = 5) (e0 : db[0] = d.c0) (e1 : db[1] = d.c1) (e2 : db[2] = d.c2) (e3 : db[3] = d.c3) (e4 : db[4] = d.c4) : ∀ (xs : List Seg) (n : Nat), n + xs.length ≤ 250 → (∀ p ∈ xs.zipIdx n, segB (p.2 == 0) p.1 = true) → segsGo db hd n ((xs.zipIdx n).map fun p => segDA d p.2 p.1) = .ok xs
  | [], n, _, _ => rfl
  | x :: xs, n, hn, hx => by
    rw [List.zipIdx_cons] at hx ⊢
    rw [List.map_cons, segsGo, seg_back h (hx _ (List.mem_cons_self ..)) (by simp at hn; omega) hd e0 e1 e2 e3 e4]
    simp only
    rw [segsGo_back h hd e0 e1 e2 e3 e4 xs (n + 1) (by simp at hn ⊢; omega) fun p hp => hx p (List.mem_cons_of_mem _ hp)]
    rfl
/-! the bytes -/
theorem escsD_mem {d : Dl} (h : d.Ok) {c : UInt8} {l : List UInt8} (hm : c ∈ escsD d l) (hl : ∀ x ∈ l, plainC x = true) : plainC c = true := by
  unfold escsD at hm
  rw [List.mem_flatMap] at hm
  obtain ⟨a, ha, hm⟩ := hm
  rcases escD_cases h a with ⟨k, e, _, _, hk⟩ | ⟨e, hn⟩
  · rw [e] at hm
    simp only [List.mem_cons, List.not_mem_nil, or_false] at hm hk
    have h3 := (h.good d.c3 (by simp [Dl.list])).2
    rcases hm with rfl | rfl | rfl
    · exact h3
    · rcases hk with rfl | rfl | rfl | rfl | rfl <;> decide
    · exact h3
  · rw [e] at hm
    rw [List.mem_singleton.1 hm]
    exact hl a ha
theorem led_mem {α : Type} {c x : UInt8} {f : α → List UInt8} {xs : List α} {P : UInt8 → Prop} (hc : P c) (hf : ∀ y ∈ xs, ∀ z ∈ f y, P z) (h : x ∈ ledW c f xs) : P x := by
  unfold ledW at h
  rw [List.mem_flatMap] at h
  obtain ⟨y, hy, hm⟩ := h
  rcases List.mem_cons.1 hm with rfl | hm
  · exact hc
  · exact hf y hy x hm
theorem joined_mem {α : Type} {c x : UInt8} {f : α → List UInt8} {xs : List α} {P : UInt8 → Prop} (hc : P c) (hf : ∀ y ∈ xs, ∀ z ∈ f y, P z) (h : x ∈ joined c f xs) : P x := by
  cases xs with
  | nil => simp [joined] at h
  | cons y ys =>
    rw [joined_cons] at h
    rcases List.mem_append.1 h with h | h
    · exact hf y (List.mem_cons_self ..) x h
    · exact led_mem hc (fun z hz => hf z (List.mem_cons_of_mem _ hz)) h
theorem segDA_plain {d : Dl} (h : d.Ok) {s : Seg} {i : Nat} {b : Bool} (hs : segB b s = true) : ∀ c ∈ segDA d i s, plainC c = true := by
  obtain ⟨s1, s2, s3, s4, s5⟩ := seg_all hs
  obtain ⟨x, y, z, hn, p1, p2, p3⟩ := nameL s1
  intro c hc
  unfold segDA at hc
  rcases List.mem_append.1 hc with hc | hc
  · rcases List.mem_append.1 hc with hc | hc
    · rw [hn] at hc
      simp only [List.mem_cons, List.not_mem_nil, or_false] at hc
      rcases hc with rfl | rfl | rfl <;> assumption
    · split at hc
      · exact (h.good c hc).2
      · cases hc
  · refine led_mem (P := fun c => plainC c = true) (h.good _ (by simp [Dl.list])).2 (fun f hf c hc => ?_) hc
    refine joined_mem (P := fun c => plainC c = true) (h.good _ (by simp [Dl.list])).2 (fun r hr c hc => ?_) hc
    refine joined_mem (P := fun c => plainC c = true) (h.good _ (by simp [Dl.list])).2 (fun t ht c hc => ?_) hc
    have hp := (rep_parts ((field_parts (s5 f hf)).2 r hr)).2 t ht
    unfold plainB at hp
    exact escsD_mem h hc fun x hx => List.all_eq_true.1 hp x hx
theorem plain_13 {c : UInt8} (h : plainC c = true) : c ≠ 13 := by rintro rfl; revert h; decide
theorem cut_ended {α : Type} {g : α → List UInt8} : ∀ (xs : List α), (∀ x ∈ xs, (13 : UInt8) ∉ g x) → cutGo 13 [] (xs.flatMap fun p => g p ++ [13]) = xs.map g ++ [[]]
  | [], _ => rfl
  | x :: xs, h => by
    rw [List.flatMap_cons, List.append_assoc, cutGo_skip 13 (g x) _ [] (fun y hy e => h x (List.mem_cons_self ..) (e ▸ hy))]
    simp only [List.cons_append, List.nil_append]
    rw [cutGo, if_pos rfl, cut_ended xs fun y hy => h y (List.mem_cons_of_mem _ hy)]
    simp
theorem parse_back {d : Dl} (h : d.Ok) (xs : List Seg) (hsh : shapeB xs = true) (hl : (msgD d xs).length ≤ 40000) : parseL (txt (msgD d xs)) = .ok xs := by
  unfold shapeB at hsh
  simp only [Bool.and_eq_true, decide_eq_true_eq, List.all_eq_true] at hsh
  obtain ⟨h1, h2, h3⟩ := hsh
  have hplain : ∀ p ∈ xs.zipIdx, ∀ c ∈ segDA d p.2 p.1, plainC c = true := fun p hp => segDA_plain h (h3 p hp)
  have hcut : cutL 13 (msgD d xs) = (xs.zipIdx.map fun p => segDA d p.2 p.1) ++ [[]] := cut_ended _ fun p hp hm => plain_13 (hplain p hp 13 hm) rfl
  have hpieces : piecesL (msgD d xs) = xs.zipIdx.map fun p => segDA d p.2 p.1 := by
    unfold piecesL
    rw [hcut]
    simp
  cases xs with
  | nil => simp at h1
  | cons x xs =>
    have hx := h3 (x, 0) (by rw [List.zipIdx_cons]; exact List.mem_cons_self ..)
    obtain ⟨s1, s2, s3, s4, s5⟩ := seg_all hx
    have hm : mshB x.name = true := by have := eq_of_beq s2; simpa using this
    have hn : x.name.data.toList = [77, 83, 72] := by unfold mshB at hm; have := eq_of_beq hm; rw [ByteArray.toList_eq] at this; exact this
    have e : msgD d (x :: xs) = 77 :: 83 :: 72 :: d.c0 :: d.c1 :: d.c2 :: d.c3 :: d.c4 :: (fieldsD d x.fields ++ 13 :: ((xs.zipIdx (0 + 1)).flatMap fun p => segDA d p.2 p.1 ++ [13])) := by
      unfold msgD
      rw [List.zipIdx_cons, List.flatMap_cons]
      simp only [segDA, hn, Dl.list, if_true]
      simp
    have hsz : (txt (msgD d (x :: xs))).size = (msgD d (x :: xs)).length := txt_size _
    have h8 : 9 ≤ (msgD d (x :: xs)).length := by rw [e]; simp; omega
    have hex : ((txt (msgD d (x :: xs))).extract 3 8) = txt d.list := by
      rw [txt_extract, txt_data, e]
      rfl
    have hbytes : bytesB (txt (msgD d (x :: xs))) = true := by
      unfold bytesB
      rw [txt_data, List.all_eq_true]
      intro c hc
      unfold msgD at hc
      rw [List.mem_flatMap] at hc
      obtain ⟨p, hp, hc⟩ := hc
      rcases List.mem_append.1 hc with hc | hc
      · unfold byteC
        rw [hplain p hp c hc, Bool.or_true]
      · rw [List.mem_singleton.1 hc]
        decide
    have hhead : headB (txt (msgD d (x :: xs))) = true := by
      unfold headB
      rw [hex, hsz, txt_data, decide_eq_true (by omega : 8 ≤ (msgD d (x :: xs)).length), Bool.true_and, Bool.and_eq_true, Bool.and_eq_true]
      refine ⟨?_, ?_, ?_⟩
      · rw [txt_extract, txt_data, e, ByteArray.toList_eq, txt_data]
        rfl
      · unfold delimsB
        rw [txt_data, List.all_eq_true]
        obtain ⟨n01, n02, n03, n04, n12, n13, n14, n23, n24, n34⟩ := h.ne
        intro i hi
        have hi5 : i < 5 := by simpa using hi
        have hb : ∀ c ∈ d.list, badB c = false := fun c hc => (h.good c hc).1
        have b0 := hb d.c0 (by simp [Dl.list])
        have b1 := hb d.c1 (by simp [Dl.list])
        have b2 := hb d.c2 (by simp [Dl.list])
        have b3 := hb d.c3 (by simp [Dl.list])
        have b4 := hb d.c4 (by simp [Dl.list])
        match i, hi5 with
        | 0, _ => simp [newAt, Dl.list, b0]
        | 1, _ => simp [newAt, Dl.list, b1, n01]
        | 2, _ => simp [newAt, Dl.list, b2, n02, n12]
        | 3, _ => simp [newAt, Dl.list, b3, n03, n13, n23]
        | 4, _ => simp [newAt, Dl.list, b4, n04, n14, n24, n34]
      · rw [Bool.or_eq_true, Bool.or_eq_true]
        right
        rw [e]
        cases hf : x.fields with
        | nil => left; simp [fieldsD, ledW]
        | cons f fs => right; simp [fieldsD, ledW]
    unfold parseL
    rw [if_neg (by rw [hsz]; omega), if_neg (by rw [hbytes]; simp), dif_pos hhead]
    have key : ∀ (db : ByteArray) (hd : db.size = 5), db = txt d.list → segsGo db hd 0 (piecesL (txt (msgD d (x :: xs))).data.toList) = .ok (x :: xs) := by
      rintro db hd rfl
      rw [txt_data, hpieces]
      exact segsGo_back h hd rfl rfl rfl rfl rfl (x :: xs) 0 (by omega) h3
    exact key _ _ hex
/-! the delimiters of Encode -/
def std : Dl := ⟨124, 94, 126, 92, 38⟩
theorem std_ok : std.Ok := ⟨by decide, by decide⟩
theorem esc_std (c : UInt8) : escD std c = esc c := by
  rcases esc_cases c with ⟨k, e, hk⟩ | ⟨e, n1, n2, n3, n4, n5⟩
  · rw [e]
    rcases hk with ⟨rfl, rfl⟩ | ⟨rfl, rfl⟩ | ⟨rfl, rfl⟩ | ⟨rfl, rfl⟩ | ⟨rfl, rfl⟩ <;> rfl
  · rw [e]
    unfold escD std
    simp [n1, n2, n3, n4, n5]
theorem msg_std (xs : List Seg) : msgD std xs = msgW xs := by
  have e1 : ∀ l, escsD std l = escs l := fun l => by unfold escsD escs; congr 1; funext c; exact esc_std c
  have e2 : repD std = repW := by funext r; unfold repD repW; simp only [e1]; rfl
  have e3 : fieldD std = fieldW := by funext f; unfold fieldD fieldW; rw [e2]; rfl
  have e4 : ∀ i s, segDA std i s ++ [13] = segW i s := fun i s => by unfold segDA segW fieldsD; rw [e3, fieldsW_is]; rfl
  unfold msgD msgW
  simp only [e4]
theorem parse_encoded {xs : List Seg} (h : msgB xs = true) : parseL (encoded xs) = .ok xs := by
  have h' := h
  unfold msgB at h'
  simp only [Bool.and_eq_true, decide_eq_true_eq] at h'
  have := parse_back std_ok xs h'.1 (by rw [msg_std]; exact h'.2)
  rw [msg_std] at this
  rw [encoded_yes h]
  exact this
end Go.Proofs.YtcphfhfockjljaaDoor.Msg

namespace Go.Proofs.YtcphfhfockjljaaDoor.Msg
set_option linter.unusedVariables false
set_option linter.unusedSimpArgs false

/-! a message written with other delimiters: pure -/
def Dl.at (d : Dl) (j : Nat) : UInt8 := d.list.getD j 0
def ltr (j : Nat) : UInt8 := [(70 : UInt8), 83, 82, 69, 84].getD j 0
/-- what the first j delimiters make of a byte -/
def eP (d : Dl) (c : UInt8) : Nat → List UInt8
  | 0 => []
  | j + 1 => eP d c j ++ (if c = d.at j then [d.c3, ltr j, d.c3] else [])
theorem eP_len (d : Dl) (c : UInt8) : ∀ j, (eP d c j).length ≤ 3 * j
  | 0 => Nat.le_refl _
  | j + 1 => by
    have := eP_len d c j
    unfold eP
    rw [List.length_append]
    split
    · simp only [List.length_cons, List.length_nil]; omega
    · simp only [List.length_nil]; omega
theorem eP_five {d : Dl} (h : d.Ok) (c : UInt8) : escD d c = if (eP d c 5).length = 0 then [c] else eP d c 5 := by
  obtain ⟨n01, n02, n03, n04, n12, n13, n14, n23, n24, n34⟩ := h.ne
  have e : eP d c 5 = (((([] ++ (if c = d.c0 then [d.c3, 70, d.c3] else [])) ++ (if c = d.c1 then [d.c3, 83, d.c3] else [])) ++ (if c = d.c2 then [d.c3, 82, d.c3] else [])) ++ (if c = d.c3 then [d.c3, 69, d.c3] else [])) ++ (if c = d.c4 then [d.c3, 84, d.c3] else []) := rfl
  rw [e]
  unfold escD
  by_cases h0 : c = d.c0
  · have a1 : c ≠ d.c1 := by rw [h0]; exact n01
    have a2 : c ≠ d.c2 := by rw [h0]; exact n02
    have a3 : c ≠ d.c3 := by rw [h0]; exact n03
    have a4 : c ≠ d.c4 := by rw [h0]; exact n04
    simp only [if_pos h0, if_neg a1, if_neg a2, if_neg a3, if_neg a4, List.append_nil, List.nil_append]
    rfl
  by_cases h1 : c = d.c1
  · have a2 : c ≠ d.c2 := by rw [h1]; exact n12
    have a3 : c ≠ d.c3 := by rw [h1]; exact n13
    have a4 : c ≠ d.c4 := by rw [h1]; exact n14
    simp only [if_neg h0, if_pos h1, if_neg a2, if_neg a3, if_neg a4, List.append_nil, List.nil_append]
    rfl
  by_cases h2 : c = d.c2
  · have a3 : c ≠ d.c3 := by rw [h2]; exact n23
    have a4 : c ≠ d.c4 := by rw [h2]; exact n24
    simp only [if_neg h0, if_neg h1, if_pos h2, if_neg a3, if_neg a4, List.append_nil, List.nil_append]
    rfl
  by_cases h3 : c = d.c3
  · have a4 : c ≠ d.c4 := by rw [h3]; exact n34
    simp only [if_neg h0, if_neg h1, if_neg h2, if_pos h3, if_neg a4, List.append_nil, List.nil_append]
    rfl
  by_cases h4 : c = d.c4
  · simp only [if_neg h0, if_neg h1, if_neg h2, if_neg h3, if_pos h4, List.append_nil, List.nil_append]
    rfl
  simp only [if_neg h0, if_neg h1, if_neg h2, if_neg h3, if_neg h4, List.append_nil, List.nil_append]
  rfl
theorem escD_le (d : Dl) (c : UInt8) : (escD d c).length ≤ 3 := by
  unfold escD
  repeat (split; · simp)
  simp
theorem escD_ge (d : Dl) (c : UInt8) : 1 ≤ (escD d c).length := by
  unfold escD
  repeat (split; · simp)
  simp
theorem escsD_snoc (d : Dl) (l : List UInt8) (c : UInt8) : escsD d (l ++ [c]) = escsD d l ++ escD d c := by simp [escsD]
theorem escsD_le (d : Dl) (l : List UInt8) : (escsD d l).length ≤ 3 * l.length := by
  induction l with
  | nil => simp [escsD]
  | cons c l ih =>
    have h := escD_le d c
    simp only [escsD, List.flatMap_cons, List.length_append, List.length_cons] at ih ⊢
    omega
theorem escsD_ge (d : Dl) (l : List UInt8) : l.length ≤ (escsD d l).length := by
  induction l with
  | nil => simp [escsD]
  | cons c l ih =>
    have h := escD_ge d c
    simp only [escsD, List.flatMap_cons, List.length_append, List.length_cons] at ih ⊢
    omega
theorem ledW_snoc {α : Type} (c : UInt8) (f : α → List UInt8) (xs : List α) (k : Nat) (h : k < xs.length) : ledW c f (xs.take (k + 1)) = ledW c f (xs.take k) ++ (c :: f xs[k]) := by
  unfold ledW
  rw [List.take_succ_eq_append_getElem h, List.flatMap_append]
  simp
theorem ledW_room {α : Type} (c : UInt8) (f : α → List UInt8) (xs : List α) (k : Nat) (h : k < xs.length) : (ledW c f (xs.take k)).length + (1 + (f xs[k]).length) ≤ (ledW c f xs).length := by
  have h1 : (ledW c f (xs.take (k + 1))).length ≤ (ledW c f xs).length := by
    unfold ledW
    conv => rhs; rw [← List.take_append_drop (k + 1) xs]
    rw [List.flatMap_append, List.length_append]
    omega
  rw [ledW_snoc c f xs k h, List.length_append, List.length_cons] at h1
  omega
def segE (d : Dl) (i : Nat) (s : Seg) : List UInt8 := segDA d i s ++ [13]
theorem msgD_snoc (d : Dl) (xs : List Seg) (k : Nat) (h : k < xs.length) : msgD d (xs.take (k + 1)) = msgD d (xs.take k) ++ segE d k xs[k] := by
  unfold msgD
  rw [zip_snoc xs k h, List.flatMap_append]
  simp [segE]
theorem msgD_room (d : Dl) (xs : List Seg) (k : Nat) (h : k < xs.length) : (msgD d (xs.take k)).length + (segE d k xs[k]).length ≤ (msgD d xs).length := by
  have h1 := flat_take_le (fun p : Seg × Nat => segDA d p.2 p.1 ++ [13]) xs (k + 1)
  change (msgD d (xs.take (k + 1))).length ≤ (msgD d xs).length at h1
  rw [msgD_snoc d xs k h, List.length_append] at h1
  exact h1
theorem repD_le (d : Dl) (r : Rep) : (repD d r).length ≤ 3 * repSz r := by
  have h := flat_le (fun p : ByteArray × Nat => (if p.2 = 0 then [] else [d.c1]) ++ escsD d p.1.data.toList) (fun c => 1 + 3 * strSz c) (fun p => by
    have := escsD_le d p.1.data.toList
    have h2 : p.1.data.toList.length = strSz p.1 := by simp [strSz]
    rw [List.length_append]
    split <;> simp <;> omega) r 0
  rw [sum_lin] at h
  change (repD d r).length ≤ _ at h
  unfold repSz lenSum
  omega
theorem fieldD_le (d : Dl) (f : Field) : (fieldD d f).length ≤ 3 * fieldSz f := by
  have h := flat_le (fun p : Rep × Nat => (if p.2 = 0 then [] else [d.c2]) ++ repD d p.1) (fun c => 1 + 3 * repSz c) (fun p => by
    have := repD_le d p.1
    rw [List.length_append]
    split <;> simp <;> omega) f 0
  rw [sum_lin] at h
  change (fieldD d f).length ≤ _ at h
  unfold fieldSz lenSum
  omega
theorem fieldsD_le (d : Dl) : ∀ fs : List Field, (fieldsD d fs).length ≤ 3 * lenSum fieldSz fs
  | [] => by simp [fieldsD, ledW, lenSum, sumOf]
  | f :: fs => by
    have ih := fieldsD_le d fs
    have hf := fieldD_le d f
    simp only [fieldsD, ledW, lenSum, sumOf, List.flatMap_cons, List.length_append, List.length_cons, List.map_cons, List.sum_cons] at *
    omega
theorem segE_le (d : Dl) (i : Nat) (s : Seg) : (segE d i s).length ≤ 6 + 3 * segSz s := by
  have h := fieldsD_le d s.fields
  have h2 : s.name.data.toList.length = s.name.size := by simp
  unfold segE segDA segSz
  simp only [List.length_append]
  split <;> simp [Dl.list] <;> omega
theorem msgD_le (d : Dl) (m : List Seg) : (msgD d m).length ≤ 6 * msgSz m := by
  have h := flat_le (fun p : Seg × Nat => segDA d p.2 p.1 ++ [13]) (fun s => 6 + 3 * segSz s) (fun p => segE_le d p.2 p.1) m 0
  rw [sum_lin] at h
  change (msgD d m).length ≤ _ at h
  unfold msgSz lenSum
  omega
/-! the delimiters that are chosen -/
def signL : List UInt8 := [33, 35, 124, 36, 94, 126, 42, 38, 95, 61, 43, 123]
def sgn (k : Nat) : UInt8 := signL.getD (k % 12) 0
def dlOf (a s : Nat) : Dl := ⟨sgn a, sgn (a + 1 * s), sgn (a + 2 * s), sgn (a + 3 * s), sgn (a + 4 * s)⟩
theorem dlOf_ok (a b : Nat) (ha : a < 12) (hb : b < 2) : (dlOf a (5 + 2 * b)).Ok :=
  ⟨(by decide : ∀ a < 12, ∀ b < 2, (dlOf a (5 + 2 * b)).list.Nodup) a ha b hb, (by decide : ∀ a < 12, ∀ b < 2, ∀ c ∈ (dlOf a (5 + 2 * b)).list, badB c = false ∧ plainC c = true) a ha b hb⟩
theorem dlOf_take (a s : Nat) : ∀ i, i < 5 → (dlOf a s).list.take (i + 1) = (dlOf a s).list.take i ++ [sgn (a + i * s)]
  | 0, _ => by simp [Dl.list, dlOf]
  | 1, _ => rfl
  | 2, _ => rfl
  | 3, _ => rfl
  | 4, _ => rfl
  | n + 5, h => absurd h (by omega)
end Go.Proofs.YtcphfhfockjljaaDoor.Msg
