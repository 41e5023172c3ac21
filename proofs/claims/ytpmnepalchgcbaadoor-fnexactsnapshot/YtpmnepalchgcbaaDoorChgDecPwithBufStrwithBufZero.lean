import Derived.Test.YtpmnepalchgcbaaDoorRowsImplwithQryNumwithChgPure
import Derived.Test.YtpmnepalchgcbaaDoorParseCutwithParseCompswithImplSplit
import Derived.Test.YtpmnepalchgcbaaDoorBufPutwithParseDatawithCutPure
import Derived.Lib.AppendStr
namespace Go.Proofs.YtpmnepalchgcbaaDoor.Msg
open Go.ChangeShapes Go.WideShapes Go.ChangeAt Go.RowKit
set_option linter.unusedVariables false
set_option linter.unusedSimpArgs false

/-! changes read from texts -/
def atL (ps : List (List UInt8)) (k : Nat) : List UInt8 := ps.getD k []
/-- what the program takes the parts for -/
def looseI (ps : List (List UInt8)) : Chg :=
  { kind := numI (atL ps 0), client := numI (atL ps 1), tag := txt (atL ps 2)
    query := if numI (atL ps 0) = 1 then txt (atL ps 3) else ⟨#[]⟩
    page := if numI (atL ps 0) = 1 then numI (atL ps 4) else 0
    rows := if numI (atL ps 0) = 2 then (ps.drop 3).map txt else []
    n := if numI (atL ps 0) = 4 then numI (atL ps 3) else 0 }
/-- what the specification takes the parts for -/
def looseS (ps : List (List UInt8)) : Chg :=
  { kind := numS (atL ps 0), client := numS (atL ps 1), tag := txt (atL ps 2)
    query := if numS (atL ps 0) = 1 ∧ ps.length = 5 then txt (atL ps 3) else ⟨#[]⟩
    page := if numS (atL ps 0) = 1 ∧ ps.length = 5 then numS (atL ps 4) else 0
    rows := if numS (atL ps 0) = 2 then (ps.drop 3).map txt else []
    n := if numS (atL ps 0) = 4 ∧ ps.length = 4 then numS (atL ps 3) else 0 }
def decI (s : ByteArray) : Option Chg :=
  if s.size = 0 ∨ 60000 < s.size then none else if encB (looseI (cutL 10 s.data.toList)) = s then some (looseI (cutL 10 s.data.toList)) else none
def decS (s : ByteArray) : Option Chg :=
  if (cutL 10 s.data.toList).length < 3 then none else if encB (looseS (cutL 10 s.data.toList)) = s then some (looseS (cutL 10 s.data.toList)) else none

theorem cut_join : ∀ (ps : List (List UInt8)) (p : List UInt8), (∀ q ∈ p :: ps, ∀ x ∈ q, x ≠ 10) → cutL 10 (Lib.join (p :: ps) [10]) = p :: ps
  | [], p, h => by
    rw [Lib.join_one]
    exact cutL_none 10 p (h p (by simp))
  | q :: r, p, h => by
    have ih := cut_join r q fun a ha => h a (List.mem_cons_of_mem _ ha)
    rw [Lib.join_cons] at ih ⊢
    have e : Lib.joinTail [10] (q :: r) = 10 :: (q ++ Lib.joinTail [10] r) := by simp [Lib.joinTail]
    rw [e]
    unfold cutL at ih ⊢
    rw [cutGo_hit 10 p _ [] (h p (by simp)), ih]
    rfl
theorem plain_no10 {s : ByteArray} (h : plainB s = true) : ∀ x ∈ s.data.toList, x ≠ 10 := by
  intro x hx e
  unfold plainB at h
  have := List.all_eq_true.1 h x hx
  rw [e] at this
  exact absurd this (by decide)
theorem dec_no10 (u : Nat) : ∀ x ∈ Lib.decDigits u, x ≠ 10 := by
  intro x hx e
  have := List.all_eq_true.1 (dec_spells u).2.1 x hx
  rw [e] at this
  exact absurd this (by decide)
theorem bound_plain {lo hi : Nat} {s : ByteArray} (h : boundB lo hi s = true) : plainB s = true := by
  unfold boundB at h
  simp only [Bool.and_eq_true] at h
  exact h.2.2
theorem parts_no10 {c : Chg} (h : chgB c = true) : ∀ q ∈ chgParts c, ∀ x ∈ q, x ≠ 10 := by
  intro q hq
  have ht := bound_plain (chgB_tag h)
  unfold chgParts at hq
  simp only [List.mem_cons] at hq
  rcases hq with rfl | rfl | rfl | hq
  · exact dec_no10 _
  · exact dec_no10 _
  · exact plain_no10 ht
  · unfold chgB at h
    rw [Bool.and_eq_true] at h
    have h := h.2
    unfold kindB at h
    unfold chgMore at hq
    split at hq
    · rw [if_pos (by assumption)] at h
      simp only [Bool.and_eq_true] at h
      simp only [List.mem_cons, List.not_mem_nil, or_false] at hq
      rcases hq with rfl | rfl
      · exact plain_no10 (bound_plain h.1.1)
      · exact dec_no10 _
    rename_i n1
    split at hq
    · rw [if_neg n1, if_pos (by assumption)] at h
      simp only [Bool.and_eq_true, rowsB] at h
      obtain ⟨r, hr, rfl⟩ := List.mem_map.1 hq
      exact plain_no10 (bound_plain (List.all_eq_true.1 h.1.2 r hr))
    rename_i n2
    split at hq
    · simp only [List.mem_cons, List.not_mem_nil, or_false] at hq
      subst hq
      exact dec_no10 _
    · cases hq
theorem cut_enc {c : Chg} (h : chgB c = true) : cutL 10 (encL c) = chgParts c := cut_join _ _ (parts_no10 h)
theorem toNat_cast {a : Int} (h : 0 ≤ a) : ((a.toNat : Nat) : Int) = a := Int.toNat_of_nonneg h
theorem nil_of_size {s : ByteArray} (h : s.size = 0) : s = ⟨#[]⟩ := by
  apply ByteArray.ext
  exact Array.eq_empty_of_size_eq_zero h
theorem map_txt (l : List ByteArray) : (l.map (·.data.toList)).map txt = l := by
  rw [List.map_map]
  conv => rhs; rw [← List.map_id l]
  exact List.map_congr_left fun x _ => txt_of x
theorem looseI_parts {c : Chg} (h : chgB c = true) : looseI (chgParts c) = c := by
  have hk := chgB_kind h
  have hcl := chgB_client h
  have h0 : numI (atL (chgParts c) 0) = c.kind := (numI_dec c.kind.toNat (by omega)).trans (toNat_cast (by omega))
  have h1 : numI (atL (chgParts c) 1) = c.client := (numI_dec c.client.toNat (by omega)).trans (toNat_cast (by omega))
  have h2 : txt (atL (chgParts c) 2) = c.tag := txt_of _
  unfold looseI
  rw [h0, h1, h2]
  obtain ⟨kind, client, tag, query, page, rows, n⟩ := c
  simp only at hk hcl ⊢
  rcases chgB_cases h with ⟨a1, a2, a3, a4, a5, a6⟩ | ⟨a1, a2, a3, a4, a5, a6⟩ | ⟨a1, a2, a3, a4, a5, a6⟩ | ⟨a1, a2, a3, a4, a5⟩
  · simp only at a1 a2 a3 a4 a5 a6
    subst a1 a5 a6
    have e3 : txt (atL (chgParts ⟨1, client, tag, query, page, [], 0⟩) 3) = query := txt_of _
    have e4 : numI (atL (chgParts ⟨1, client, tag, query, page, [], 0⟩) 4) = page := (numI_dec page.toNat (by omega)).trans (toNat_cast (by omega))
    simp [e3, e4]
  · simp only at a1 a2 a3 a4 a5 a6
    obtain rfl := nil_of_size a2
    subst a1 a3 a6
    have e3 : ((chgParts ⟨2, client, tag, ⟨#[]⟩, 0, rows, 0⟩).drop 3).map txt = rows := map_txt rows
    simp [e3]
  · simp only at a1 a2 a3 a4 a5 a6
    obtain rfl := nil_of_size a2
    subst a1 a3 a4
    have e3 : numI (atL (chgParts ⟨4, client, tag, ⟨#[]⟩, 0, [], n⟩) 3) = n := (numI_dec n.toNat (by omega)).trans (toNat_cast (by omega))
    simp [e3]
  · simp only at a1 a2 a3 a4 a5
    obtain rfl := nil_of_size a2
    subst a3 a4 a5
    have n1 : ¬ kind = 1 := by omega
    have n2 : ¬ kind = 2 := by omega
    have n4 : ¬ kind = 4 := by omega
    simp [n1, n2, n4]
theorem looseS_parts {c : Chg} (h : chgB c = true) : looseS (chgParts c) = c := by
  have hk := chgB_kind h
  have hcl := chgB_client h
  have h0 : numS (atL (chgParts c) 0) = c.kind := (numS_dec c.kind.toNat (by omega)).trans (toNat_cast (by omega))
  have h1 : numS (atL (chgParts c) 1) = c.client := (numS_dec c.client.toNat (by omega)).trans (toNat_cast (by omega))
  have h2 : txt (atL (chgParts c) 2) = c.tag := txt_of _
  unfold looseS
  rw [h0, h1, h2]
  obtain ⟨kind, client, tag, query, page, rows, n⟩ := c
  simp only at hk hcl ⊢
  rcases chgB_cases h with ⟨a1, a2, a3, a4, a5, a6⟩ | ⟨a1, a2, a3, a4, a5, a6⟩ | ⟨a1, a2, a3, a4, a5, a6⟩ | ⟨a1, a2, a3, a4, a5⟩
  · simp only at a1 a2 a3 a4 a5 a6
    subst a1 a5 a6
    have e3 : txt (atL (chgParts ⟨1, client, tag, query, page, [], 0⟩) 3) = query := txt_of _
    have e4 : numS (atL (chgParts ⟨1, client, tag, query, page, [], 0⟩) 4) = page := (numS_dec page.toNat (by omega)).trans (toNat_cast (by omega))
    have e5 : (chgParts ⟨1, client, tag, query, page, [], 0⟩).length = 5 := rfl
    simp [e3, e4, e5]
  · simp only at a1 a2 a3 a4 a5 a6
    obtain rfl := nil_of_size a2
    subst a1 a3 a6
    have e3 : ((chgParts ⟨2, client, tag, ⟨#[]⟩, 0, rows, 0⟩).drop 3).map txt = rows := map_txt rows
    simp [e3]
  · simp only at a1 a2 a3 a4 a5 a6
    obtain rfl := nil_of_size a2
    subst a1 a3 a4
    have e3 : numS (atL (chgParts ⟨4, client, tag, ⟨#[]⟩, 0, [], n⟩) 3) = n := (numS_dec n.toNat (by omega)).trans (toNat_cast (by omega))
    have e5 : (chgParts ⟨4, client, tag, ⟨#[]⟩, 0, [], n⟩).length = 4 := rfl
    simp [e3, e5]
  · simp only at a1 a2 a3 a4 a5
    obtain rfl := nil_of_size a2
    subst a3 a4 a5
    have n1 : ¬ kind = 1 := by omega
    have n2 : ¬ kind = 2 := by omega
    have n4 : ¬ kind = 4 := by omega
    simp [n1, n2, n4]
theorem encB_ok {c : Chg} {s : ByteArray} (h : encB c = s) (hs : ¬ s.size = 0) : chgB c = true ∧ s = ⟨(encL c).toArray⟩ := by
  unfold encB at h
  split at h
  · exact ⟨by assumption, h.symm⟩
  · rw [← h] at hs
    exact absurd rfl hs
theorem lens_le (b : Nat) : ∀ (l : List (List UInt8)), (∀ q ∈ l, q.length ≤ b) → Lib.lens l ≤ l.length * b
  | [], _ => by simp [Lib.lens]
  | q :: r, h => by
    have h1 := lens_le b r fun a ha => h a (List.mem_cons_of_mem _ ha)
    have h2 := h q (by simp)
    simp only [Lib.lens, List.map_cons, List.sum_cons, List.length_cons, Nat.add_mul, Nat.one_mul] at *
    omega
theorem dec_short (u : Nat) (h : u < 1000) : (Lib.decDigits u).length ≤ 200 := by have := dec_len 2 u (by omega); omega
theorem parts_short {c : Chg} (h : chgB c = true) : (chgParts c).length ≤ 203 ∧ ∀ q ∈ chgParts c, q.length ≤ 200 := by
  have hk := chgB_kind h
  have hcl := chgB_client h
  have ht := tagB_size (chgB_tag h)
  have hl : ∀ s : ByteArray, s.data.toList.length = s.size := fun s => by simp
  have hm : (chgMore c).length ≤ 200 ∧ ∀ q ∈ chgMore c, q.length ≤ 200 := by
    rcases chgB_cases h with ⟨a1, a2, a3, a4, a5, a6⟩ | ⟨a1, a2, a3, a4, a5, a6⟩ | ⟨a1, a2, a3, a4, a5, a6⟩ | ⟨a1, a2, a3, a4, a5⟩
    · unfold chgMore
      rw [if_pos a1]
      refine ⟨by simp, fun q hq => ?_⟩
      simp only [List.mem_cons, List.not_mem_nil, or_false] at hq
      rcases hq with rfl | rfl
      · rw [hl]; exact a2
      · exact dec_short _ (by omega)
    · unfold chgMore
      rw [if_neg (by omega), if_pos a1]
      refine ⟨by simpa using a4, fun q hq => ?_⟩
      obtain ⟨r, hr, rfl⟩ := List.mem_map.1 hq
      show r.data.toList.length ≤ 200
      rw [hl]; exact a5 r hr
    · unfold chgMore
      rw [if_neg (by omega), if_neg (by omega), if_pos a1]
      refine ⟨by simp, fun q hq => ?_⟩
      simp only [List.mem_cons, List.not_mem_nil, or_false] at hq
      subst hq
      exact dec_short _ (by omega)
    · unfold chgMore
      rw [if_neg (by omega), if_neg (by omega), if_neg (by omega)]
      exact ⟨by simp, fun q hq => by cases hq⟩
  refine ⟨by unfold chgParts; simp only [List.length_cons]; have := hm.1; omega, fun q hq => ?_⟩
  unfold chgParts at hq
  simp only [List.mem_cons] at hq
  rcases hq with rfl | rfl | rfl | hq
  · exact dec_short _ (by omega)
  · exact dec_short _ (by omega)
  · rw [hl]; omega
  · exact hm.2 q hq
theorem encL_short {c : Chg} (h : chgB c = true) : (encL c).length ≤ 60000 := by
  obtain ⟨h1, h2⟩ := parts_short h
  have hl := lens_le 200 _ h2
  unfold encL
  unfold chgParts at *
  rw [Lib.join_length]
  simp only [List.length_cons, List.length_nil] at *
  omega
/-- both read the same changes -/
theorem dec_same (s : ByteArray) : decI s = decS s := by
  unfold decI decS
  by_cases h0 : s.size = 0
  · rw [if_pos (.inl h0)]
    have e : s.data.toList = [] := List.length_eq_zero_iff.1 (by simpa using h0)
    rw [e, if_pos (by decide)]
  · by_cases hI : encB (looseI (cutL 10 s.data.toList)) = s
    · obtain ⟨k1, k2⟩ := encB_ok hI h0
      obtain ⟨C, hC⟩ : ∃ C, looseI (cutL 10 s.data.toList) = C := ⟨_, rfl⟩
      rw [hC] at k1 k2 hI ⊢
      have e : s.data.toList = encL C := by rw [k2]
      have hz : s.size ≤ 60000 := by have := encL_short k1; rw [← e] at this; simpa using this
      rw [if_neg (by omega), if_pos hI, e, cut_enc k1, if_neg (by unfold chgParts; simp), looseS_parts k1, if_pos hI]
    · rw [if_neg hI]
      by_cases hS : encB (looseS (cutL 10 s.data.toList)) = s
      · exfalso
        obtain ⟨k1, k2⟩ := encB_ok hS h0
        obtain ⟨C, hC⟩ : ∃ C, looseS (cutL 10 s.data.toList) = C := ⟨_, rfl⟩
        rw [hC] at k1 k2 hS
        have e : s.data.toList = encL C := by rw [k2]
        rw [e, cut_enc k1, looseI_parts k1] at hI
        exact hI hS
      · rw [if_neg hS]
        split <;> split <;> rfl
end Go.Proofs.YtpmnepalchgcbaaDoor.Msg

namespace Go.Proofs.YtpmnepalchgcbaaDoor.Msg
open Go.ChangeShapes Go.WideShapes Go.ChangeAt Go.RowKit
set_option linter.unusedVariables false
set_option linter.unusedSimpArgs false

/-- the bytes of a text behind a slice of bytes: what is owned, and where it lies -/
theorem append_str {P : Program} (w : World) (base : Nat) (t u ty e : TypeId) (i : TypeInfo) (ht : P.underlying t = some (.slice e)) (hu : P.underlying u = some .string) (hi : P.info? e = some i) (hz : i.zero = some (.int .u8 0))
    (hsize : i.size = 1) (hby : i.bytes = 1) (v : Value) (n : Nat) (xs : List Value) (hown : w.ownsRow base e 1 v n xs) (s : ByteArray)
    (h63 : n + s.size ≤ maxLen) (hbytes : n + s.size ≤ 140737488355328) (hbase : base ≤ w.heap.size) :
    ∃ v' w', (Builtin.append_ #[t, u] ty #[v, .string s]).run P w = .ok v' w' ∧ w'.ownsRow base e 1 v' (n + s.size) (xs ++ Lib.strCells s) ∧ w.grownBy w' v.ownBlock ∧
      (v'.ownBlock = v.ownBlock ∨ v'.ownBlock = some w.heap.size) := by
  obtain ⟨v', w', hr, h2, h3, h4⟩ := Lib.run_append_own_string (P := P) w base t u ty e i ht hu hi hz hsize hby v n xs hown s h63 hbytes hbase
  refine ⟨v', w', hr, h2, h3, ?_⟩
  have hsmall : n + s.size ≤ 9223372036854775807 := by simp only [maxLen] at h63; omega
  have hxl : xs.length = n := by simpa using hown.1
  rcases hown.2 with ⟨rfl, rfl⟩ | ⟨g, cap, cur, rfl, hbg, hg, hnc, hcm, hcs, htake⟩
  · by_cases hm : s.size = 0
    · rw [h4.2 ⟨rfl, hm⟩]; exact .inl rfl
    · have hr2 := run_append_nil_string (P := P) w t u ty e i (.int .u8 0) ht hu hi hz s (by omega) (by omega) (by rw [hby]; omega)
      rw [hr2] at hr
      injection hr with hv hw
      rw [← hv]; exact .inr rfl
  · by_cases hroom : n + s.size ≤ cap
    · have hcs' : cur.size = cap := by simpa using hcs
      have hr2 := Lib.run_append_room_string (P := P) w t u ty e i ht hu hi hsize g n cap cur hg s hroom (by omega)
      rw [hr2] at hr
      injection hr with hv hw
      rw [← hv]; exact .inl rfl
    · have holds : ∀ j u, xs[j]? = some u → w.cell? ((⟨g, 0, none⟩ : Addr).add j) = some u := hown.cells (g := g) rfl
      have hr2 := Lib.run_append_grow_string (P := P) w t u ty e i (.int .u8 0) ht hu hi hz ⟨g, 0, none⟩ n cap xs (by rw [hsize]; simpa using hxl) holds s (by omega) (by omega) (by rw [hby]; exact growslice_fits (by omega) (by omega))
      rw [hr2] at hr
      injection hr with hv hw
      rw [← hv]; exact .inr rfl

theorem wpList_str {P : Program} (w : World) {ops : Array Oper} {rest : List Oper} {o : Oper} {a : Act} {Q : Exit → Act → World → Prop} (hgd : o.guard = none) (sl x : Operand) (t u : TypeId)
    (ho : o.op = .call { callee := .builtin .append, args := #[sl, x], argTypes := #[t, u] })
    (base : Nat) (e : TypeId) (i : TypeInfo) (ht : P.underlying t = some (.slice e)) (hu : P.underlying u = some .string) (hi : P.info? e = some i) (hz : i.zero = some (.int .u8 0))
    (hsize : i.size = 1) (hby : i.bytes = 1)
    (v : Value) (n : Nat) (xs : List Value) (hs : a.eval sl = v) (hown : w.ownsRow base e 1 v n xs) (s : ByteArray) (hx : a.eval x = .string s)
    (h63 : n + s.size ≤ maxLen) (hbytes : n + s.size ≤ 140737488355328) (hbase : base ≤ w.heap.size)
    (h : ∀ v' w', w'.ownsRow base e 1 v' (n + s.size) (xs ++ Lib.strCells s) → w.grownBy w' v.ownBlock → (v'.ownBlock = v.ownBlock ∨ v'.ownBlock = some w.heap.size) → wpList P ops Q rest (a.put o.dst v') w') :
    wpList P ops Q (o :: rest) a w := by
  refine wpList_plain hgd fun K hK => ?_
  obtain ⟨v', w', hr, h2, h3, h5⟩ := append_str (P := P) w base t u o.type e i ht hu hi hz hsize hby v n xs hown s h63 hbytes hbase
  unfold Oper.wp execOp
  simp only [ho, resolve, invoke, builtin, Sem.run_bind, Sem.run_pure, Result.andThen_ok, List.map_toArray, List.map_cons, List.map_nil, hs, hx, hr]
  exact hK _ _ (h v' w' h2 h3 h5)

/-- behind an append of a text -/
theorem Buf.text {base : Nat} {w wr w' : World} {v0 v v' : Value} {bs : List UInt8} (s : ByteArray) (hb : Grew w v0 wr v)
    {n : Nat} (hl : n = bs.length) (h : w'.ownsRow base 5 1 v' (n + s.size) (u8s bs ++ Lib.strCells s)) (hg : wr.grownBy w' v.ownBlock) (hat : v'.ownBlock = v.ownBlock ∨ v'.ownBlock = some wr.heap.size) :
    Buf base w' v' (bs ++ s.data.toList) ∧ Grew w v0 w' v' := by
  subst hl
  refine ⟨?_, hb.trans ⟨hg, ?_⟩⟩
  · unfold Buf
    have h1 : (bs ++ s.data.toList).length = bs.length + s.size := by simp
    have h2 : u8s (bs ++ s.data.toList) = u8s bs ++ Lib.strCells s := by simp [u8s, Lib.strCells]
    rw [h1, h2]
    exact h
  · rcases hat with hat | hat
    · exact .inl hat
    · exact .inr ⟨_, hat, Nat.le_refl _⟩
end Go.Proofs.YtpmnepalchgcbaaDoor.Msg

namespace Go.Proofs.YtpmnepalchgcbaaDoor.Msg
open Go.ChangeShapes Go.WideShapes Go.ChangeAt Go.RowKit
set_option linter.unusedVariables false
set_option linter.unusedSimpArgs false

/-- n zeros -/
def zeroB (n : Nat) : ByteArray := ⟨(List.replicate n (0 : UInt8)).toArray⟩
theorem zeroB_size (n : Nat) : (zeroB n).size = n := by simp [zeroB, ByteArray.size]
theorem zeroB_data (n : Nat) : (zeroB n).data.toList = List.replicate n 0 := by simp [zeroB]
theorem zeroB_cells (n : Nat) : (Lib.strCells (zeroB n)).toArray = Builtin.zeroCells (Value.int .u8 0).cells n := by
  apply Array.ext'
  simp only [Lib.strCells, zeroB_data, Builtin.zeroCells, Value.cells]
  apply List.ext_getElem
  · simp
  · intro i h1 h2
    simp [Nat.mod_one]

theorem wrap_small (n : Nat) (h : n ≤ 140737488355328) : IntKind.i64.wrap (n : Int) = (n : Int) := by
  rw [IntKind.wrap_i64]
  omega
/-- 'append(b, make([]byte, n)...)' is 'append(b, s...)' of n zeros -/
theorem append_zeros {P : Program} (w : World) (t u st ty e : TypeId) (i : TypeInfo) (ht : P.underlying t = some (.slice e)) (hu : P.underlying u = some (.int .i64)) (hst : P.underlying st = some .string) (hi : P.info? e = some i) (hz : i.zero = some (.int .u8 0))
    (hsize : i.size = 1) (hby : i.bytes = 1) (b : Option Addr) (sLen sCap n : Nat) (hn : sLen + n ≤ 140737488355328) :
    (Builtin.append_ #[t, u] ty #[.slice b sLen sCap, .int .i64 (n : Int)]).run P w = (Builtin.append_ #[t, st] ty #[.slice b sLen sCap, .string (zeroB n)]).run P w := by
  have h1 : IntKind.i64.wrap (n : Int) = (n : Int) := by
    exact wrap_small n (by omega)
  have h2 : ¬ (n : Int) < 0 := by omega
  have h3 : ¬ (281474976710656 : Int) < (n : Int) := by omega
  have h4 : ¬ (9223372036854775807 : Int) < (sLen : Int) + (n : Int) := by omega
  have hf : ∀ W : World, (Builtin.firstCells 1 n (.string (zeroB n))).run P W = .ok (Builtin.zeroCells (Value.int .u8 0).cells n) W := fun W => by
    have := Lib.run_firstCells_string (P := P) W 1 (zeroB n)
    rw [zeroB_size, zeroB_cells] at this
    exact this
  have h10 : IntKind.i64.wrap 0 = 0 := by have := wrap_small 0 (by omega); simpa using this
  have hz0 : Builtin.zeroCells (Value.int .u8 0).cells 0 = #[] := by simp [Builtin.zeroCells]
  by_cases hroom : sLen + n ≤ sCap
  · by_cases h0 : n = 0
    · subst h0
      simp [Builtin.append_, run_underlying ht, run_underlying hu, run_underlying hst, sizeOf, typeInfo, hi, hsize, hby, Builtin.lenOf, asInt, asIntOf, h10, zeroB_size, zeroValue, hz, hf, hz0]
      simp only [Nat.add_zero] at hroom
      simp [hroom]
    · simp [Builtin.append_, run_underlying ht, run_underlying hu, run_underlying hst, sizeOf, typeInfo, hi, hsize, hby, Builtin.lenOf, asInt, asIntOf, h1, h2, h3, zeroB_size, zeroValue, hz, hroom, hf, h0]
  · have h5 : ¬ (281474976710656 < Builtin.nextslicecap (sLen + n) sCap) := by
      have := growslice_fits (need := sLen + n) (old := sCap) (bytes := 1) (by omega) (by omega)
      omega
    by_cases h0 : n = 0
    · subst h0
      simp [Builtin.append_, run_underlying ht, run_underlying hu, run_underlying hst, sizeOf, typeInfo, hi, hsize, hby, Builtin.lenOf, asInt, asIntOf, h10, zeroB_size, zeroValue, hz, hf, hz0]
      simp only [Nat.add_zero, Int.ofNat_zero, Int.add_zero] at hroom h4 h5
      simp [hroom, h4, h5]
    · simp [Builtin.append_, run_underlying ht, run_underlying hu, run_underlying hst, sizeOf, typeInfo, hi, hsize, hby, Builtin.lenOf, asInt, asIntOf, h1, h2, h3, h4, h5, zeroB_size, zeroValue, hz, hroom, hf, h0]
end Go.Proofs.YtpmnepalchgcbaaDoor.Msg
