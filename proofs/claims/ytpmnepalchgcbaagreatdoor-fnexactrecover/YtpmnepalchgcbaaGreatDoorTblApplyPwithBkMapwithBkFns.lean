import Derived.Test.YtpmnepalchgcbaaGreatDoorTblOpenPwithTblOpenSwithTblPut
import Derived.Test.YtpmnepalchgcbaaGreatDoorTblOk2
import Derived.Test.YtpmnepalchgcbaaGreatDoorChgSpec
import Derived.Test.YtpmnepalchgcbaaGreatDoorFlatAppwithDrawMsgKwithPhase
import Derived.Maps.OwnSet
import Derived.DeepKeys4
namespace Go.Proofs.YtpmnepalchgcbaaGreatDoor.Msg
open Go.ChangeShapes Go.WideShapes Go.ChangeAt Go.RowKit
set_option linter.unusedVariables false
set_option linter.unusedSimpArgs false

/-! a change is applied: pure -/
def stepS (s : Sess) (c : Chg) : Except Int Sess :=
  if c.kind = 2 then (if s.state = 1 then (if 200 < s.rows.length + c.rows.length then .error 4 else .ok { s with rows := s.rows ++ c.rows }) else .error 3)
  else if c.kind = 3 then (if s.state = 1 then .ok { s with state := 2 } else .error 3)
  else if c.kind = 4 then (if s.state = 2 then (if (s.rows.length : Int) < c.n then .error 4 else .ok { s with cursor := c.n }) else .error 3)
  else if c.kind = 5 then (if s.state = 1 then .ok ⟨s.client, s.tag, s.query, s.page, 3, [], 0⟩ else .error 3)
  else (if liveB s.state = true then .ok ⟨s.client, s.tag, s.query, s.page, 4, [], 0⟩ else .error 3)
def atP (xs : List Sess) (i : Nat) : Except Int Sess → List Sess × Int
  | .ok s => (xs.set i s, 0)
  | .error k => (xs, k)
def applyP (xs : List Sess) (c : Chg) : List Sess × Int :=
  if tblB xs = true ∧ chgB c = true then
    (if c.kind = 1 then openP xs c else match xs.findIdx? (keyB c.client c.tag) with
      | some i => atP xs i (stepS (xs.getD i sess0) c)
      | none => (xs, 3))
  else ([], 9)
theorem bnd_sz {lo hi : Nat} {s : ByteArray} (h : boundB lo hi s = true) : s.size ≤ hi := by
  unfold boundB at h
  simp only [Bool.and_eq_true, decide_eq_true_eq] at h
  omega
theorem sess_sm {s : Sess} (h : sessB s = true) : SmS s := by
  unfold sessB at h
  simp only [Bool.and_eq_true] at h
  obtain ⟨⟨_, h1, h2, _, h3⟩, _⟩ := h
  have a1 := bnd_sz h1
  have a2 := bnd_sz h2
  obtain ⟨a3, a4⟩ := rowsB_size h3
  exact ⟨by omega, by omega, by omega, fun r hr => by have := a4 r hr; omega⟩
theorem tbl_sm {xs : List Sess} (h : tblB xs = true) : xs.length ≤ 16 ∧ ∀ s ∈ xs, SmS s := by
  unfold tblB at h
  simp only [Bool.and_eq_true, decide_eq_true_eq] at h
  refine ⟨h.1, fun s hs => ?_⟩
  obtain ⟨i, hi, rfl⟩ := List.mem_iff_getElem.1 hs
  exact sess_sm (h.2 i hi).1
theorem chg_kinds {c : Chg} (h : chgB c = true) : c.kind = 1 ∨ c.kind = 2 ∨ c.kind = 3 ∨ c.kind = 4 ∨ c.kind = 5 ∨ c.kind = 6 := by
  unfold chgB kindB at h
  simp only [Bool.and_eq_true] at h
  have h2 := h.2
  by_cases k1 : c.kind = 1
  · exact .inl k1
  by_cases k2 : c.kind = 2
  · exact .inr (.inl k2)
  by_cases k4 : c.kind = 4
  · exact .inr (.inr (.inr (.inl k4)))
  by_cases k3 : c.kind = 3 ∨ c.kind = 5 ∨ c.kind = 6
  · rcases k3 with h | h | h
    · exact .inr (.inr (.inl h))
    · exact .inr (.inr (.inr (.inr (.inl h))))
    · exact .inr (.inr (.inr (.inr (.inr h))))
  · rw [if_neg k1, if_neg k2, if_neg k4, if_neg k3] at h2
    cases h2
theorem chg_rows {c : Chg} (h : chgB c = true) : c.rows.length ≤ 200 ∧ ∀ r ∈ c.rows, r.size ≤ 200 := by
  unfold chgB kindB at h
  simp only [Bool.and_eq_true] at h
  have h2 := h.2
  have nil : noRowsB c = true → c.rows.length ≤ 200 ∧ ∀ r ∈ c.rows, r.size ≤ 200 := fun hh => by
    unfold noRowsB at hh
    simp only [decide_eq_true_eq] at hh
    have e := List.eq_nil_of_length_eq_zero hh
    rw [e]
    exact ⟨by simp, by simp⟩
  by_cases k1 : c.kind = 1
  · rw [if_pos k1] at h2
    simp only [Bool.and_eq_true] at h2
    exact nil h2.2.1
  rw [if_neg k1] at h2
  by_cases k2 : c.kind = 2
  · rw [if_pos k2] at h2
    simp only [Bool.and_eq_true] at h2
    exact rowsB_size h2.1
  rw [if_neg k2] at h2
  by_cases k4 : c.kind = 4
  · rw [if_pos k4] at h2
    simp only [Bool.and_eq_true] at h2
    exact nil h2.2.2
  rw [if_neg k4] at h2
  split at h2
  · simp only [Bool.and_eq_true] at h2
    exact nil h2.2.1
  · cases h2
/-- the cells of a session in a row that is owned -/
theorem row7 {base : Nat} {X : World} {g n cap : Nat} {ps : List (Sess × Value)} (h : FB tsC 7 51 base X (.slice (some ⟨g, 0, none⟩) n cap) ps) (hz : ps.length ≤ 9223372036854775807) (k : Nat) (hk : k < ps.length) :
    g < X.heap.size ∧ (∀ j, j < 7 → ∃ c, X.cell? ⟨g, k * 7 + j, none⟩ = some c) ∧ ∀ j, X.frozen? ⟨g, j, none⟩ = false := by
  have hb := h.blk (b := g) (by simp [Value.ownBlock])
  obtain ⟨cs, hcs⟩ := hb
  have hB : Box X g 51 cs := hcs
  obtain ⟨h0, hA⟩ := FB.at (C := tsC) (c := 7) (Z := fun _ => True) tsC_len h hz (fun _ _ => trivial)
  rcases hA with ⟨a9, c9, e9, e2⟩ | ⟨b9, off9, c9, e9, hbb, hA⟩
  · rw [e2] at hk; simp at hk
  · injection e9 with e1 _ _
    injection e1 with e1
    injection e1 with e1 e2 _
    subst e1 e2
    refine ⟨hbb.2, fun j hj => ?_, fun j => hB.frozen j⟩
    have := (hA k hk).1 j (by simp [tsC]; exact hj)
    exact ⟨_, by simpa using this⟩
end Go.Proofs.YtpmnepalchgcbaaGreatDoor.Msg

namespace Go.Proofs.YtpmnepalchgcbaaGreatDoor.Msg
open Go.ChangeShapes Go.WideShapes Go.ChangeAt Go.RowKit
open Go.Maps (Keyed)
set_option linter.unusedVariables false
set_option linter.unusedSimpArgs false

/-! the book's map: sessions by client and tag -/
theorem laidOut6 : laidOutB Tryz.prog = true := by kernel_rfl
theorem nTy : Tryz.prog.types.size = 176 := by kernel_rfl
theorem keyRow : 67 < Tryz.prog.types.size := by rw [nTy]; decide
theorem keyDeep : Tryz.prog.keyTypeAt 2 67 = true := by kernel_rfl
theorem keyWide : (match Tryz.prog.underlying 67 with | some (.array _ _) | some (.struct _) => true | _ => false) = true := by kernel_rfl
theorem outKeyed : Keyed Tryz.prog 67 := Keyed.of_law (deep_law_laid laidOut6 (m := 2) (by omega) keyRow keyDeep (by simp only [Tryz.underlying67]))
theorem keyCells : Tryz.prog.cellsOf 67 = 2 := by kernel_rfl
theorem keyInt : Tryz.prog.cellsOf 3 = 1 := by kernel_rfl
theorem keyStr : Tryz.prog.cellsOf 9 = 1 := by kernel_rfl
theorem keyTy : Tryz.prog.keyType 67 = true := by kernel_rfl
theorem nTypes : ∃ m, Tryz.prog.types.size = m + 1 := ⟨176 - 1, by kernel_rfl⟩
theorem key_some (i : Int) (s : ByteArray) (hi : (Lit.int .i64 i).wf = true) (hs : s.size ≤ 9223372036854775807) : ∃ kl, keyOf Tryz.prog 67 (.agg #[.int .i64 i, .string s]) = some kl := by
  obtain ⟨m, hm⟩ := nTypes
  have hs' : s.size ≤ maxLen := by unfold maxLen; omega
  unfold keyOf
  simp only [Tryz.underlying67]
  rw [keyTy, hm]
  have hf : (Value.agg #[.int .i64 i, .string s]).formed Tryz.prog 67 = true := by
    simp [Value.formed, Tryz.underlying67, keyCells]
  rw [hf]
  simp [Value.cells, Program.keyLits, Tryz.underlying67, Tryz.underlying3, Tryz.underlying9, keyCells, keyInt, keyStr, hi, hs']
/-- how an element of the map is read: nil, or the block that it points at the head of -/
def ptrElem2 (v : Value) : Option (DataW Unit × List MemPlace) := match v with
  | .pointer none => some (.nil, [])
  | .pointer (some a) => if a = ⟨a.block, 0, none⟩ then some (.lit (.int .i64 a.block), []) else none
  | _ => none
theorem ptrElem2_nil {v : Value} {ps : List MemPlace} (h : ptrElem2 v = some (.nil, ps)) : v = .pointer none := by
  unfold ptrElem2 at h
  split at h
  · rfl
  · split at h
    · injection h with h; injection h with h1 _; cases h1
    · cases h
  · cases h
theorem ptrElem2_some {v : Value} {b : Nat} {ps : List MemPlace} (h : ptrElem2 v = some (.lit (.int .i64 (b : Int)), ps)) : v = .pointer (some ⟨b, 0, none⟩) := by
  unfold ptrElem2 at h
  split at h
  · injection h with h; injection h with h1 _; cases h1
  · rename_i a
    split at h
    · rename_i ha
      injection h with h
      injection h with h1 _
      injection h1 with h1
      injection h1 with _ h1
      have hb : a.block = b := by omega
      rw [ha, hb]
    · cases h
  · cases h
/-- what the map answers -/
def outD (o : Option Nat) (z : DataW Unit) : DataW Unit := match o with | some b => .lit (.int .i64 (b : Int)) | none => z
def outV (o : Option Nat) : Value := match o with | some b => .pointer (some ⟨b, 0, none⟩) | none => .pointer none
/-- what a map of lines holds -/
def MapF (w : World) (M n : Nat) (f : Int → ByteArray → Option Nat) : Prop :=
  ∃ D, w.ownsMap (H := Unit) Tryz.prog 67 ptrElem2 M n D ∧ ∀ i s kl, keyOf Tryz.prog 67 (.agg #[.int .i64 i, .string s]) = some kl → ∀ z, D.atKey kl z = outD (f i s) z
theorem MapF.new (w : World) : MapF (w.alloc (.map #[] 0)) w.heap.size 0 (fun _ _ => none) := ⟨_, World.ownsMap_made w _ _ _, fun _ _ _ _ _ => rfl⟩
theorem MapF.keep {w w' : World} {M n : Nat} {f : Int → ByteArray → Option Nat} (h : MapF w M n f) (hb : w'.heap[M]? = w.heap[M]?) : MapF w' M n f := by
  obtain ⟨D, ⟨es, c, h1, h2⟩, h3⟩ := h
  exact ⟨D, ⟨es, c, by rw [hb]; exact h1, h2⟩, h3⟩
theorem MapF.put {w w' : World} {M n : Nat} {f : Int → ByteArray → Option Nat} (h : MapF w M n f) (hn : n ≤ 1000000) (i : Int) (s : ByteArray) (b : Nat) (hi : (Lit.int .i64 i).wf = true) (hs : s.size ≤ 9223372036854775807)
    (hr : (Instr.mapUpdate 46 (.map (some M)) (.agg #[.int .i64 i, .string s]) (.pointer (some ⟨b, 0, none⟩))).run Tryz.prog w = .ok () w') : MapF w' M (n + 1) (fun j t => if j = i ∧ t = s then some b else f j t) := by
  obtain ⟨D, h, hD⟩ := h
  obtain ⟨kl, hk⟩ := key_some i s hi hs
  obtain ⟨w2, hr2, ho, _⟩ := h.update outKeyed Tryz.underlying46 (by unfold maxLen; omega) hk (show ptrElem2 (.pointer (some ⟨b, 0, none⟩)) = some (.lit (.int .i64 (b : Int)), []) from by simp [ptrElem2])
  rw [hr] at hr2
  injection hr2 with _ e
  rw [e]
  refine ⟨_, ho, fun j t kl2 hk2 z => ?_⟩
  by_cases hjt : j = i ∧ t = s
  · obtain ⟨rfl, rfl⟩ := hjt
    have e2 : kl = kl2 := Option.some.inj (hk.symm.trans hk2)
    subst e2
    rw [Maps.atKey_put_same h.isMap (outKeyed.key hk)]
    show _ = outD (if j = j ∧ t = t then some b else f j t) z
    rw [if_pos ⟨rfl, rfl⟩]
    rfl
  · have hne : kl2 ≠ kl := fun e => hjt (by
      have := outKeyed.inj (by rw [← e]; exact hk2) hk
      injection this with this
      simp at this
      exact this)
    rw [Maps.atKey_put_other hne, hD j t kl2 hk2 z]
    show _ = outD (if j = i ∧ t = s then some b else f j t) z
    rw [if_neg hjt]
theorem zeroPtr (w : World) : (zeroValue 49).run Tryz.prog w = .ok (.pointer none) w := by
  have hz : Tryz.t49.zero = some (.pointer none) := by kernel_rfl
  simp [zeroValue, go_sem, Tryz.underlying49, hz]
theorem MapF.look {w : World} {M n : Nat} {f : Int → ByteArray → Option Nat} (h : MapF w M n f) (i : Int) (s : ByteArray) (hi : (Lit.int .i64 i).wf = true) (hs : s.size ≤ 9223372036854775807) :
    (Instr.lookup 46 (.map (some M)) (.agg #[.int .i64 i, .string s]) false).run Tryz.prog w = .ok (outV (f i s)) w := by
  obtain ⟨D, h, hD⟩ := h
  obtain ⟨kl, hk⟩ := key_some i s hi hs
  obtain ⟨v, ps, hr, hv⟩ := h.lookup outKeyed Tryz.underlying46 (zeroPtr w) (show ptrElem2 (.pointer none) = some (.nil, []) from rfl) hk
  rw [hD i s kl hk] at hv
  rw [hr]
  cases hf : f i s with
  | none => rw [hf] at hv; rw [ptrElem2_nil hv]; rfl
  | some b => rw [hf] at hv; rw [ptrElem2_some hv]; rfl
/-- a put goes through -/
theorem MapF.puts {w : World} {M n : Nat} {f : Int → ByteArray → Option Nat} (h : MapF w M n f) (hn : n ≤ 1000000) (i : Int) (s : ByteArray) (b : Nat) (hi : (Lit.int .i64 i).wf = true) (hs : s.size ≤ 9223372036854775807) :
    ∃ w', (Instr.mapUpdate 46 (.map (some M)) (.agg #[.int .i64 i, .string s]) (.pointer (some ⟨b, 0, none⟩))).run Tryz.prog w = .ok () w' ∧ MapF w' M (n + 1) (fun j t => if j = i ∧ t = s then some b else f j t) ∧ Only [M] w w' := by
  obtain ⟨D, h1, hD⟩ := id h
  obtain ⟨kl, hk⟩ := key_some i s hi hs
  obtain ⟨w', hr, ho, hg⟩ := h1.update outKeyed Tryz.underlying46 (by unfold maxLen; omega) hk (show ptrElem2 (.pointer (some ⟨b, 0, none⟩)) = some (.lit (.int .i64 (b : Int)), []) from by simp [ptrElem2])
  exact ⟨w', hr, h.put hn i s b hi hs hr, hg.os, hg.tape, hg.output, hg.size, fun k hk1 hk2 => hg.block k hk1 fun e => hk2 (by injection e with e; rw [e]; simp)⟩
theorem MapF.drops {w : World} {M n : Nat} {f : Int → ByteArray → Option Nat} (h : MapF w M n f) (i : Int) (s : ByteArray) (hi : (Lit.int .i64 i).wf = true) (hs : s.size ≤ 9223372036854775807) (ty : TypeId) :
    ∃ w', (Builtin.delete_ #[46, 67] ty #[.map (some M), .agg #[.int .i64 i, .string s]]).run Tryz.prog w = .ok (.tuple #[]) w' ∧ MapF w' M n (fun j t => if j = i ∧ t = s then none else f j t) ∧ Only [M] w w' := by
  obtain ⟨D, h1, hD⟩ := id h
  obtain ⟨kl, hk⟩ := key_some i s hi hs
  obtain ⟨w', hr, ho, es, clock, es', clock', hb, rfl⟩ := h1.drop outKeyed Tryz.underlying46 hk ty
  have hlt : M < w.heap.size := h1.lt
  refine ⟨_, hr, ⟨_, ho, fun j t kl2 hk2 z => ?_⟩, rfl, rfl, rfl, by simp [Go.ChangeMaps.setBlock], fun d hd hn => ?_⟩
  · by_cases hjt : j = i ∧ t = s
    · obtain ⟨rfl, rfl⟩ := hjt
      have e2 : kl = kl2 := Option.some.inj (hk.symm.trans hk2)
      subst e2
      rw [Maps.atKey_del_same]
      show _ = outD (if j = j ∧ t = t then none else f j t) z
      rw [if_pos ⟨rfl, rfl⟩]
      rfl
    · have hne : kl2 ≠ kl := fun e => hjt (by
        have := outKeyed.inj (by rw [← e]; exact hk2) hk
        injection this with this
        simp at this
        exact this)
      rw [Maps.atKey_del_other hne, hD j t kl2 hk2 z]
      show _ = outD (if j = i ∧ t = s then none else f j t) z
      rw [if_neg hjt]
  · have hne : d ≠ M := fun e => hn (by rw [e]; simp)
    simp [Go.ChangeMaps.setBlock, Array.getElem?_setIfInBounds, Ne.symm hne]
theorem MapF.lt {w : World} {M n : Nat} {f : Int → ByteArray → Option Nat} (h : MapF w M n f) : M < w.heap.size := let ⟨_, h, _⟩ := h; h.lt
theorem MapF.ne {w : World} {M n b : Nat} {f : Int → ByteArray → Option Nat} {t : TypeId} {cs : Array Value} (h : MapF w M n f) (hb : Box w b t cs) : b ≠ M := fun e => by
  obtain ⟨D, ⟨es, c, h1, h2⟩, _⟩ := h
  unfold Box at hb
  rw [e, h1] at hb
  cases hb
theorem Box.ne {w : World} {b b' : Nat} {t t' : TypeId} {cs cs' : Array Value} (h : Box w b t cs) (h' : Box w b' t' cs') (ht : t ≠ t') : b ≠ b' := fun e => by
  unfold Box at *
  rw [e, h'] at h
  injection h with h
  injection h with _ h2
  exact ht h2.symm
end Go.Proofs.YtpmnepalchgcbaaGreatDoor.Msg

namespace Go.Proofs.YtpmnepalchgcbaaGreatDoor.Msg
open Go.ChangeShapes Go.WideShapes Go.ChangeAt Go.RowKit
set_option linter.unusedVariables false
set_option linter.unusedSimpArgs false

/-! of the program: key, isLive, slices.Clone of texts -/
def keyV (c : Int) (t : ByteArray) : Value := .agg #[.int .i64 c, .string t]
set_option maxRecDepth 100000 in
set_option maxHeartbeats 2000000 in
theorem skey_any (s : Sess) (a : Option Addr) (n c : Nat) (w : World) :
    Calls Tryz.prog 33 #[sessV s (.slice a n c)] w fun e w' => e = .returned (keyV s.client s.tag) ∧ Below w.heap.size w w' := by
  obtain ⟨client, tag, query, page, state, rows, cursor⟩ := s
  unfold sessV keyV
  dsimp only
  obtain ⟨x2, hx2⟩ : ∃ x, (w.alloc (Obj.cells #[.int .i64 client, .string tag, .string query, .int .i64 page, .int .i64 state, .slice a n c, .int .i64 cursor] 51)).alloc (Obj.cells #[.int .i64 0, .string ⟨#[]⟩] 67) = x := ⟨_, rfl⟩
  have o1 : Box x2 w.heap.size 51 #[.int .i64 client, .string tag, .string query, .int .i64 page, .int .i64 state, .slice a n c, .int .i64 cursor] := by rw [← hx2]; exact (Box.new _ _ _).alloc _
  have o2 : Box x2 (w.heap.size + 1) 67 #[.int .i64 0, .string ⟨#[]⟩] := by
    have := Box.new (w.alloc (Obj.cells #[.int .i64 client, .string tag, .string query, .int .i64 page, .int .i64 state, .slice a n c, .int .i64 cursor] 51)) 67 #[.int .i64 0, .string ⟨#[]⟩]
    rw [Deep.nblk_alloc, hx2] at this
    exact this
  have hb : Below w.heap.size w x2 := by
    rw [← hx2]
    have h1 := (Below.refl w.heap.size w).alloc (Nat.le_refl _) (Obj.cells #[.int .i64 client, .string tag, .string query, .int .i64 page, .int .i64 state, .slice a n c, .int .i64 cursor] 51)
    exact h1.alloc h1.size _
  have d0 : x2.cell? ⟨w.heap.size, 0, none⟩ = some (.int .i64 client) := o1.cell 0 (by simp)
  have d1 : x2.cell? ⟨w.heap.size, 1, none⟩ = some (.string tag) := o1.cell 1 (by simp)
  have z0 : x2.cell? ⟨w.heap.size + 1, 0, none⟩ = some (.int .i64 0) := o2.cell 0 (by simp)
  have z1 : x2.cell? ⟨w.heap.size + 1, 1, none⟩ = some (.string ⟨#[]⟩) := o2.cell 1 (by simp)
  have f0 := o2.frozen 0
  have f1 := o2.frozen 1
  have zl := o2.lt
  have HB := hide (fun x y => (hb.setCell (p := ⟨w.heap.size + 1, 0, none⟩) (Nat.le_succ _) x).setCell (p := ⟨w.heap.size + 1, 1, none⟩) (Nat.le_succ _) y)
  have HX := hide hx2
  clear o1 o2 hb hx2
  go_enter Tryz.func33, Tryz.ntmps33
  go_upto_region 1 with fail
  (try rw [HX.out])
  go_wp2_with fail
  exact bodyPost_ret (v := .agg #[.int .i64 client, .string tag]) (by simp [results, Tryz.results33, go_sem, z0, z1, zl]) rfl ⟨rfl, HB.out _ _⟩
set_option maxRecDepth 100000 in
set_option maxHeartbeats 2000000 in
theorem ckey_any (s : Chg) (a : Option Addr) (n c : Nat) (w : World) :
    Calls Tryz.prog 77 #[chgV s (.slice a n c)] w fun e w' => e = .returned (keyV s.client s.tag) ∧ Below w.heap.size w w' := by
  obtain ⟨kind, client, tag, query, page, rows, n0⟩ := s
  unfold chgV keyV
  dsimp only
  obtain ⟨x2, hx2⟩ : ∃ x, (w.alloc (Obj.cells #[.int .i64 kind, .int .i64 client, .string tag, .string query, .int .i64 page, .slice a n c, .int .i64 n0] 33)).alloc (Obj.cells #[.int .i64 0, .string ⟨#[]⟩] 67) = x := ⟨_, rfl⟩
  have o1 : Box x2 w.heap.size 33 #[.int .i64 kind, .int .i64 client, .string tag, .string query, .int .i64 page, .slice a n c, .int .i64 n0] := by rw [← hx2]; exact (Box.new _ _ _).alloc _
  have o2 : Box x2 (w.heap.size + 1) 67 #[.int .i64 0, .string ⟨#[]⟩] := by
    have := Box.new (w.alloc (Obj.cells #[.int .i64 kind, .int .i64 client, .string tag, .string query, .int .i64 page, .slice a n c, .int .i64 n0] 33)) 67 #[.int .i64 0, .string ⟨#[]⟩]
    rw [Deep.nblk_alloc, hx2] at this
    exact this
  have hb : Below w.heap.size w x2 := by
    rw [← hx2]
    have h1 := (Below.refl w.heap.size w).alloc (Nat.le_refl _) (Obj.cells #[.int .i64 kind, .int .i64 client, .string tag, .string query, .int .i64 page, .slice a n c, .int .i64 n0] 33)
    exact h1.alloc h1.size _
  have d0 : x2.cell? ⟨w.heap.size, 1, none⟩ = some (.int .i64 client) := o1.cell 1 (by simp)
  have d1 : x2.cell? ⟨w.heap.size, 2, none⟩ = some (.string tag) := o1.cell 2 (by simp)
  have z0 : x2.cell? ⟨w.heap.size + 1, 0, none⟩ = some (.int .i64 0) := o2.cell 0 (by simp)
  have z1 : x2.cell? ⟨w.heap.size + 1, 1, none⟩ = some (.string ⟨#[]⟩) := o2.cell 1 (by simp)
  have f0 := o2.frozen 0
  have f1 := o2.frozen 1
  have zl := o2.lt
  have HB := hide (fun x y => (hb.setCell (p := ⟨w.heap.size + 1, 0, none⟩) (Nat.le_succ _) x).setCell (p := ⟨w.heap.size + 1, 1, none⟩) (Nat.le_succ _) y)
  have HX := hide hx2
  clear o1 o2 hb hx2
  go_enter Tryz.func77, Tryz.ntmps77
  go_upto_region 1 with fail
  (try rw [HX.out])
  go_wp2_with fail
  exact bodyPost_ret (v := .agg #[.int .i64 client, .string tag]) (by simp [results, Tryz.results77, go_sem, z0, z1, zl]) rfl ⟨rfl, HB.out _ _⟩
set_option maxHeartbeats 2000000 in
theorem isLive_any (s : Sess) (a : Option Addr) (n c : Nat) (w : World) :
    Calls Tryz.prog 97 #[sessV s (.slice a n c)] w fun e w' => e = .returned (.bool (liveB s.state)) ∧ Below w.heap.size w w' := by
  obtain ⟨client, tag, query, page, state, rows, cursor⟩ := s
  unfold sessV
  dsimp only
  have HB := hide ((Below.refl w.heap.size w).alloc (Nat.le_refl _) (Obj.cells #[.int .i64 client, .string tag, .string query, .int .i64 page, .int .i64 state, .slice a n c, .int .i64 cursor] 51))
  by_cases h1 : state = 1
  · subst h1
    go_enter Tryz.func97, Tryz.ntmps97
    go_wp2_with fail
    go_ret
    exact ⟨rfl, HB.out⟩
  · have h1b : (state == 1) = false := by simpa using h1
    by_cases h2 : state = 2
    · subst h2
      go_enter Tryz.func97, Tryz.ntmps97
      go_wp2_with fail
      go_ret
      exact ⟨rfl, HB.out⟩
    · have h2b : (state == 2) = false := by simpa using h2
      have HX : Hid (liveB state = false) := by show _ = _; unfold liveB; rw [decide_eq_false h1, decide_eq_false h2]; rfl
      go_enter Tryz.func97, Tryz.ntmps97
      go_wp2_with fail
      go_ret
      exact ⟨ret_bool HX.out.symm, HB.out⟩
theorem tflat_one {xs : List ByteArray} : ∀ u ∈ flat tC xs, u.oneCell' = true := fun u hu => by
  simp only [flat, List.mem_flatten, List.mem_map] at hu
  obtain ⟨l, ⟨x, _, rfl⟩, hu⟩ := hu
  rw [List.mem_singleton.1 hu]
  rfl
set_option maxRecDepth 100000 in
/-- many texts more, as they lie -/
theorem appT {w : World} {xs : List ByteArray} {a : Addr} {cap lo : Nat} (hv : StrsAt lo w (.slice (some a) xs.length cap) xs) (hl : xs.length ≤ 100000) (ty : TypeId) :
    ∃ v' w', (Builtin.append_ #[29, 29] ty #[.slice (some ⟨w.heap.size, 0, none⟩) 0 0, .slice (some a) xs.length cap]).run Tryz.prog (w.alloc (.cells #[] 9)) = .ok v' w' ∧ FB tC 1 9 w.heap.size w' v' xs ∧ Below w.heap.size w w' := by
  obtain ⟨i0, hi, hz0, hz1, hz2⟩ := info_parts tinfo
  have hb : Below w.heap.size w (w.alloc (.cells #[] 9)) := (Below.refl _ _).alloc (Nat.le_refl _) _
  have hnews : ∀ j u, (flat tC xs)[j]? = some u → (w.alloc (.cells #[] 9)).cell? (a.add j) = some u := fun j u hu => by
    have hj : j < xs.length := by
      by_cases hj : j < (flat tC xs).length
      · rw [flat_len (c := 1) (fun _ => rfl)] at hj; omega
      · rw [List.getElem?_eq_none (by omega)] at hu; cases hu
    obtain ⟨_, _, e0, hc⟩ := At.form hv
    injection e0 with e0 _ _
    obtain ⟨b, off, e, _, hlt, hel, _⟩ := hc j hj
    rw [← e0] at e
    have e9 := Option.some.inj e
    subst e9
    have h2 := flat_get (C := tC) (c := 1) (fun _ => rfl) xs j 0 hj (by omega)
    rw [show j * 1 + 0 = j by omega, hu] at h2
    have h2 := Option.some.inj h2
    have e2 : ((⟨b, off, none⟩ : Addr).add j) = ⟨b, off + j, none⟩ := by
      simp only [Addr.add]
      by_cases h0 : j = 0
      · subst h0; simp
      · rw [if_neg h0]
    rw [e2, hb.cell (p := ⟨b, off + j, none⟩) hlt, h2]
    simpa [tC] using hel
  obtain ⟨v', w', hr, ho, hg, _, _⟩ := run_append_own_at (P := Tryz.prog) (w := w.alloc (.cells #[] 9)) w.heap.size 29 ty 9 i0 _ 1 16 Tryz.underlying29 hi hz0 hz1 hz2 rfl (by decide) (.slice (some ⟨w.heap.size, 0, none⟩) 0 0) 0 [] (FB.lit tC 1 9 w) a xs.length cap (flat tC xs) (by rw [flat_len (c := 1) (fun _ => rfl)]) hnews tflat_one (by unfold maxLen; omega) (by omega) (by rw [Deep.nblk_alloc]; omega)
  refine ⟨v', w', hr, ?_, hb.trans ⟨hg.os, hg.tape, hg.output, hg.size, fun k hk => hg.block k (by rw [Deep.nblk_alloc]; omega) fun e => ?_⟩⟩
  · unfold FB
    rw [Nat.zero_add, List.nil_append] at ho
    exact ho
  · simp [Value.ownBlock] at e
    omega
set_option maxRecDepth 100000 in
set_option maxHeartbeats 2000000 in
theorem cloneT_any (xs : List ByteArray) (v : Value) (w : World) {lo : Nat} (hv : StrsAt lo w v xs) (hl : xs.length ≤ 100000) :
    Calls Tryz.prog 34 #[v] w fun en w' => ∃ u, en = .returned u ∧ FB tC 1 9 w.heap.size w' u xs ∧ Below w.heap.size w w' := by
  obtain ⟨a, cap, rfl, hc⟩ := At.form hv
  cases a with
  | none =>
    have : xs = [] := by
      cases xs with
      | nil => rfl
      | cons x l => obtain ⟨b, off, e, _⟩ := hc 0 (by simp); cases e
    subst this
    clear hc hv
    have he : ∀ w : World, (binOp .eql 29 (.slice none 0 cap) (.slice none 0 0)).run Tryz.prog w = .ok (.bool true) w := fun _ => rfl
    simp only [List.length_nil]
    go_enter Tryz.func34, Tryz.ntmps34
    go_wp2_with fail
    go_ret
    exact ⟨_, rfl, FB.nil _ _ _ _ _, Below.refl _ _⟩
  | some a =>
    obtain ⟨v', w', hr, hF, hb⟩ := appT hv hl 29
    have HF := hide (And.intro hF hb)
    clear hc hv hF hb
    have he : ∀ w : World, (binOp .eql 29 (.slice (some a) xs.length cap) (.slice none 0 0)).run Tryz.prog w = .ok (.bool false) w := fun _ => rfl
    go_enter Tryz.func34, Tryz.ntmps34
    go_wp2_with (first | (at_builtin; refine wpList_app rfl _ _ 29 rfl hr (by first | rfl | simp [Act.eval, Act.put]) (by first | rfl | simp [Act.eval, Act.put]) ?_))
    go_ret
    exact ⟨_, rfl, HF.out.1, HF.out.2⟩
end Go.Proofs.YtpmnepalchgcbaaGreatDoor.Msg
