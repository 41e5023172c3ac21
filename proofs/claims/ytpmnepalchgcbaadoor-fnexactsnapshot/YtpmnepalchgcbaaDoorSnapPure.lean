import Derived.Test.YtpmnepalchgcbaaDoorFlatKitwithPhasewithTblOk2
import Derived.Test.YtpmnepalchgcbaaDoorTblKitwithTblCopyTwithTblOwn
import Derived.Test.YtpmnepalchgcbaaDoorChgDecPwithBufStrwithBufZero
import Derived.Test.YtpmnepalchgcbaaDoorBufFzwithRecPurewithBufKit
import Derived.Test.YtpmnepalchgcbaaDoorFlatAppwithDrawMsgKwithTblCopy
namespace Go.Proofs.YtpmnepalchgcbaaDoor.Msg
open Go.ChangeShapes Go.WideShapes Go.ChangeAt Go.RowKit
set_option linter.unusedVariables false
set_option linter.unusedSimpArgs false

/-! the changes that make a session, and a table's snapshot, over lists -/
def chO (s : Sess) : Chg := ⟨1, s.client, s.tag, s.query, s.page, [], 0⟩
def chR (s : Sess) : Chg := ⟨2, s.client, s.tag, ⟨#[]⟩, 0, s.rows, 0⟩
def chC (s : Sess) : Chg := ⟨4, s.client, s.tag, ⟨#[]⟩, 0, [], s.cursor⟩
def ch0 (k : Int) (s : Sess) : Chg := ⟨k, s.client, s.tag, ⟨#[]⟩, 0, [], 0⟩
/-- the specification's, one test behind the other -/
def pS0 (s : Sess) : List Chg := [chO s]
def pS1 (s : Sess) : List Chg := if 0 < s.rows.length then pS0 s ++ [chR s] else pS0 s
def pS2 (s : Sess) : List Chg := if s.state = 2 then pS1 s ++ [ch0 3 s] else pS1 s
def pS3 (s : Sess) : List Chg := if s.cursor ≠ 0 then pS2 s ++ [chC s] else pS2 s
def pS4 (s : Sess) : List Chg := if s.state = 3 then pS3 s ++ [ch0 5 s] else pS3 s
def pastS (s : Sess) : List Chg := if s.state = 4 then pS4 s ++ [ch0 6 s] else pS4 s
/-- the program's -/
def pI2 (s : Sess) : List Chg := if s.state = 2 then pS1 s ++ [ch0 3 s] else if s.state = 3 then pS1 s ++ [ch0 5 s] else if s.state = 4 then pS1 s ++ [ch0 6 s] else pS1 s
def pastI (s : Sess) : List Chg := if s.cursor ≠ 0 then pI2 s ++ [chC s] else pI2 s
theorem past_same {s : Sess} (h : sessB s = true) : pastI s = pastS s := by
  unfold sessB at h
  rw [Bool.and_eq_true] at h
  have h := h.2
  unfold stateB at h
  unfold pastI pastS pS4 pS3 pS2 pI2
  split at h
  · rename_i e
    rw [e]
    simp
  split at h
  · rename_i e
    rw [e]
    simp
  split at h
  · rename_i e
    simp only [Bool.and_eq_true, decide_eq_true_eq] at h
    rcases e with e | e <;> rw [e, h.1] <;> simp
  · cases h
theorem pS0_len (s : Sess) : (pS0 s).length ≤ 1 := Nat.le_refl _
theorem pS1_len (s : Sess) : (pS1 s).length ≤ 2 := by unfold pS1 pS0; split <;> simp
theorem pS2_len (s : Sess) : (pS2 s).length ≤ 3 := by have := pS1_len s; unfold pS2; split <;> simp <;> omega
theorem pS3_len (s : Sess) : (pS3 s).length ≤ 4 := by have := pS2_len s; unfold pS3; split <;> simp <;> omega
theorem pS4_len (s : Sess) : (pS4 s).length ≤ 5 := by have := pS3_len s; unfold pS4; split <;> simp <;> omega
theorem pastS_len (s : Sess) : (pastS s).length ≤ 6 := by have := pS4_len s; unfold pastS; split <;> simp <;> omega
theorem pI2_len (s : Sess) : (pI2 s).length ≤ 3 := by have := pS1_len s; unfold pI2; split <;> (try split) <;> (try split) <;> simp <;> omega
theorem pastI_len (s : Sess) : (pastI s).length ≤ 4 := by have := pI2_len s; unfold pastI; split <;> simp <;> omega
/-- a change of a session: its rows are the session's, or there are none -/
def OfS (s : Sess) (c : Chg) : Prop := c.tag = s.tag ∧ (c.query = s.query ∨ c.query = ⟨#[]⟩) ∧ (c.kind = 2 ∧ c.rows = s.rows ∨ c.kind ≠ 2 ∧ c.rows = [])
theorem ofS_O (s : Sess) : OfS s (chO s) := ⟨rfl, .inl rfl, .inr ⟨(show (1 : Int) ≠ 2 by decide), rfl⟩⟩
theorem ofS_R (s : Sess) : OfS s (chR s) := ⟨rfl, .inr rfl, .inl ⟨rfl, rfl⟩⟩
theorem ofS_C (s : Sess) : OfS s (chC s) := ⟨rfl, .inr rfl, .inr ⟨(show (4 : Int) ≠ 2 by decide), rfl⟩⟩
theorem ofS_0 (s : Sess) (k : Int) (h : k ≠ 2) : OfS s (ch0 k s) := ⟨rfl, .inr rfl, .inr ⟨h, rfl⟩⟩
theorem ofS_pS1 (s : Sess) : ∀ c ∈ pS1 s, OfS s c := by
  unfold pS1 pS0
  split
  · intro c hc
    simp at hc
    rcases hc with rfl | rfl
    · exact ofS_O s
    · exact ofS_R s
  · intro c hc
    simp at hc
    subst hc
    exact ofS_O s
theorem ofS_snoc {s : Sess} {l : List Chg} {c : Chg} (h : ∀ x ∈ l, OfS s x) (hc : OfS s c) : ∀ x ∈ l ++ [c], OfS s x := by
  intro x hx
  rcases List.mem_append.1 hx with hx | hx
  · exact h x hx
  · rw [List.mem_singleton.1 hx]; exact hc
theorem ofS_past (s : Sess) : ∀ c ∈ pastS s, OfS s c := by
  have h1 := ofS_pS1 s
  have h2 : ∀ c ∈ pS2 s, OfS s c := by unfold pS2; split; exact ofS_snoc h1 (ofS_0 s 3 (by decide)); exact h1
  have h3 : ∀ c ∈ pS3 s, OfS s c := by unfold pS3; split; exact ofS_snoc h2 (ofS_C s); exact h2
  have h4 : ∀ c ∈ pS4 s, OfS s c := by unfold pS4; split; exact ofS_snoc h3 (ofS_0 s 5 (by decide)); exact h3
  unfold pastS; split; exact ofS_snoc h4 (ofS_0 s 6 (by decide)); exact h4
theorem ofS_pastI (s : Sess) : ∀ c ∈ pastI s, OfS s c := by
  have h1 := ofS_pS1 s
  have h2 : ∀ c ∈ pI2 s, OfS s c := by
    unfold pI2
    split
    · exact ofS_snoc h1 (ofS_0 s 3 (by decide))
    split
    · exact ofS_snoc h1 (ofS_0 s 5 (by decide))
    split
    · exact ofS_snoc h1 (ofS_0 s 6 (by decide))
    · exact h1
  unfold pastI; split; exact ofS_snoc h2 (ofS_C s); exact h2

/-- the records of changes -/
def recC (c : Chg) : List UInt8 := (recB (encB c)).data.toList
def snapL (cs : List Chg) : List UInt8 := (cs.map recC).flatten
def outL (xs : List Sess) : List UInt8 := (xs.map fun s => snapL (pastS s)).flatten
def snapB (xs : List Sess) : ByteArray := if tblB xs then ⟨(outL xs).toArray⟩ else ⟨#[]⟩
theorem encB_size (c : Chg) : (encB c).size ≤ 60000 := by
  unfold encB
  split
  · have := encL_short (by assumption)
    show (encL c).toArray.size ≤ 60000
    simpa using this
  · exact Nat.zero_le _
theorem recC_len (c : Chg) : (recC c).length ≤ 61952 ∧ (recB (encB c)).size ≤ 61952 := by
  have h := recB_size (encB_size c)
  have h2 := encB_size c
  have h3 : (recB (encB c)).size ≤ 61952 := by rw [h]; unfold sectN; omega
  refine ⟨?_, h3⟩
  unfold recC
  simpa using h3
theorem snapL_len : ∀ cs : List Chg, (snapL cs).length ≤ cs.length * 61952
  | [] => by simp [snapL]
  | c :: t => by
    have h := snapL_len t
    have h2 := (recC_len c).1
    unfold snapL at *
    simp only [List.map_cons, List.flatten_cons, List.length_append, List.length_cons, Nat.add_mul]
    omega
theorem outL_len : ∀ xs : List Sess, (outL xs).length ≤ xs.length * 371712
  | [] => by simp [outL]
  | s :: t => by
    have h := outL_len t
    have h2 := snapL_len (pastS s)
    have h3 := pastS_len s
    unfold outL at *
    simp only [List.map_cons, List.flatten_cons, List.length_append, List.length_cons, Nat.add_mul]
    omega
theorem snapL_step (cs : List Chg) (k : Nat) (h : k < cs.length) : snapL (cs.take (k + 1)) = snapL (cs.take k) ++ recC cs[k] := by
  unfold snapL
  rw [List.take_succ_eq_append_getElem h, List.map_append, List.flatten_append]
  simp
theorem outL_step (xs : List Sess) (k : Nat) (h : k < xs.length) : outL (xs.take (k + 1)) = outL (xs.take k) ++ snapL (pastS xs[k]) := by
  unfold outL
  rw [List.take_succ_eq_append_getElem h, List.map_append, List.flatten_append]
  simp
theorem tblB_sess {xs : List Sess} (h : tblB xs = true) : xs.length ≤ 16 ∧ ∀ i (hi : i < xs.length), sessB xs[i] = true := by
  unfold tblB at h
  rw [Bool.and_eq_true, decide_eq_true_eq, decide_eq_true_eq] at h
  exact ⟨h.1, fun i hi => (h.2 i hi).1⟩
theorem sessB_small {s : Sess} (h : sessB s = true) : s.tag.size ≤ 16 ∧ s.query.size ≤ 200 ∧ s.rows.length ≤ 200 := by
  unfold sessB at h
  simp only [Bool.and_eq_true] at h
  exact ⟨tagB_size h.1.2.1, textB_size h.1.2.2.1, (rowsB_size h.1.2.2.2.2).1⟩
theorem ofS_small {s : Sess} {c : Chg} (h : sessB s = true) (hc : OfS s c) : c.tag.size ≤ 1048576 ∧ c.query.size ≤ 1048576 := by
  obtain ⟨h1, h2, _⟩ := sessB_small h
  obtain ⟨e1, e2, _⟩ := hc
  refine ⟨by rw [e1]; omega, ?_⟩
  rcases e2 with e | e
  · rw [e]; omega
  · rw [e]; decide

/-! a slice of changes of one session: 'rv' is where its rows lie -/
def cgR (rv : Value) (c : Chg) : Value := if c.kind = 2 then rv else .slice none 0 0
def cgC (rv : Value) (c : Chg) : List Value := [.int .i64 c.kind, .int .i64 c.client, .string c.tag, .string c.query, .int .i64 c.page, cgR rv c, .int .i64 c.n]
theorem cgC_len (rv : Value) (c : Chg) : (cgC rv c).length = 7 := rfl
theorem info_Chg : (Tryd.prog.info? 40).map (fun i => (i.zero, i.size, i.bytes)) = some (some (.agg #[.int .i64 0, .int .i64 0, .string ByteArray.empty, .string ByteArray.empty, .int .i64 0, .slice none 0 0, .int .i64 0]), 7, 88) := by kernel_rfl
theorem cgC_one (a : Option Addr) (n cap : Nat) (c : Chg) : ∀ u ∈ cgC (.slice a n cap) c, u.oneCell' = true := by
  intro u hu
  simp only [cgC, cgR, List.mem_cons, List.not_mem_nil, or_false] at hu
  rcases hu with rfl | rfl | rfl | rfl | rfl | rfl | rfl
  all_goals first | rfl | (split <;> rfl)
theorem FB.lit1 {α : Type} {C : α → List Value} {c : Nat} (hC : ∀ x, (C x).length = c) (e : TypeId) (w : World) (x : α) : FB C c e w.heap.size (w.alloc (.cells (C x).toArray e)) (.slice (some ⟨w.heap.size, 0, none⟩) 1 1) [x] := by
  have h := World.ownsRow_lit (base := w.heap.size) (e := e) (size := c) w (C x).toArray 1 (Nat.le_refl _) (by unfold maxLen; omega) (by simp [hC])
  unfold FB
  have e2 : flat C [x] = C x := by simp [flat]
  rw [e2]
  simpa using h
/-- reading one of them -/
theorem cg_cells {rv : Value} {base : Nat} {X : World} {a : Option Addr} {n cap : Nat} {cs : List Chg} (h : FB (cgC rv) 7 40 base X (.slice a n cap) cs) (hz : cs.length ≤ 1000) (k : Nat) (hk : k < cs.length) :
    ∃ b off, a = some ⟨b, off, none⟩ ∧ b < X.heap.size ∧ X.cell? ⟨b, off + k * 7, none⟩ = some (.int .i64 cs[k].kind) ∧ X.cell? ⟨b, off + k * 7 + 1, none⟩ = some (.int .i64 cs[k].client) ∧ X.cell? ⟨b, off + k * 7 + 2, none⟩ = some (.string cs[k].tag) ∧ X.cell? ⟨b, off + k * 7 + 3, none⟩ = some (.string cs[k].query) ∧ X.cell? ⟨b, off + k * 7 + 4, none⟩ = some (.int .i64 cs[k].page) ∧ X.cell? ⟨b, off + k * 7 + 5, none⟩ = some (cgR rv cs[k]) ∧ X.cell? ⟨b, off + k * 7 + 6, none⟩ = some (.int .i64 cs[k].n) := by
  obtain ⟨h0, hA⟩ := FB.at (C := cgC rv) (c := 7) (Z := fun _ => True) (cgC_len rv) h (by omega) (fun _ _ => trivial)
  rcases hA with ⟨a9, c9, e9, e2⟩ | ⟨b, off, c9, e9, hbb, hA⟩
  · rw [e2] at hk; simp at hk
  · injection e9 with e1 _ _
    have g := fun j hj => (hA k hk).1 j hj
    have c0 := g 0 (by simp [cgC])
    have c1 := g 1 (by simp [cgC])
    have c2 := g 2 (by simp [cgC])
    have c3 := g 3 (by simp [cgC])
    have c4 := g 4 (by simp [cgC])
    have c5 := g 5 (by simp [cgC])
    have c6 := g 6 (by simp [cgC])
    exact ⟨b, off, e1, hbb.2, by simpa [cgC] using c0, by simpa [cgC] using c1, by simpa [cgC] using c2, by simpa [cgC] using c3, by simpa [cgC] using c4, by simpa [cgC] using c5, by simpa [cgC] using c6⟩
/-- the rows of one of them -/
theorem cg_rows {s : Sess} {c : Chg} (hc : OfS s c) {lo : Nat} {X : World} {rv : Value} (h : StrsAt lo X rv s.rows) : StrsAt lo X (cgR rv c) c.rows := by
  unfold cgR
  rcases hc.2.2 with ⟨e1, e2⟩ | ⟨e1, e2⟩
  · rw [if_pos e1, e2]; exact h
  · rw [if_neg e1, e2]; exact ⟨by simp, .inl ⟨_, _, rfl, rfl⟩⟩
/-- an append of bytes leaves what is no byte -/
theorem Buf.blk {base : Nat} {w : World} {v : Value} {bs : List UInt8} (h : Buf base w v bs) {b : Nat} (hb : v.ownBlock = some b) : ∃ cs, w.heap[b]? = some (.cells cs 5 (0, 0)) := by
  obtain ⟨_, ⟨rfl, h0⟩ | ⟨g, cap, cur, rfl, hg, hs, _⟩⟩ := h
  · simp [Value.ownBlock] at hb
  · simp [Value.ownBlock] at hb
    subst hb
    exact ⟨cur, hs⟩
theorem Grew.fb {α : Type} {C : α → List Value} {c : Nat} {e : TypeId} {base b0 : Nat} {w w' : World} {v u vc : Value} {bs : List UInt8} {xs : List α} (hg : Grew w v w' u) (hB : Buf b0 w v bs) (h : FB C c e base w vc xs) (he : e ≠ 5) : FB C c e base w' vc xs :=
  h.keep fun b hb => hg.block (h.own b hb).2 fun e1 => by
    obtain ⟨c1, h1⟩ := hB.blk e1
    obtain ⟨c2, h2⟩ := h.blk (Option.mem_toList.1 hb)
    rw [h1] at h2
    injection h2 with h2
    injection h2 with _ h2 _
    exact he h2.symm
end Go.Proofs.YtpmnepalchgcbaaDoor.Msg
