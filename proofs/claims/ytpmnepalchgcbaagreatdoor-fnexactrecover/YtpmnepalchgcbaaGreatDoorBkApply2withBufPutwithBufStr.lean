import Derived.Test.YtpmnepalchgcbaaGreatDoorBkApply
import Derived.Test.YtpmnepalchgcbaaGreatDoorChgImpl
import Derived.Test.YtpmnepalchgcbaaGreatDoorTblApplyS
import Derived.Test.YtpmnepalchgcbaaGreatDoorMsgDatawithMsgSzwithMsgSz2
import Derived.OwnWalk
import Derived.Maps.AppendAt
import Derived.Laws.BytesArg
import Derived.Deep.Heap
import Derived.Lib.AppendStr
namespace Go.Proofs.YtpmnepalchgcbaaGreatDoor.Msg
open Go.ChangeShapes Go.WideShapes Go.ChangeAt Go.RowKit
set_option linter.unusedVariables false
set_option linter.unusedSimpArgs false

/-! (*book).apply, and impl.Apply -/
def doP (xs : List Sess) (c : Chg) : List Sess × Int := if c.kind = 1 then openP xs c else opP xs c
theorem applyP_do {xs : List Sess} {c : Chg} (h1 : tblB xs = true) (h2 : chgB c = true) : applyP xs c = doP xs c := by
  unfold applyP doP opP
  rw [if_pos ⟨h1, h2⟩]
  by_cases hk : c.kind = 1
  · rw [if_pos hk, if_pos hk]
  · rw [if_neg hk, if_neg hk]
    cases List.findIdx? (keyB c.client c.tag) xs <;> rfl
theorem applyP_not {xs : List Sess} {c : Chg} (h : ¬ (tblB xs = true ∧ chgB c = true)) : applyP xs c = ([], 9) := by
  unfold applyP
  rw [if_neg h]
theorem chg_facts {c : Chg} (h : chgB c = true) : (Lit.int .i64 c.client).wf = true ∧ c.tag.size ≤ 9223372036854775807 := by
  unfold chgB clientB at h
  simp only [Bool.and_eq_true, decide_eq_true_eq] at h
  obtain ⟨⟨⟨h1, h2⟩, h3⟩, _⟩ := h
  refine ⟨?_, ?_⟩
  · simp [Lit.wf, IntKind.min, IntKind.max, IntKind.signed, IntKind.bits]
    omega
  · have := bnd_sz h3
    omega
theorem sessB_st {s : Sess} (h : sessB s = true) : s.state = 1 ∨ s.state = 2 ∨ s.state = 3 ∨ s.state = 4 := by
  unfold sessB stateB at h
  simp only [Bool.and_eq_true] at h
  have h2 := h.2
  by_cases k1 : s.state = 1
  · exact .inl k1
  by_cases k2 : s.state = 2
  · exact .inr (.inl k2)
  by_cases k3 : s.state = 3
  · exact .inr (.inr (.inl k3))
  by_cases k4 : s.state = 4
  · exact .inr (.inr (.inr k4))
  exfalso
  simp [k1, k2, k3, k4] at h2
theorem tv_of {ps : List (Sess × Value)} (h : tblB (ps.map Prod.fst) = true) : TV ps := by
  unfold tblB at h
  simp only [Bool.and_eq_true, decide_eq_true_eq] at h
  obtain ⟨h1, h2⟩ := h
  rw [List.length_map] at h1
  have hat : ∀ p ∈ ps, sessB p.1 = true := fun p hp => by
    obtain ⟨i, hi, rfl⟩ := List.mem_iff_getElem.1 hp
    have := (h2 i (by rw [List.length_map]; exact hi)).1
    rw [List.getElem_map] at this
    exact this
  refine ⟨?_, fun p hp => client_wf (hat p hp), fun p hp => sessB_st (hat p hp), h1⟩
  unfold KU
  rw [List.pairwise_iff_getElem]
  intro i j hi hj hij he
  have := (h2 j (by rw [List.length_map]; exact hj)).2 i hij
  rw [List.getElem_map, List.getElem_map] at this
  unfold sameB at this
  rw [he.1, he.2] at this
  simp at this
theorem apply_any {base : Nat} {w : World} {K M : Nat} {ov : Value} {nm : Nat} {ps : List (Sess × Value)} {bs : List Nat} (h : BK base w K M ov nm ps bs) (hbase : base ≤ w.heap.size) (hV : TV ps) (hnm : nm ≤ 100000) (c : Chg) (hck : chgB c = true) (hq : c.query.size ≤ 9223372036854775807) (au : Option Addr) (nu cu : Nat) {lo : Nat} (hv : StrsAt lo w (.slice au nu cu) c.rows) :
    Calls Tryz.prog 16 #[.pointer (some ⟨K, 0, none⟩), chgV c (.slice au nu cu)] w (StPost base w K M nm (BIn K M ov ps bs) (doP (ps.map Prod.fst) c)) := by
  obtain ⟨hc, ht⟩ := chg_facts hck
  have hr := chg_rows hck
  have hbD : ∀ D, Below w.heap.size w D → base ≤ D.heap.size := fun D hD => Nat.le_trans hbase hD.size
  have hd1 : c.kind = 1 → doP (ps.map Prod.fst) c = openP (ps.map Prod.fst) c := fun hk => by unfold doP; rw [if_pos hk]
  have hd2 : c.kind ≠ 1 → doP (ps.map Prod.fst) c = opP (ps.map Prod.fst) c := fun hk => by unfold doP; rw [if_neg hk]
  have a1 : c.kind = 1 → ∀ D, Below w.heap.size w D → Calls Tryz.prog 41 #[.pointer (some ⟨K, 0, none⟩), chgV c (.slice au nu cu)] D (StPost base D K M nm (BIn K M ov ps bs) (doP (ps.map Prod.fst) c)) := fun hk D hD => by rw [hd1 hk]; exact open_any (h.below hD) (hbD D hD) hV hnm c hk hc ht hq au nu cu
  have a2 : c.kind = 2 → ∀ D, Below w.heap.size w D → Calls Tryz.prog 42 #[.pointer (some ⟨K, 0, none⟩), chgV c (.slice au nu cu)] D (StPost base D K M nm (BIn K M ov ps bs) (doP (ps.map Prod.fst) c)) := fun hk D hD => by rw [hd2 (by omega)]; exact rows_any (h.below hD) (hbD D hD) c hk hc ht au nu cu (At.kept kept_str hv hD) hr
  have a3 : c.kind = 3 → ∀ D, Below w.heap.size w D → Calls Tryz.prog 43 #[.pointer (some ⟨K, 0, none⟩), chgV c (.slice au nu cu)] D (StPost base D K M nm (BIn K M ov ps bs) (doP (ps.map Prod.fst) c)) := fun hk D hD => by rw [hd2 (by omega)]; exact finish_any (h.below hD) (hbD D hD) c hk hc ht au nu cu
  have a4 : c.kind = 4 → ∀ D, Below w.heap.size w D → Calls Tryz.prog 44 #[.pointer (some ⟨K, 0, none⟩), chgV c (.slice au nu cu)] D (StPost base D K M nm (BIn K M ov ps bs) (doP (ps.map Prod.fst) c)) := fun hk D hD => by rw [hd2 (by omega)]; exact move_any (h.below hD) (hbD D hD) c hk hc ht au nu cu
  have a5 : c.kind = 5 → ∀ D, Below w.heap.size w D → Calls Tryz.prog 45 #[.pointer (some ⟨K, 0, none⟩), chgV c (.slice au nu cu)] D (StPost base D K M nm (BIn K M ov ps bs) (doP (ps.map Prod.fst) c)) := fun hk D hD => by rw [hd2 (by omega)]; exact fail_any (h.below hD) (hbD D hD) c hk hc ht au nu cu
  have a6 : c.kind = 6 → ∀ D, Below w.heap.size w D → Calls Tryz.prog 46 #[.pointer (some ⟨K, 0, none⟩), chgV c (.slice au nu cu)] D (StPost base D K M nm (BIn K M ov ps bs) (doP (ps.map Prod.fst) c)) := fun hk D hD => by rw [hd2 (by omega)]; exact shut_any (h.below hD) (hbD D hD) c hk hc ht au nu cu
  have hks := chg_kinds hck
  obtain ⟨R, hR⟩ : ∃ R, doP (ps.map Prod.fst) c = R := ⟨_, rfl⟩
  rw [hR] at a1 a2 a3 a4 a5 a6 ⊢
  obtain ⟨kind, client, tag, query, page, rows, n0⟩ := c
  unfold chgV at *
  dsimp only at *
  rcases hks with rfl | rfl | rfl | rfl | rfl | rfl
  · exact apply_open hbase client page n0 tag query au nu cu (a1 rfl)
  · exact apply_addRows hbase client page n0 tag query au nu cu (a2 rfl)
  · exact apply_finish hbase client page n0 tag query au nu cu (a3 rfl)
  · exact apply_moveCursor hbase client page n0 tag query au nu cu (a4 rfl)
  · exact apply_fail hbase client page n0 tag query au nu cu (a5 rfl)
  · exact apply_shut hbase client page n0 tag query au nu cu (a6 rfl)
end Go.Proofs.YtpmnepalchgcbaaGreatDoor.Msg

namespace Go.Proofs.YtpmnepalchgcbaaGreatDoor.Msg
open Go.ChangeShapes Go.WideShapes Go.ChangeAt Go.RowKit
set_option linter.unusedVariables false
set_option linter.unusedSimpArgs false

def u8s (bs : List UInt8) : List Value := bs.map fun c => .int .u8 c.toNat
/-- a slice of bytes that the call owns, from block 'base' on -/
def Buf (base : Nat) (w : World) (v : Value) (bs : List UInt8) : Prop := w.ownsRow base 5 1 v bs.length (u8s bs)
theorem info_u8 : (Tryz.prog.info? 5).map (fun i => (i.zero, i.size, i.bytes)) = some (some (.int .u8 0), 1, 1) := by kernel_rfl
theorem u8_facts : ∃ i, Tryz.prog.info? 5 = some i ∧ i.zero = some (.int .u8 0) ∧ i.size = 1 ∧ i.bytes = 1 := by
  have h := info_u8
  cases hi : Tryz.prog.info? 5 with
  | none => rw [hi] at h; cases h
  | some i =>
    rw [hi] at h
    simp only [Option.map_some, Option.some.injEq, Prod.mk.injEq] at h
    exact ⟨i, rfl, h.1, h.2.1, h.2.2⟩
theorem Buf.alloc {base : Nat} {w : World} {v : Value} {bs : List UInt8} (h : Buf base w v bs) (o : Obj) : Buf base (w.alloc o) v bs := World.ownsRow.alloc h o

/-- nothing but the slice's own row has turned; the new slice lies there, or in a new block -/
def Grew (w : World) (v : Value) (w' : World) (u : Value) : Prop := w.grownBy w' v.ownBlock ∧ (u.ownBlock = v.ownBlock ∨ ∃ g, u.ownBlock = some g ∧ w.heap.size ≤ g)
theorem Grew.refl (w : World) (v : Value) : Grew w v w v := ⟨⟨rfl, rfl, rfl, Nat.le_refl _, fun _ _ _ => rfl⟩, .inl rfl⟩
theorem Grew.trans {w w1 w2 : World} {v v1 v2 : Value} (h : Grew w v w1 v1) (k : Grew w1 v1 w2 v2) : Grew w v w2 v2 := by
  obtain ⟨a, b⟩ := h
  obtain ⟨c, d⟩ := k
  refine ⟨⟨c.os.trans a.os, c.tape.trans a.tape, c.output.trans a.output, Nat.le_trans a.size c.size, fun x hx hn => ?_⟩, ?_⟩
  · refine (c.block x (Nat.lt_of_lt_of_le hx a.size) ?_).trans (a.block x hx hn)
    rcases b with b | ⟨g, b, hg⟩
    · rw [b]; exact hn
    · rw [b]; intro e; injection e with e; omega
  · rcases d with d | ⟨g, d, hg⟩
    · rw [d]; rcases b with b | ⟨g, b, hg⟩
      · exact .inl b
      · exact .inr ⟨g, b, hg⟩
    · exact .inr ⟨g, d, Nat.le_trans a.size hg⟩
theorem Grew.alloc {w w1 : World} {v v1 : Value} (h : Grew w v w1 v1) (o : Obj) : Grew w v (w1.alloc o) v1 := by
  obtain ⟨a, b⟩ := h
  exact ⟨⟨a.os, a.tape, a.output, by rw [Deep.nblk_alloc]; exact Nat.le_succ_of_le a.size, fun x hx hn => by rw [Deep.blk_alloc_lt _ _ _ (Nat.lt_of_lt_of_le hx a.size)]; exact a.block x hx hn⟩, b⟩
theorem Grew.below {w w1 : World} {v v1 : Value} {base : Nat} (h : Grew w v w1 v1) (hb : base ≤ v.ownBlock.getD base) (hs : base ≤ w.heap.size) : Below base w w1 :=
  ⟨h.1.os, h.1.tape, h.1.output, h.1.size, fun k hk => h.1.block k (by omega) (by intro e; rw [← e] at hb; simp at hb; omega)⟩
/-- a block that is not the slice's own is as it was -/
theorem Grew.block {w w1 : World} {v v1 : Value} (h : Grew w v w1 v1) {b : Nat} (hb : b < w.heap.size) (hn : v.ownBlock ≠ some b) : w1.heap[b]? = w.heap[b]? := h.1.block b hb (fun e => hn e.symm)

/-- behind an append of one byte -/
theorem Buf.snoc {base : Nat} {w wr w' : World} {v0 v v' : Value} {bs : List UInt8} (c : UInt8) (o : Obj) (hb : Grew w v0 wr v)
    {n : Nat} (hl : n = bs.length) (h : w'.ownsRow base 5 1 v' (n + 1) (u8s bs ++ [.int .u8 c.toNat])) (hg : (wr.alloc o).grownBy w' v.ownBlock) (hat : v'.ownBlock = v.ownBlock ∨ v'.ownBlock = some (wr.heap.size + 1)) :
    Buf base w' v' (bs ++ [c]) ∧ Grew w v0 w' v' := by
  subst hl
  refine ⟨by unfold Buf; simpa [u8s] using h, (hb.alloc o).trans ⟨hg, ?_⟩⟩
  rcases hat with hat | hat
  · exact .inl hat
  · exact .inr ⟨_, hat, by rw [Deep.nblk_alloc]; exact Nat.le_refl _⟩

theorem Buf.own {base : Nat} {w : World} {v : Value} {bs : List UInt8} (h : Buf base w v bs) : base ≤ v.ownBlock.getD base := by
  obtain ⟨_, ⟨rfl, _⟩ | ⟨g, cap, cur, rfl, hg, _⟩⟩ := h
  · simp [Value.ownBlock]
  · simpa [Value.ownBlock] using hg

theorem new_cell (w : World) (x : Value) (t : TypeId) : ∀ (j : Nat) (u : Value), [x][j]? = some u → (w.alloc (.cells #[x] t)).cell? ((⟨w.heap.size, 0, none⟩ : Addr).add j) = some u := by
  intro j u hj
  cases j with
  | zero =>
    simp at hj
    subst hj
    simp [Addr.add]
  | succ j => simp at hj
theorem one_u8 (n : Int) : ∀ u ∈ [Value.int .u8 n], u.oneCell' = true := by
  intro u hu
  simp at hu
  subst hu
  rfl

theorem take_snoc (s : ByteArray) (k : Nat) (h : k < s.size) : s.data.toList.take (k + 1) = s.data.toList.take k ++ [s[k]] := by
  rw [List.take_succ_eq_append_getElem (by simpa using h)]; rfl

set_option maxRecDepth 100000 in
set_option maxHeartbeats 400000 in
theorem put_any (base : Nat) (bs : List UInt8) (s : ByteArray) (v : Value) (w : World) (hown : Buf base w v bs) (hbase : base ≤ w.heap.size) (hl : bs.length + s.size ≤ 70368744177664) :
    Calls Tryz.prog 53 #[v, .string s] w fun e w' => ∃ u, e = .returned u ∧ Buf base w' u (bs ++ s.data.toList) ∧ Grew w v w' u := by
  obtain ⟨i0, hi, hz0, hz1, hz2⟩ := u8_facts
  go_enter Tryz.func53, Tryz.ntmps53
  go_wp2
  go_loopw [0, 5] (fun v1 i wr => ∃ k : Nat, k ≤ s.size ∧ i = .int .i64 k ∧ Buf base wr v1 (bs ++ s.data.toList.take k) ∧ Grew w v wr v1) (fun _ i _ => s.size - (intOf i).toNat)
  case atStart => exact ⟨0, Nat.zero_le _, rfl, by simpa using hown, Grew.refl _ _⟩
  case round =>
    obtain ⟨k, hk, rfl, hbuf, hb⟩ := hrel
    by_cases hlt : k < s.size
    · have HT := hide (take_snoc s k hlt)
      have hlen : (bs ++ s.data.toList.take k).length ≤ bs.length + k := by simp; omega
      have hz : base ≤ wr.heap.size := Nat.le_trans hbase hb.1.size
      go_wp2_with (first
        | (at_builtin; refine wpList_append_own_at _ rfl _ _ 80 rfl base 5 i0 (.int .u8 0) 1 1 Tryz.underlying80 hi hz0 hz1 hz2 rfl (by decide) _ _ _ rfl (World.ownsRow.alloc hbuf _) ⟨wr.heap.size, 0, none⟩ 1 1 [.int .u8 s[k].toNat] rfl rfl ?c1 ?c2 ?c3 ?c4 ?c5 ?_)
        | go_in)
      case c1 => exact new_cell _ _ _
      case c2 => exact one_u8 _
      case c3 => unfold maxLen; omega
      case c4 => omega
      case c5 => simp; omega
      · intro v' w' hown' hgrow hnil hat
        have R := Buf.snoc (bs := bs ++ s.data.toList.take k) s[k] _ hb (by simp; omega) hown' hgrow hat
        clear hown' hgrow hnil hat hbuf hb
        go_wp2
        go_roundw
        case rel => exact ⟨k + 1, by omega, by go_num, by rw [HT.out, ← List.append_assoc]; exact R.1, R.2⟩
        case measure => simp [intOf]; omega
    · go_wp2
      go_ret
      exact ⟨_, rfl, by rw [List.take_of_length_le (by simp; omega)] at hbuf; exact hbuf, hb⟩
end Go.Proofs.YtpmnepalchgcbaaGreatDoor.Msg

namespace Go.Proofs.YtpmnepalchgcbaaGreatDoor.Msg
open Go.ChangeShapes Go.WideShapes Go.ChangeAt Go.RowKit
set_option linter.unusedVariables false
set_option linter.unusedSimpArgs false

/-- the bytes of a text behind a slice of bytes: what is owned, and where it lies -/
theorem append_str {P : Program} (w : World) (base : Nat) (t u ty e : TypeId) (i : TypeInfo) (ht : P.underlying t = some (.slice e)) (hu : P.underlying u = some .string) (hi : P.info? e = some i) (hz : i.zero = some (.int .u8 0))
    (hsize : i.size = 1) (hby : i.bytes = 1) (v : Value) (n : Nat) (xs : List Value) (hown : w.ownsRow base e 1 v n xs) (s : ByteArray)
    (h63 : n + s.size ≤ maxLen) (hbytes : n + s.size ≤ 140737488355328) (hbase : base ≤ w.heap.size) :
    ∃ v' w', (Builtin.append_ #[t, u] ty #[v, .string s]).run P w = .ok v' w' ∧ w'.ownsRow base e 1 v' (n + s.size) (xs ++ Lib.strCells s) ∧ w.grownBy w' v.ownBlock ∧
      (v'.ownBlock = v.ownBlock ∨ v'.ownBlock = some w.heap.size) := by
  obtain ⟨v', w', hr, h2, h3, h4⟩ := Lib.run_append_own_string (P := P) w base t u ty e i ht hu hi hz hsize hby v n xs hown s h63 hbytes hbase
  refine ⟨v', w', hr, h2, h3, ?_⟩
  have hsmall : n + s.size ≤ 9223372036854775807 := by simp only [maxLen] at h63; omega
  have hxl : xs.length = n := by simpa using hown.1
  rcases hown.2 with ⟨rfl, rfl⟩ | ⟨g, cap, cur, rfl, hbg, hg, hnc, hcm, hcs, htake⟩
  · by_cases hm : s.size = 0
    · rw [h4.2 ⟨rfl, hm⟩]; exact .inl rfl
    · have hr2 := run_append_nil_string (P := P) w t u ty e i (.int .u8 0) ht hu hi hz s (by omega) (by omega) (by rw [hby]; omega)
      rw [hr2] at hr
      injection hr with hv hw
      rw [← hv]; exact .inr rfl
  · by_cases hroom : n + s.size ≤ cap
    · have hcs' : cur.size = cap := by simpa using hcs
      have hr2 := Lib.run_append_room_string (P := P) w t u ty e i ht hu hi hsize g n cap cur hg s hroom (by omega)
      rw [hr2] at hr
      injection hr with hv hw
      rw [← hv]; exact .inl rfl
    · have holds : ∀ j u, xs[j]? = some u → w.cell? ((⟨g, 0, none⟩ : Addr).add j) = some u := hown.cells (g := g) rfl
      have hr2 := Lib.run_append_grow_string (P := P) w t u ty e i (.int .u8 0) ht hu hi hz ⟨g, 0, none⟩ n cap xs (by rw [hsize]; simpa using hxl) holds s (by omega) (by omega) (by rw [hby]; exact growslice_fits (by omega) (by omega))
      rw [hr2] at hr
      injection hr with hv hw
      rw [← hv]; exact .inr rfl

theorem wpList_str {P : Program} (w : World) {ops : Array Oper} {rest : List Oper} {o : Oper} {a : Act} {Q : Exit → Act → World → Prop} (hgd : o.guard = none) (sl x : Operand) (t u : TypeId)
    (ho : o.op = .call { callee := .builtin .append, args := #[sl, x], argTypes := #[t, u] })
    (base : Nat) (e : TypeId) (i : TypeInfo) (ht : P.underlying t = some (.slice e)) (hu : P.underlying u = some .string) (hi : P.info? e = some i) (hz : i.zero = some (.int .u8 0))
    (hsize : i.size = 1) (hby : i.bytes = 1)
    (v : Value) (n : Nat) (xs : List Value) (hs : a.eval sl = v) (hown : w.ownsRow base e 1 v n xs) (s : ByteArray) (hx : a.eval x = .string s)
    (h63 : n + s.size ≤ maxLen) (hbytes : n + s.size ≤ 140737488355328) (hbase : base ≤ w.heap.size)
    (h : ∀ v' w', w'.ownsRow base e 1 v' (n + s.size) (xs ++ Lib.strCells s) → w.grownBy w' v.ownBlock → (v'.ownBlock = v.ownBlock ∨ v'.ownBlock = some w.heap.size) → wpList P ops Q rest (a.put o.dst v') w') :
    wpList P ops Q (o :: rest) a w := by
  refine wpList_plain hgd fun K hK => ?_
  obtain ⟨v', w', hr, h2, h3, h5⟩ := append_str (P := P) w base t u o.type e i ht hu hi hz hsize hby v n xs hown s h63 hbytes hbase
  unfold Oper.wp execOp
  simp only [ho, resolve, invoke, builtin, Sem.run_bind, Sem.run_pure, Result.andThen_ok, List.map_toArray, List.map_cons, List.map_nil, hs, hx, hr]
  exact hK _ _ (h v' w' h2 h3 h5)

/-- behind an append of a text -/
theorem Buf.text {base : Nat} {w wr w' : World} {v0 v v' : Value} {bs : List UInt8} (s : ByteArray) (hb : Grew w v0 wr v)
    {n : Nat} (hl : n = bs.length) (h : w'.ownsRow base 5 1 v' (n + s.size) (u8s bs ++ Lib.strCells s)) (hg : wr.grownBy w' v.ownBlock) (hat : v'.ownBlock = v.ownBlock ∨ v'.ownBlock = some wr.heap.size) :
    Buf base w' v' (bs ++ s.data.toList) ∧ Grew w v0 w' v' := by
  subst hl
  refine ⟨?_, hb.trans ⟨hg, ?_⟩⟩
  · unfold Buf
    have h1 : (bs ++ s.data.toList).length = bs.length + s.size := by simp
    have h2 : u8s (bs ++ s.data.toList) = u8s bs ++ Lib.strCells s := by simp [u8s, Lib.strCells]
    rw [h1, h2]
    exact h
  · rcases hat with hat | hat
    · exact .inl hat
    · exact .inr ⟨_, hat, Nat.le_refl _⟩
end Go.Proofs.YtpmnepalchgcbaaGreatDoor.Msg
