import Derived.Test.YtpmnepalchgcbaaGreatDoorCrashSpecwithBufKitwithRecSpec
import Derived.RangeFuncNested
import Derived.RangeFuncBound
import Derived.RangeFuncCalls
import Derived.RangeFuncLeaves
import Derived.RangeFuncBox
import Derived.Shelf.Abstract
import Derived.Shelf.RegionOpen
import Derived.OwnWalkIn
import Derived.TacticsInMore
import Derived.LoopNIn
import Derived.LoopIn
import Derived.Maps.OwnIn
namespace Go.Proofs.YtpmnepalchgcbaaGreatDoor.Msg
open Go.ChangeShapes Go.WideShapes Go.ChangeAt Go.RowKit Go.Shelf
set_option linter.unusedVariables false
set_option linter.unusedSimpArgs false
attribute [local go_sem] Oper.semAt_some

set_option maxHeartbeats 1000000 in
theorem recordSize_any (n : Nat) (w : World) (hn : n ≤ 16777216) :
    Calls Tryz.prog 67 #[.int .i64 (n : Int)] w fun e w' => e = .returned (.int .i64 ((32 * sectN n : Nat) : Int)) ∧ w' = w := by
  have h1 : (3 + (n : Int) + 31 - 1).tdiv 31 = ((sectN n : Nat) : Int) := by rw [Int.tdiv_eq_ediv_of_nonneg (by omega)]; unfold sectN; omega
  have h2 : sectN n ≤ 600000 := by unfold sectN; omega
  go_enter Tryz.func67, Tryz.ntmps67
  go_wp2_with fail
  go_ret
  exact ⟨ret_int (by omega), rfl⟩

set_option maxHeartbeats 1000000 in
theorem withSize_any (s : ByteArray) (w : World) (hs : s.size ≤ 60000) :
    Calls Tryz.prog 87 #[.string s] w fun e w' => ∃ u, e = .returned u ∧ Buf w.heap.size w' u (bodyL s.data.toList) ∧ Below w.heap.size w w' := by
  obtain ⟨i0, hi, hz0, hz1, hz2⟩ := u8_facts
  have HB1 := hide (Buf.size_lit w s.size hs)
  have hsl : s.data.toList.length = s.size := by simp
  have HBL : Hid (szL s.size ++ s.data.toList = bodyL s.data.toList) := by unfold bodyL; rw [hsl]; exact rfl
  clear hsl
  go_enter Tryz.func87, Tryz.ntmps87
  go_wp2_with (first
    | (at_builtin; refine wpList_str _ rfl _ _ 80 9 rfl w.heap.size 5 i0 Tryz.underlying80 Tryz.underlying9 hi hz0 hz1 hz2 _ 3 _ rfl HB1.out s rfl (by unfold maxLen; omega) (by omega) (by simp) ?_)
    | fail)
  intro v2 w2 hown2 hgrow2 hat2
  have R := Buf.text s (Grew.refl _ _) (bs := szL s.size) rfl hown2 hgrow2 (by rw [Deep.nblk_alloc]; exact hat2)
  rw [HBL.out] at R
  have HR : Hid (Buf w.heap.size w2 v2 (bodyL s.data.toList) ∧ Below w.heap.size w w2) := ⟨R.1, ((Below.refl w.heap.size w).alloc (Nat.le_refl _) _).trans (R.2.below (by simp [Value.ownBlock]) (by simp))⟩
  clear hown2 hgrow2 hat2 R
  go_wp2_with fail
  go_ret
  exact ⟨_, rfl, HR.out⟩

set_option maxHeartbeats 1000000 in
theorem chunk_in (a : Option Addr) (len cap : Nat) (n : Nat) (w : World) :
    CallsIn Fence.wide n Tryz.prog 86 #[.slice a len cap, .int .i64 31] w fun e w' =>
      e = .returned (.func (.func 99) #[] #[.pointer (some ⟨w.heap.size, 0, none⟩), .pointer (some ⟨w.heap.size + 1, 0, none⟩)]) ∧ w' = (w.alloc (.cells #[.slice a len cap] 80)).alloc (.cells #[.int .i64 31] 3) := by
  refine callsIn_of_wp Tryz.func86 rfl trivial ?_ rfl
  simp only [Tryz.ntmps86, List.size_toArray, List.length_cons, List.length_nil, Nat.reduceAdd, Nat.reduceSub, Array.replicate_succ, Array.replicate_zero, List.push_toArray, List.append_toArray, List.nil_append, List.cons_append]
  gi_wp2
  go_ret
  exact ⟨rfl, rfl⟩
/-- what the chunks read behind a round -/
def ChunkKp (Bs Bn : Nat) (W W' : World) : Prop := W'.heap[Bs]? = W.heap[Bs]? ∧ W'.heap[Bn]? = W.heap[Bn]?
theorem grownBy_drew (W : World) (k : Nat) : W.grownBy (W.drewN k) none := ⟨rfl, rfl, rfl, Nat.le_refl _, fun _ _ _ => rfl⟩
def chunkV (b n j : Nat) : Value := .slice (some ⟨b, 31 * j, none⟩) (min 31 (n - 31 * j)) (min 31 (n - 31 * j))

set_option maxRecDepth 100000 in
set_option maxHeartbeats 2000000 in
theorem chunk1_in (n l Bs Bn b len cap : Nat) (hn : 1 ≤ n) (hlen : len ≤ 100000) (hcap : len ≤ cap) (hcap2 : cap ≤ 9223372036854775807) (J Jx : List Nat → World → Prop) (W : World)
    (hJ : AbidesFrom W.heap.size J)
    (hY : ∀ pre x W1, J pre W1 → pre.length < (len + 30) / 31 → YieldAt Fence.wide (n - 1) Tryz.prog l #[chunkV b len x] W1 fun e W' =>
      (e = .returned (.bool true) ∧ J (pre ++ [x]) W' ∧ ChunkKp Bs Bn W1 W') ∨ (e = .returned (.bool false) ∧ Jx (pre ++ [x]) W'))
    (hBs : W.heap[Bs]? = some (.cells #[.slice (some ⟨b, 0, none⟩) len cap] 80 (0, 0))) (hBn : W.heap[Bn]? = some (.cells #[.int .i64 31] 3 (0, 0))) (h0 : J [] W) :
    CallsIn Fence.wide n Tryz.prog 99 #[.func (.yield l) #[] #[], .pointer (some ⟨Bs, 0, none⟩), .pointer (some ⟨Bn, 0, none⟩)] W fun e W' => (∃ v, e = .returned v) ∧
      ((∃ ys, ys = List.range ((len + 30) / 31) ∧ J ys W') ∨ (∃ pre, (∃ k, k ≤ (len + 30) / 31 ∧ pre = List.range k) ∧ Jx pre W')) := by
  have HY := hide hY
  have HJ := hide hJ
  clear hY hJ
  refine callsIn_of_wp Tryz.func99 rfl trivial ?_ rfl
  simp only [Tryz.ntmps99, List.size_toArray, List.length_cons, List.length_nil, Nat.reduceAdd, Nat.reduceSub, Array.replicate_succ, Array.replicate_zero, List.push_toArray, List.append_toArray, List.nil_append, List.cons_append]
  gi_wp2
  gi_loopw [4] (fun i wr => ∃ k : Nat, k ≤ (len + 30) / 31 ∧ i = .int .i64 ((31 * k : Nat) : Int) ∧ J (List.range k) wr ∧ wr.heap[Bs]? = some (.cells #[.slice (some ⟨b, 0, none⟩) len cap] 80 (0, 0)) ∧ wr.heap[Bn]? = some (.cells #[.int .i64 31] 3 (0, 0)))
    (fun i _ => 100100 - (intOf i).toNat)
  case atStart => exact ⟨0, Nat.zero_le _, rfl, h0, hBs, hBn⟩
  case round =>
    obtain ⟨k, hk, rfl, hJs, hs1, hn1⟩ := hrel
    have c1 : wr.cell? ⟨Bs, 0, none⟩ = some (.slice (some ⟨b, 0, none⟩) len cap) := by simp [World.cell?, hs1]
    have c2 : wr.cell? ⟨Bn, 0, none⟩ = some (.int .i64 31) := by simp [World.cell?, hn1]
    by_cases hlt : 31 * k < len
    · have hki : ((31 * k : Nat) : Int) < (len : Int) := by omega
      have hki2 : 31 * (k : Int) < (len : Int) := by omega
      gi_wp2
      gi_quiet (fail)
      by_cases h31 : ((len - 31 * k : Nat) : Int) < 31
      · obtain ⟨fn, tmps, assign, body, hy, hR⟩ := HY.out (List.range k) k (wr.drewN nq) (HJ.out _ _ _ _ hJs (grownBy_drew wr nq) (fun _ e => by cases e)) (by rw [List.length_range]; omega)
        rw [show chunkV b len k = .slice (some ⟨b, 31 * k, none⟩) (len - 31 * k) (len - 31 * k) by unfold chunkV; congr 1 <;> omega] at hy
        gi_wp2
        refine hR.mono ?_
        rintro e W3 (⟨rfl, hJ3, hk3⟩ | ⟨rfl, hJx3⟩)
        · have hs3 : W3.heap[Bs]? = _ := hk3.1.trans hs1
          have hn3 : W3.heap[Bn]? = _ := hk3.2.trans hn1
          have c3 : W3.cell? ⟨Bs, 0, none⟩ = some (.slice (some ⟨b, 0, none⟩) len cap) := by simp [World.cell?, hs3]
          have c4 : W3.cell? ⟨Bn, 0, none⟩ = some (.int .i64 31) := by simp [World.cell?, hn3]
          gi_wp2
          go_roundw
          case rel => exact ⟨k + 1, by omega, by go_num, by rw [List.range_succ]; exact hJ3, hs3, hn3⟩
          case measure => simp [intOf]; omega
        · gi_wp2
          refine bodyPost_ret (results_none rfl _ _ _) rfl ?_
          exact ⟨⟨_, rfl⟩, .inr ⟨_, ⟨k + 1, by omega, List.range_succ.symm⟩, hJx3⟩⟩
      · obtain ⟨fn, tmps, assign, body, hy, hR⟩ := HY.out (List.range k) k (wr.drewN nq) (HJ.out _ _ _ _ hJs (grownBy_drew wr nq) (fun _ e => by cases e)) (by rw [List.length_range]; omega)
        rw [show chunkV b len k = .slice (some ⟨b, 31 * k, none⟩) 31 31 by unfold chunkV; congr 1 <;> omega] at hy
        gi_wp2
        refine hR.mono ?_
        rintro e W3 (⟨rfl, hJ3, hk3⟩ | ⟨rfl, hJx3⟩)
        · have hs3 : W3.heap[Bs]? = _ := hk3.1.trans hs1
          have hn3 : W3.heap[Bn]? = _ := hk3.2.trans hn1
          have c3 : W3.cell? ⟨Bs, 0, none⟩ = some (.slice (some ⟨b, 0, none⟩) len cap) := by simp [World.cell?, hs3]
          have c4 : W3.cell? ⟨Bn, 0, none⟩ = some (.int .i64 31) := by simp [World.cell?, hn3]
          gi_wp2
          go_roundw
          case rel => exact ⟨k + 1, by omega, by go_num, by rw [List.range_succ]; exact hJ3, hs3, hn3⟩
          case measure => simp [intOf]; omega
        · gi_wp2
          refine bodyPost_ret (results_none rfl _ _ _) rfl ?_
          exact ⟨⟨_, rfl⟩, .inr ⟨_, ⟨k + 1, by omega, List.range_succ.symm⟩, hJx3⟩⟩
    · have hki : ¬ ((31 * k : Nat) : Int) < (len : Int) := by omega
      have hkk : k = (len + 30) / 31 := by omega
      gi_wp2
      go_end0
      exact ⟨⟨_, rfl⟩, .inl (by rw [← hkk]; exact hJs)⟩
end Go.Proofs.YtpmnepalchgcbaaGreatDoor.Msg

namespace Go.Proofs.YtpmnepalchgcbaaGreatDoor.Msg
open Go.ChangeShapes Go.WideShapes Go.ChangeAt Go.RowKit Go.Shelf
set_option linter.unusedVariables false
set_option linter.unusedSimpArgs false
attribute [local go_sem] Oper.semAt_some

/-- the record that is built: its box, its row, the mark's box; what else lay when the loop began lies as it lay -/
structure RecV (w W0 : World) (g0 Br Bm : Nat) (mk : Int) (acc : List UInt8) (W : World) (v : Value) : Prop where
  box : Boxed W Br 80 v
  buf : Buf w.heap.size W v acc
  lies : v.ownBlock = some g0 ∨ ∃ g, W0.heap.size ≤ g ∧ v.ownBlock = some g
  mark : Boxed W Bm 5 (.int .u8 mk)
  old : ∀ k, k < W0.heap.size → k ≠ g0 → k ≠ Br → k ≠ Bm → W.heap[k]? = W0.heap[k]?
  size : W0.heap.size ≤ W.heap.size
  below : Below w.heap.size w W

structure RPlaces (w W0 : World) (g0 Br Bm : Nat) : Prop where
  a : w.heap.size ≤ g0
  b : g0 < Br
  c : Br < Bm
  d : Bm < W0.heap.size

theorem RecV.own_ne {w W0 : World} {g0 Br Bm : Nat} {mk : Int} {acc : List UInt8} {W : World} {v : Value} (h : RecV w W0 g0 Br Bm mk acc W v) (p : RPlaces w W0 g0 Br Bm) {k : Nat} (hk : k < W0.heap.size) (hg : k ≠ g0) : some k ≠ v.ownBlock := by
  rcases h.lies with e | ⟨g, hl, e⟩ <;> rw [e] <;> intro e' <;> injection e' with e' <;> omega
theorem RecV.own_base {w W0 : World} {g0 Br Bm : Nat} {mk : Int} {acc : List UInt8} {W : World} {v : Value} (h : RecV w W0 g0 Br Bm mk acc W v) (p : RPlaces w W0 g0 Br Bm) {k : Nat} (e : v.ownBlock = some k) : w.heap.size ≤ k := by
  rcases h.lies with e' | ⟨g, hl, e'⟩ <;> rw [e] at e' <;> injection e' with e' <;> have := p.a <;> have := p.b <;> have := p.c <;> have := p.d <;> omega
theorem RecV.alloc {w W0 : World} {g0 Br Bm : Nat} {mk : Int} {acc : List UInt8} {W : World} {v : Value} (h : RecV w W0 g0 Br Bm mk acc W v) (o : Obj) : RecV w W0 g0 Br Bm mk acc (W.alloc o) v :=
  ⟨h.box.alloc o, h.buf.alloc o, h.lies, h.mark.alloc o, fun k hk h1 h2 h3 => (Below.heap_alloc W o k (Nat.lt_of_lt_of_le hk h.size)).trans (h.old k hk h1 h2 h3), by rw [Deep.nblk_alloc]; have := h.size; omega, h.below.alloc h.below.size o⟩
/-- an append and the store back -/
theorem RecV.append {w W0 : World} {g0 Br Bm : Nat} {mk : Int} {acc acc' : List UInt8} {W w1 : World} {v v' : Value} (h : RecV w W0 g0 Br Bm mk acc W v) (p : RPlaces w W0 g0 Br Bm)
    (hb : Buf w.heap.size w1 v' acc') (hg : W.grownBy w1 v.ownBlock) (hat : v'.ownBlock = v.ownBlock ∨ v'.ownBlock = some W.heap.size) :
    Boxed w1 Br 80 v ∧ RecV w W0 g0 Br Bm mk acc' (w1.setCell ⟨Br, 0, none⟩ v') v' ∧ KeepsOthers W (w1.setCell ⟨Br, 0, none⟩ v') := by
  have hpa := p.a; have hpb := p.b; have hpc := p.c; have hpd := p.d
  have hbr := h.own_ne p (k := Br) (by omega) (by omega)
  have hbm := h.own_ne p (k := Bm) (by omega) (by omega)
  have hbox : Boxed w1 Br 80 v := h.box.kept hg hbr
  have hsz := h.size
  have hlies : v'.ownBlock = some g0 ∨ ∃ g, W0.heap.size ≤ g ∧ v'.ownBlock = some g := by
    rcases hat with e | e
    · rw [e]; exact h.lies
    · exact .inr ⟨_, hsz, e⟩
  have hne' : v'.ownBlock ≠ some Br := by rcases hlies with e | ⟨g, hl, e⟩ <;> rw [e] <;> intro e' <;> injection e' with e' <;> omega
  have hset : w1.grownBy (w1.setCell ⟨Br, 0, none⟩ v') (some Br) := grownBy_setCell' w1 Br v'
  refine ⟨hbox, ⟨hbox.set v', ?_, hlies, (h.mark.kept hg hbm).kept hset (by intro e; injection e with e; omega), ?_, ?_, ?_⟩, ?_⟩
  · exact World.ownsRow.kept hb hset (.inr hne')
  · intro k hk h1 h2 h3
    rw [hset.block k (by have := hg.size; omega) (by intro e; injection e with e; exact h2 e), hg.block k (by omega) (h.own_ne p hk h1)]
    exact h.old k hk h1 h2 h3
  · have := hg.size; have := hset.size; omega
  · have hgb : Below w.heap.size W w1 := ⟨hg.os, hg.tape, hg.output, hg.size, fun k hk => hg.block k (by have := h.below.size; omega) (by intro e; have := h.own_base p e.symm; omega)⟩
    exact (h.below.trans hgb).setCell (p := ⟨Br, 0, none⟩) (by dsimp only; omega) v'
  · refine (KeepsOthers.of_grownBy hg fun j o ej hj => ?_).trans (KeepsOthers.setCell _ _ _)
    have := h.buf
    obtain ⟨_, ⟨rfl, _⟩ | ⟨g, cap, cur, rfl, _, hgb, _⟩⟩ := this
    · simp [Value.ownBlock] at ej
    · obtain rfl : g = j := by simpa [Value.ownBlock] using ej
      rw [hgb] at hj; cases hj; rfl
/-- the mark -/
theorem RecV.marked {w W0 : World} {g0 Br Bm : Nat} {mk : Int} {acc : List UInt8} {W : World} {v : Value} (h : RecV w W0 g0 Br Bm mk acc W v) (p : RPlaces w W0 g0 Br Bm) (mk' : Int) :
    RecV w W0 g0 Br Bm mk' acc (W.setCell ⟨Bm, 0, none⟩ (.int .u8 mk')) v := by
  have hpa := p.a; have hpb := p.b; have hpc := p.c; have hpd := p.d
  have hset : W.grownBy (W.setCell ⟨Bm, 0, none⟩ (.int .u8 mk')) (some Bm) := grownBy_setCell' W Bm _
  refine ⟨h.box.kept hset (by intro e; injection e with e; omega), World.ownsRow.kept h.buf hset (.inr fun e => h.own_ne p (k := Bm) (by omega) (by omega) e.symm), h.lies, h.mark.set _, ?_, by have := hset.size; have := h.size; omega, h.below.setCell (p := ⟨Bm, 0, none⟩) (by dsimp only; omega) _⟩
  intro k hk h1 h2 h3
  rw [hset.block k (by have := h.size; omega) (by intro e; injection e with e; exact h3 e)]
  exact h.old k hk h1 h2 h3
theorem RecV.turned {w W0 : World} {g0 Br Bm : Nat} {mk : Int} {acc : List UInt8} {W W' : World} {v : Value} {row : Option Nat} (h : RecV w W0 g0 Br Bm mk acc W v) (p : RPlaces w W0 g0 Br Bm)
    (hg : W.grownBy W' row) (hr : ∀ r, row = some r → W0.heap.size ≤ r ∧ ∃ o : Obj, W.heap[r]? = some o ∧ o.isCells = false) : RecV w W0 g0 Br Bm mk acc W' v := by
  have hpa := p.a; have hpb := p.b; have hpc := p.c; have hpd := p.d
  have hlow : ∀ k, k < W0.heap.size → some k ≠ row := fun k hk e => by have := (hr k e.symm).1; omega
  refine ⟨h.box.kept hg (hlow _ (by omega)), World.ownsRow.kept h.buf hg ?_, h.lies, h.mark.kept hg (hlow _ (by omega)), ?_, by have := hg.size; have := h.size; omega, ?_⟩
  · obtain ⟨_, ⟨rfl, _⟩ | ⟨g, cap, cur, rfl, _, hgb, _⟩⟩ := h.buf
    · exact .inl rfl
    · refine .inr fun e => ?_
      obtain ⟨_, o, ho, hc⟩ := hr g (by simpa [Value.ownBlock] using e.symm)
      rw [hgb] at ho; cases ho; cases hc
  · intro k hk h1 h2 h3
    rw [hg.block k (by have := h.size; omega) (hlow k hk)]
    exact h.old k hk h1 h2 h3
  · exact h.below.trans ⟨hg.os, hg.tape, hg.output, hg.size, fun k hk => hg.block k (by have := h.below.size; omega) (hlow k (by omega))⟩

/-- an append of whatever, at the operation, in a fence -/
theorem wpListIn_apd {F : Fence} {n : Nat} {P : Program} {w : World} {ops : Array Oper} {rest : List Oper} {o : Oper} {a : Act} {Q : Exit → Act → World → Prop} (hgd : o.guard = none) (s x : Operand) (t u : TypeId)
    (ho : o.op = .call { callee := .builtin .append, args := #[s, x], argTypes := #[t, u] }) {vs vx v' : Value} {w' : World} (hs : a.eval s = vs) (hx : a.eval x = vx)
    (hr : (Builtin.append_ #[t, u] o.type #[vs, vx]).run P w = .ok v' w') (h : wpListIn F n P ops Q rest (a.put o.dst v') w') : wpListIn F n P ops Q (o :: rest) a w := by
  refine wpListIn_plain hgd fun K hK => ?_
  unfold Oper.wpIn
  refine ⟨by simp [Oper.about, ho, resolve, Target.leads, Sem.run_pure], ?_⟩
  rw [Oper.semAt_plain F _ _ (by rw [ho]; intro c hc'; cases hc')]
  simp [execOp, ho, resolve, invoke, builtin, hs, hx, hr, Result.andThen]
  exact hK _ _ h

/-- bytes that lie in a row, behind a slice of bytes -/
theorem Buf.run_bytes {w : World} {base : Nat} {v : Value} {bs cs : List UInt8} (ty : TypeId) (h : Buf base w v bs) (hbase : base ≤ w.heap.size) (b off c : Nat) (hc : ∀ j, j < cs.length → w.cell? ⟨b, off + j, none⟩ = some (.int .u8 ((cs.getD j 0).toNat : Int))) (hl : bs.length + cs.length ≤ 70368744177664) :
    ∃ v' w', (Builtin.append_ #[80, 80] ty #[v, .slice (some ⟨b, off, none⟩) cs.length c]).run Tryz.prog w = .ok v' w' ∧ Buf base w' v' (bs ++ cs) ∧ w.grownBy w' v.ownBlock ∧ (v'.ownBlock = v.ownBlock ∨ v'.ownBlock = some w.heap.size) := by
  obtain ⟨i0, hi, hz0, hz1, hz2⟩ := u8_facts
  obtain ⟨v', w', hr, h2, h3, _, h5⟩ := run_append_own_at (P := Tryz.prog) (w := w) base 80 ty 5 i0 (.int .u8 0) 1 1 Tryz.underlying80 hi hz0 hz1 hz2 rfl (by decide) v bs.length (u8s bs) h ⟨b, off, none⟩ cs.length c (u8s cs) (by simp [u8s])
    (fun j u hj => by
      have hjl : j < cs.length := by
        have := List.getElem?_eq_some_iff.1 hj
        obtain ⟨h, _⟩ := this
        simpa [u8s] using h
      rw [add_none', hc j hjl]
      rw [← hj]
      simp [u8s, hjl, List.getD_eq_getElem?_getD])
    (fun u hu => by
      simp only [u8s, List.mem_map] at hu
      obtain ⟨c, _, rfl⟩ := hu
      rfl)
    (by unfold maxLen; omega) (by omega) hbase
  refine ⟨v', w', hr, ?_, h3, h5⟩
  unfold Buf
  have e1 : (bs ++ cs).length = bs.length + cs.length := by simp
  have e2 : u8s (bs ++ cs) = u8s bs ++ u8s cs := by simp [u8s]
  rw [e1, e2]
  exact h2
theorem Buf.run_zeros {w : World} {base : Nat} {v : Value} {bs : List UInt8} (ty : TypeId) (h : Buf base w v bs) (hbase : base ≤ w.heap.size) (n : Nat) (hl : bs.length + n ≤ 70368744177664) :
    ∃ v' w', (Builtin.append_ #[80, 3] ty #[v, .int .i64 (n : Int)]).run Tryz.prog w = .ok v' w' ∧ Buf base w' v' (bs ++ List.replicate n 0) ∧ w.grownBy w' v.ownBlock ∧ (v'.ownBlock = v.ownBlock ∨ v'.ownBlock = some w.heap.size) := by
  obtain ⟨i0, hi, hz0, hz1, hz2⟩ := u8_facts
  obtain ⟨a, c, rfl, _, _⟩ := h.form
  obtain ⟨v', w', hr, h2, h3, h5⟩ := append_str (P := Tryz.prog) w base 80 9 ty 5 i0 Tryz.underlying80 Tryz.underlying9 hi hz0 hz1 hz2 _ bs.length (u8s bs) h (zeroB n) (by rw [zeroB_size]; unfold maxLen; omega) (by rw [zeroB_size]; omega) hbase
  rw [← append_zeros (P := Tryz.prog) w 80 3 9 ty 5 i0 Tryz.underlying80 Tryz.underlying3 Tryz.underlying9 hi hz0 hz1 hz2 a bs.length c n (by omega)] at hr
  have R := Buf.text (zeroB n) (Grew.refl w (.slice a bs.length c)) rfl h2 h3 h5
  rw [zeroB_data] at R
  exact ⟨v', w', hr, R.1, h3, h5⟩
end Go.Proofs.YtpmnepalchgcbaaGreatDoor.Msg

namespace Go.Proofs.YtpmnepalchgcbaaGreatDoor.Msg
open Go.ChangeShapes Go.WideShapes Go.ChangeAt Go.RowKit Go.Shelf
set_option linter.unusedVariables false
set_option linter.unusedSimpArgs false
attribute [local go_sem] Oper.semAt_some

set_option maxRecDepth 100000 in
set_option maxHeartbeats 4000000 in
theorem record_any (s : ByteArray) (w : World) (hs : s.size ≤ 1048576) :
    Calls Tryz.prog 69 #[.string s] w fun e w' => e = .returned (.string (recB s)) ∧ Below w.heap.size w w' := by
  refine (callsIn_wide (n := 6)).1 ?_
  obtain ⟨i0, hi, hz0, hz1, hz2⟩ := u8_facts
  by_cases hbig : (60000 : Int) < (s.size : Int)
  · have HX : Hid (recB s = ⟨#[]⟩) := by unfold recB; rw [if_neg (by omega)]; exact rfl
    refine callsIn_of_wp_marks Tryz.func69 rfl trivial ?_ rfl
    simp only [Tryz.ntmps69, List.size_toArray, List.length_cons, List.length_nil, Nat.reduceAdd, Nat.reduceSub, Array.replicate_succ, Array.replicate_zero, List.push_toArray, List.append_toArray, List.nil_append, List.cons_append]
    gi_wp2_with fail
    exact ⟨_, results_tmp rfl _ _ _, by rw [HX.out]; rfl, Below.refl _ _⟩
  · have HX : Hid (recB s = ⟨(recL s.data.toList).toArray⟩) := by unfold recB; rw [if_pos (by omega)]; exact rfl
    have hsl : s.data.toList.length = s.size := by simp
    obtain ⟨B, hB⟩ : ∃ B, bodyL s.data.toList = B := ⟨_, rfl⟩
    have hBl : B.length = s.size + 3 := by rw [← hB, bodyL_length, hsl]
    obtain ⟨m, hm⟩ : ∃ m, sectN s.size = m := ⟨_, rfl⟩
    have HM : Hid ((B.length + 30) / 31 = m) := by show _ = _; rw [hBl, ← hm]; unfold sectN; omega
    have hm6 : m ≤ 2000 := by rw [← hm]; unfold sectN; omega
    have HRL : Hid (recL s.data.toList = recP B (List.range m)) := by rw [recL_eq, hsl, hm, hB]; exact rfl
    have HBB := hide hB
    have HRS := hide (fun W => recordSize_any s.size W (by omega))
    rw [hm] at HRS
    obtain ⟨M, hM⟩ : ∃ M, 32 * m = M := ⟨_, rfl⟩
    rw [hM] at HRS
    have hM6 : M ≤ 64000 := by omega
    have hmk : Sem.run Tryz.prog (Instr.makeSlice 80 (.int .i64 0) (.int .i64 (M : Int))) w = .ok (.slice (some ⟨w.heap.size, 0, none⟩) 0 M) (w.alloc (.cells (madeCells #[.int .u8 0] (M * 1)) 5)) := by
      have := run_make (P := Tryz.prog) (w := w) 80 5 i0 (.int .u8 0) Tryz.underlying80 hi hz0 .i64 .i64 0 (M : Int) (by omega) (by omega) (by rw [hz2]; omega) (by omega)
      rw [hz1] at this
      have e : (Value.int IntKind.u8 0).cells = #[.int .u8 0] := rfl
      rw [e] at this
      simpa using this
    have HG0 : Hid (Buf w.heap.size (w.alloc (.cells (madeCells #[.int .u8 0] (M * 1)) 5)) (.slice (some ⟨w.heap.size, 0, none⟩) 0 M) []) := World.ownsRow_made w _ M (Nat.le_refl _) (by unfold maxLen; omega) (size_madeCells _ _)
    obtain ⟨w1, hw1⟩ : ∃ w1, w.alloc (.cells (madeCells #[.int .u8 0] (M * 1)) 5) = w1 := ⟨_, rfl⟩
    rw [hw1] at hmk HG0
    have sz1 : w1.heap.size = w.heap.size + 1 := by rw [← hw1]; simp
    have bel1 : Below w.heap.size w w1 := by rw [← hw1]; exact (Below.refl _ _).alloc (Nat.le_refl _) _
    have HSZ1 := hide sz1
    have HBEL1 := hide bel1
    obtain ⟨w2, hw2⟩ : ∃ w2, w1.alloc (.cells #[.slice (some ⟨w.heap.size, 0, none⟩) 0 M] 80) = w2 := ⟨_, rfl⟩
    obtain ⟨w3, hw3⟩ : ∃ w3, w2.alloc (.cells #[.int .u8 65] 5) = w3 := ⟨_, rfl⟩
    have sz2 : w2.heap.size = w1.heap.size + 1 := by rw [← hw2]; simp
    have sz3 : w3.heap.size = w1.heap.size + 1 + 1 := by rw [← hw3, ← sz2]; simp
    have bel12 : Below w1.heap.size w1 w2 := by rw [← hw2]; exact (Below.refl _ _).alloc (Nat.le_refl _) _
    have bel23 : Below w2.heap.size w2 w3 := by rw [← hw3]; exact (Below.refl _ _).alloc (Nat.le_refl _) _
    have HBR : Hid (Boxed w3 w1.heap.size 80 (.slice (some ⟨w.heap.size, 0, none⟩) 0 M)) := by
      rw [← hw3, ← hw2]; exact (Boxed.new w1 _ _).alloc _
    have HBM : Hid (Boxed w3 w2.heap.size 5 (.int .u8 65)) := by
      rw [← hw3]; exact Boxed.new w2 _ _
    have HSZ2 := hide sz2
    have HBEL3 := hide (bj bel23 (bj bel12 bel1))
    have HG3 := hide ((HG0.out.keep bel12).keep bel23)
    have HSZ3 := hide sz3
    obtain ⟨n, hn⟩ : ∃ n, B.length = n := ⟨_, rfl⟩
    have HN := hide hn
    have hn6 : n ≤ 60003 := by omega
    have hn0 : 0 < n := by omega
    rw [hn] at HM
    clear hBl hn hw1 sz1 bel1 hB hm hM hsl sz2 sz3 bel12 bel23
    refine callsIn_of_wp_marks Tryz.func69 rfl trivial ?_ rfl
    simp only [Tryz.ntmps69, List.size_toArray, List.length_cons, List.length_nil, Nat.reduceAdd, Nat.reduceSub, Array.replicate_succ, Array.replicate_zero, List.push_toArray, List.append_toArray, List.nil_append, List.cons_append]
    gi_wp2_with fail
    refine ⟨trivial, ?_⟩
    refine (callsIn_wide.2 (HRS.out _)).mono ?_
    rintro e W ⟨rfl, rfl⟩
    gi_wp2_with fail
    refine ⟨trivial, ?_⟩
    refine (callsIn_wide.2 (withSize_any s _ (by omega))).mono ?_
    rintro e W4 ⟨u4, rfl, hO4, hb4⟩
    rw [HBB.out] at hO4
    obtain ⟨b, c4, rfl, hc4, hcm4, hb3, hbl4, hcell4⟩ := hO4.cells (by rw [HN.out]; exact hn0)
    rw [HN.out] at hO4 hc4
    rw [HN.out]
    have HC4 := hide hcell4
    rw [HN.out] at HC4
    clear hcell4
    gi_wp2_with fail
    refine ⟨trivial, ?_⟩
    refine (chunk_in (some ⟨b, 0, none⟩) n c4 _ _).mono ?_
    rintro e W5 ⟨rfl, hW5⟩
    have hBS : W5.heap[W4.heap.size]? = some (.cells #[.slice (some ⟨b, 0, none⟩) n c4] 80 (0, 0)) := by rw [hW5]; exact (Boxed.new W4 80 (.slice (some ⟨b, 0, none⟩) n c4)).alloc _
    have hBN : W5.heap[W4.heap.size + 1]? = some (.cells #[.int .i64 31] 3 (0, 0)) := by
      rw [hW5]
      have := Boxed.new (W4.alloc (.cells #[.slice (some ⟨b, 0, none⟩) n c4] 80)) 3 (.int .i64 31)
      rw [World.size_alloc] at this
      exact this
    have sz5 : W5.heap.size = W4.heap.size + 1 + 1 := by rw [hW5]; simp
    have bel45 : Below W4.heap.size W4 W5 := by rw [hW5]; exact ((Below.refl _ _).alloc (Nat.le_refl _) _).alloc (by simp) _
    have bel35 : Below w3.heap.size w3 W5 := bj bel45 hb4
    have PL : RPlaces W W5 W.heap.size w1.heap.size w2.heap.size := ⟨Nat.le_refl _, by rw [HSZ1.out]; omega, by rw [HSZ2.out]; omega, by have := bel35.size; rw [HSZ3.out] at this; rw [HSZ2.out]; omega⟩
    have I0 : RecV W W5 W.heap.size w1.heap.size w2.heap.size 65 [] W5 (.slice (some ⟨W.heap.size, 0, none⟩) 0 M) :=
      ⟨(bel35.block _ (by rw [HSZ3.out]; omega)).trans HBR.out, HG3.out.keep bel35, .inl rfl, (bel35.block _ (by rw [HSZ3.out, HSZ2.out]; omega)).trans HBM.out, fun _ _ _ _ _ => rfl, Nat.le_refl _, bj bel35 HBEL3.out⟩
    have HCB : Hid (∀ j, j < n → W5.cell? ⟨b, j, none⟩ = some (.int .u8 ((B.getD j 0).toNat : Int))) := fun j hj => (bel45.cell (p := ⟨b, j, none⟩) hbl4).trans (HC4.out j hj)
    have hbW5 : b < W5.heap.size := by omega
    have hbne : b ≠ W.heap.size ∧ b ≠ w1.heap.size ∧ b ≠ w2.heap.size := by
      have h1 := HSZ1.out; have h2 := HSZ2.out; have h3 := HSZ3.out
      omega
    have HI0 := hide I0
    have HPL := hide PL
    have HBS := hide hBS
    have HBN := hide hBN
    have HSZ5 := hide sz5
    have HNE := hide hbne
    have HGE : Hid (W4.heap.size ≠ W.heap.size ∧ W4.heap.size ≠ w1.heap.size ∧ W4.heap.size ≠ w2.heap.size ∧ W4.heap.size + 1 ≠ W.heap.size ∧ W4.heap.size + 1 ≠ w1.heap.size ∧ W4.heap.size + 1 ≠ w2.heap.size) := by
      have h1 := HSZ1.out; have h2 := HSZ2.out; have h3 := HSZ3.out
      show _ ∧ _
      omega
    clear hW5 hBS hBN sz5 bel45 bel35 PL I0 hO4 hb4 hbne
    gi_wp2_with fail
    refine wpIn_rangeFunc_ownF (α := Nat) rfl (by omega) (gf := 99) (lb := #[.pointer (some ⟨W4.heap.size, 0, none⟩), .pointer (some ⟨W4.heap.size + 1, 0, none⟩)]) rfl trivial (enters_of Tryz.func99 (by kernel_rfl) rfl)
      (encs := fun j => #[chunkV b n j]) (Kp := ChunkKp W4.heap.size (W4.heap.size + 1)) (S := fun ys => ys = List.range m) (Sp := fun pre => ∃ k, k ≤ m ∧ pre = List.range k) (N := m) (w0 := W5) ?seq ?kt ?kb (Below.refl _ _) (fun _ => rfl)
      (fun pre X => ∃ v, RecV W W5 W.heap.size w1.heap.size w2.heap.size (if (recP B pre).length = 0 then 65 else 66) (recP B pre) X v)
      (fun _ _ _ => False) ?hI (fun _ _ _ _ _ hs _ _ => hs) ⟨_, HI0.out⟩
      (fun x => { tmps := #[Value.string s, undef, Value.string { data := #[] }, Value.pointer (some { block := w1.heap.size, off := 0 }),
             Value.pointer (some { block := w2.heap.size, off := 0 }), chunkV b n x, Value.string s,
             Value.int IntKind.i64 (s.size : Int), Value.bool false, Value.string s, Value.int IntKind.i64 (s.size : Int),
             Value.int IntKind.i64 (M : Int), Value.slice (some { block := W.heap.size, off := 0 }) 0 M, Value.string s,
             Value.slice (some { block := b, off := 0 }) n c4,
             Value.func (Fn.func 99) #[]
               #[Value.pointer (some { block := W4.heap.size, off := 0 }),
                 Value.pointer (some { block := W4.heap.size + 1, off := 0 })],
             chunkV b n x, undef, undef, undef, undef, undef, undef, undef, undef, undef, undef, undef, undef, undef, undef], defers := [] }) ?assign ?body ?done ?stop
    case seq =>
      intro l J Jx X hX hJ hJx hY h0
      have := chunk1_in 5 l W4.heap.size (W4.heap.size + 1) b n c4 (by omega) (by omega) hc4 hcm4 J Jx X hJ (by rw [HM.out]; exact hY)
        ((hX.block _ (by rw [HSZ5.out]; omega)).trans HBS.out) ((hX.block _ (by rw [HSZ5.out]; omega)).trans HBN.out) h0
      rw [HM.out] at this
      exact this
    case kt =>
      intro A C D h1 h2
      exact ⟨h2.1.trans h1.1, h2.2.trans h1.2⟩
    case kb =>
      intro X l o o' hl _ _ _
      exact ⟨World.putObj_heap_other (by rw [HSZ5.out] at hl; omega), World.putObj_heap_other (by rw [HSZ5.out] at hl; omega)⟩
    case hI =>
      intro pre X X' row hx hg hr
      obtain ⟨v, hv⟩ := hx
      exact ⟨v, hv.turned HPL.out hg hr⟩
    case assign =>
      intro l x X K hK
      gi_wp2
      exact hK
    case body =>
      rintro l pre x X ⟨v, hv⟩ hlt
      have hlenP : (recP B pre).length ≤ 64000 := by rw [recP_length]; omega
      obtain ⟨acc, hacc⟩ : ∃ acc, recP B pre = acc := ⟨_, rfl⟩
      have HSN : Hid (recP B (pre ++ [x]) = acc ++ chunkL B x ++ List.replicate (31 - (chunkL B x).length) 0 ++ [if acc.length = 0 then 65 else 66]) := by rw [recP_snoc, hacc]; exact rfl
      rw [hacc] at hv hlenP
      obtain ⟨c, hc1, hc2⟩ : ∃ c : UInt8, (if acc.length = 0 then (65 : Int) else 66) = (c.toNat : Int) ∧ (if acc.length = 0 then (65 : UInt8) else 66) = c := by
        by_cases h : acc.length = 0
        · exact ⟨65, by rw [if_pos h]; rfl, by rw [if_pos h]⟩
        · exact ⟨66, by rw [if_neg h]; rfl, by rw [if_neg h]⟩
      rw [hc1] at hv
      rw [hc2] at HSN
      obtain ⟨cs, hcs⟩ : ∃ cs, chunkL B x = cs := ⟨_, rfl⟩
      rw [hcs] at HSN
      obtain ⟨q, hq⟩ : ∃ q, min 31 (n - 31 * x) = q := ⟨_, rfl⟩
      have hcl : cs.length = q := by rw [← hcs, chunkL_length, HN.out]; exact hq
      have hq31 : q ≤ 31 := by omega
      have hcV : chunkV b n x = .slice (some ⟨b, 31 * x, none⟩) q q := by unfold chunkV; rw [hq]
      obtain ⟨z, hz⟩ : ∃ z, 31 - q = z := ⟨_, rfl⟩
      have hzi : (31 : Int) - (q : Int) = (z : Int) := by omega
      have hz31 : z ≤ 31 := by omega
      rw [hcl, hz] at HSN
      have hXb : X.heap[b]? = W5.heap[b]? := hv.old b hbW5 HNE.out.1 HNE.out.2.1 HNE.out.2.2
      have hcells : ∀ j, j < cs.length → X.cell? ⟨b, 31 * x + j, none⟩ = some (.int .u8 ((cs.getD j 0).toNat : Int)) := fun j hj => by
        have e1 : X.cell? ⟨b, 31 * x + j, none⟩ = W5.cell? ⟨b, 31 * x + j, none⟩ := by simp only [World.cell?, hXb]
        have hjn : 31 * x + j < n := by rw [hcl] at hj; omega
        rw [e1, HCB.out _ hjn, ← hcs]
        have e2 : (chunkL B x).getD j 0 = B.getD (31 * x + j) 0 := by
          rw [hcl] at hj
          simp only [chunkL, List.getD_eq_getElem?_getD, List.getElem?_take, List.getElem?_drop]
          rw [if_pos (by omega)]
        rw [e2]
      have hbX := hv.below.size
      obtain ⟨v1, x1, hr1, hb1, hg1, ha1⟩ := hv.buf.run_bytes 80 hbX b (31 * x) q hcells (by omega)
      rw [hcl] at hr1
      obtain ⟨k1, hv2, ko1⟩ := hv.append HPL.out hb1 hg1 ha1
      obtain ⟨g1, c1, hform1, _, _⟩ := hb1.form
      obtain ⟨L1, hL1⟩ : ∃ L1, (acc ++ cs).length = L1 := ⟨_, rfl⟩
      rw [hL1] at hform1
      subst hform1
      obtain ⟨X2, hX2⟩ : ∃ X2, x1.setCell ⟨w1.heap.size, 0, none⟩ (.slice g1 L1 c1) = X2 := ⟨_, rfl⟩
      rw [hX2] at hv2 ko1
      have hL1b : L1 ≤ 64031 := by rw [← hL1, List.length_append]; omega
      obtain ⟨v2, x3, hr2, hb2, hg2, ha2⟩ := hv2.buf.run_zeros 80 hv2.below.size z (by rw [hL1]; omega)
      obtain ⟨k2, hv4, ko2⟩ := hv2.append HPL.out hb2 hg2 ha2
      obtain ⟨g2, c2, hform2, _, _⟩ := hb2.form
      obtain ⟨L2, hL2⟩ : ∃ L2, (acc ++ cs ++ List.replicate z 0).length = L2 := ⟨_, rfl⟩
      have hL2b : L2 ≤ 64062 := by rw [← hL2, List.length_append, List.length_replicate, hL1]; omega
      rw [hL2] at hform2
      subst hform2
      obtain ⟨X4, hX4⟩ : ∃ X4, x3.setCell ⟨w1.heap.size, 0, none⟩ (.slice g2 L2 c2) = X4 := ⟨_, rfl⟩
      rw [hX4] at hv4 ko2
      have hv5 := hv4.alloc (.cells #[.int .u8 (c.toNat : Int)] 5)
      have ko3 := KeepsOthers.alloc X4 (.cells #[.int .u8 (c.toNat : Int)] 5)
      have hnew : (X4.alloc (.cells #[.int .u8 (c.toNat : Int)] 5)).cell? ⟨X4.heap.size, 0, none⟩ = some (.int .u8 (c.toNat : Int)) := by simp
      obtain ⟨X5, hX5⟩ : ∃ X5, X4.alloc (.cells #[.int .u8 (c.toNat : Int)] 5) = X5 := ⟨_, rfl⟩
      rw [hX5] at hv5 ko3 hnew
      obtain ⟨v3, x6, hr3, hb3', hg3, ha3⟩ := hv5.buf.run_bytes (cs := [c]) 80 hv5.below.size X4.heap.size 0 1 (fun j hj => by
        obtain rfl : j = 0 := by simp at hj; exact hj
        exact hnew) (by rw [hL2]; simp; omega)
      obtain ⟨k3, hv7, ko4⟩ := hv5.append HPL.out hb3' hg3 ha3
      obtain ⟨g3, c3, hform3, _, _⟩ := hb3'.form
      obtain ⟨L3, hL3⟩ : ∃ L3, (acc ++ cs ++ List.replicate z 0 ++ [c]).length = L3 := ⟨_, rfl⟩
      rw [hL3] at hform3
      subst hform3
      obtain ⟨X7, hX7⟩ : ∃ X7, x6.setCell ⟨w1.heap.size, 0, none⟩ (.slice g3 L3 c3) = X7 := ⟨_, rfl⟩
      rw [hX7] at hv7 ko4
      have hv8 := hv7.marked HPL.out 66
      have ko5 := KeepsOthers.setCell X7 ⟨w2.heap.size, 0, none⟩ (.int .u8 66)
      obtain ⟨X8, hX8⟩ : ∃ X8, X7.setCell ⟨w2.heap.size, 0, none⟩ (.int .u8 66) = X8 := ⟨_, rfl⟩
      rw [hX8] at hv8 ko5
      have HFIN : Hid (KeepsOthers X X8 ∧ ChunkKp W4.heap.size (W4.heap.size + 1) X X8 ∧ ∃ v, RecV W W5 W.heap.size w1.heap.size w2.heap.size (if (recP B (pre ++ [x])).length = 0 then 65 else 66) (recP B (pre ++ [x])) X8 v) := by
        have hge := HGE.out
        have h5 := HSZ5.out
        refine ⟨(((ko1.trans ko2).trans ko3).trans ko4).trans ko5, ⟨?_, ?_⟩, ⟨.slice g3 L3 c3, ?_⟩⟩
        · exact (hv8.old _ (by omega) hge.1 hge.2.1 hge.2.2.1).trans (hv.old _ (by omega) hge.1 hge.2.1 hge.2.2.1).symm
        · exact (hv8.old _ (by omega) hge.2.2.2.1 hge.2.2.2.2.1 hge.2.2.2.2.2).trans (hv.old _ (by omega) hge.2.2.2.1 hge.2.2.2.2.1 hge.2.2.2.2.2).symm
        · rw [HSN.out, if_neg (by simp)]
          exact hv8
      have cb0 := hv.box.cell
      have cb1 := k1.cell
      have cf1 := k1.frozen
      have cb2 := hv2.box.cell
      have cb3 := k2.cell
      have cf3 := k2.frozen
      have cb4 := hv4.box.cell
      have cm4 := hv4.mark.cell
      have cb6 := k3.cell
      have cf6 := k3.frozen
      have cm7 := hv7.mark.cell
      have cf7 := hv7.mark.frozen
      obtain ⟨aV, cV, hformV, _, _⟩ := hv.buf.form
      obtain ⟨L0, hL0⟩ : ∃ L0, acc.length = L0 := ⟨_, rfl⟩
      rw [hL0] at hformV
      subst hformV
      rw [hcV]
      have HR1 := hide hr1
      have HR2 := hide hr2
      have HR3 := hide hr3
      clear hr1 hr2 hr3 hv hv2 hv4 hv5 hv7 hv8 ko1 ko2 ko3 ko4 ko5 hb1 hb2 hb3' hg1 hg2 hg3 ha1 ha2 ha3 k1 k2 k3 hcells hXb hcV hc1 hc2 hcs hq hz hacc hcl hL0 hL1 hL2 hL3 hnew
      gi_wp2_with (first
        | (gi_at_builtin; refine wpListIn_apd rfl _ _ _ _ rfl rfl rfl HR1.out ?_)
        | (gi_at_builtin; refine wpListIn_apd rfl _ _ _ _ rfl rfl rfl HR2.out ?_)
        | (gi_at_builtin; refine wpListIn_apd rfl _ _ _ _ rfl rfl rfl HR3.out ?_)
        | fail)
      exact HFIN.out
    case done =>
      rintro D ys X hD rfl ⟨v, hv⟩ hK
      have hstr := hv.buf.string
      rw [← HRL.out, ← HX.out] at hstr
      have hc := hv.box.cell
      obtain ⟨aV, cV, hformV, _, _⟩ := hv.buf.form
      obtain ⟨L0, hL0⟩ : ∃ L0, (recP B (List.range m)).length = L0 := ⟨_, rfl⟩
      rw [hL0] at hformV
      subst hformV
      have HBE := hide hv.below
      clear hv hL0
      gi_wp2_with fail
      refine ⟨by simp, .inl ⟨_, _, rfl, run_takeDeferred hK, ?_⟩⟩
      exact ⟨_, results_tmp rfl _ _ _, rfl, HBE.out.trans (belowK_b (w := W) (Nat.le_refl _) X D _ _ (by have := HPL.out; have := this.a; have := HPL.out.b; have := HPL.out.c; have := HPL.out.d; omega) hK rfl rfl)⟩
    case stop =>
      rintro D c pre X _ _ h _
      exact h.elim
end Go.Proofs.YtpmnepalchgcbaaGreatDoor.Msg
