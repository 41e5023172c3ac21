import Derived.Test.YtjpdgcodjnnljaaRecSpec
import Derived.RangeFuncNested
import Derived.RangeFuncBound
import Derived.RangeFuncCalls
import Derived.RangeFuncLeaves
import Derived.RangeFuncBox
import Derived.Shelf.Abstract
import Derived.Shelf.RegionOpen
import Derived.OwnWalkIn
import Derived.TacticsInMore
import Derived.LoopNIn
import Derived.LoopIn
import Derived.Maps.OwnIn
namespace Go.Proofs.Ytjpdgcodjnnljaa.Msg
open Go.ChangeShapes Go.WideShapes Go.ChangeAt Go.RowKit Go.Shelf
set_option linter.unusedVariables false
set_option linter.unusedSimpArgs false
attribute [local go_sem] Oper.semAt_some

set_option maxHeartbeats 1000000 in
theorem recordSize_any (n : Nat) (w : World) (hn : n ≤ 16777216) :
    Calls Try.prog 52 #[.int .i64 (n : Int)] w fun e w' => e = .returned (.int .i64 ((32 * sectN n : Nat) : Int)) ∧ w' = w := by
  have h1 : (3 + (n : Int) + 31 - 1).tdiv 31 = ((sectN n : Nat) : Int) := by rw [Int.tdiv_eq_ediv_of_nonneg (by omega)]; unfold sectN; omega
  have h2 : sectN n ≤ 600000 := by unfold sectN; omega
  go_enter Try.func52, Try.ntmps52
  go_wp2_with fail
  go_ret
  exact ⟨ret_int (by omega), rfl⟩

set_option maxHeartbeats 1000000 in
theorem withSize_any (s : ByteArray) (w : World) (hs : s.size ≤ 60000) :
    Calls Try.prog 54 #[.string s] w fun e w' => ∃ u, e = .returned u ∧ Buf w.heap.size w' u (bodyL s.data.toList) ∧ Below w.heap.size w w' := by
  obtain ⟨i0, hi, hz0, hz1, hz2⟩ := u8_facts
  have HB1 := hide (Buf.size_lit w s.size hs)
  have hsl : s.data.toList.length = s.size := by simp
  have HBL : Hid (szL s.size ++ s.data.toList = bodyL s.data.toList) := by unfold bodyL; rw [hsl]; exact rfl
  clear hsl
  go_enter Try.func54, Try.ntmps54
  go_wp2_with (first
    | (at_builtin; refine wpList_str _ rfl _ _ 22 9 rfl w.heap.size 5 i0 Try.underlying22 Try.underlying9 hi hz0 hz1 hz2 _ 3 _ rfl HB1.out s rfl (by unfold maxLen; omega) (by omega) (by simp) ?_)
    | fail)
  intro v2 w2 hown2 hgrow2 hat2
  have R := Buf.text s (Grew.refl _ _) (bs := szL s.size) rfl hown2 hgrow2 (by rw [Deep.nblk_alloc]; exact hat2)
  rw [HBL.out] at R
  have HR : Hid (Buf w.heap.size w2 v2 (bodyL s.data.toList) ∧ Below w.heap.size w w2) := ⟨R.1, ((Below.refl w.heap.size w).alloc (Nat.le_refl _) _).trans (R.2.below (by simp [Value.ownBlock]) (by simp))⟩
  clear hown2 hgrow2 hat2 R
  go_wp2_with fail
  go_ret
  exact ⟨_, rfl, HR.out⟩

set_option maxHeartbeats 1000000 in
theorem chunk_in (a : Option Addr) (len cap : Nat) (n : Nat) (w : World) :
    CallsIn Fence.wide n Try.prog 53 #[.slice a len cap, .int .i64 31] w fun e w' =>
      e = .returned (.func (.func 91) #[] #[.pointer (some ⟨w.heap.size, 0, none⟩), .pointer (some ⟨w.heap.size + 1, 0, none⟩)]) ∧ w' = (w.alloc (.cells #[.slice a len cap] 22)).alloc (.cells #[.int .i64 31] 3) := by
  refine callsIn_of_wp Try.func53 rfl trivial ?_ rfl
  simp only [Try.ntmps53, List.size_toArray, List.length_cons, List.length_nil, Nat.reduceAdd, Nat.reduceSub, Array.replicate_succ, Array.replicate_zero, List.push_toArray, List.append_toArray, List.nil_append, List.cons_append]
  gi_wp2
  go_ret
  exact ⟨rfl, rfl⟩
/-- what the chunks read behind a round -/
def ChunkKp (Bs Bn : Nat) (W W' : World) : Prop := W'.heap[Bs]? = W.heap[Bs]? ∧ W'.heap[Bn]? = W.heap[Bn]?
theorem grownBy_drew (W : World) (k : Nat) : W.grownBy (W.drewN k) none := ⟨rfl, rfl, rfl, Nat.le_refl _, fun _ _ _ => rfl⟩
def chunkV (b n j : Nat) : Value := .slice (some ⟨b, 31 * j, none⟩) (min 31 (n - 31 * j)) (min 31 (n - 31 * j))

set_option maxRecDepth 100000 in
set_option maxHeartbeats 2000000 in
theorem chunk1_in (n l Bs Bn b len cap : Nat) (hn : 1 ≤ n) (hlen : len ≤ 100000) (hcap : len ≤ cap) (hcap2 : cap ≤ 9223372036854775807) (J Jx : List Nat → World → Prop) (W : World)
    (hJ : AbidesFrom W.heap.size J)
    (hY : ∀ pre x W1, J pre W1 → pre.length < (len + 30) / 31 → YieldAt Fence.wide (n - 1) Try.prog l #[chunkV b len x] W1 fun e W' =>
      (e = .returned (.bool true) ∧ J (pre ++ [x]) W' ∧ ChunkKp Bs Bn W1 W') ∨ (e = .returned (.bool false) ∧ Jx (pre ++ [x]) W'))
    (hBs : W.heap[Bs]? = some (.cells #[.slice (some ⟨b, 0, none⟩) len cap] 22 (0, 0))) (hBn : W.heap[Bn]? = some (.cells #[.int .i64 31] 3 (0, 0))) (h0 : J [] W) :
    CallsIn Fence.wide n Try.prog 91 #[.func (.yield l) #[] #[], .pointer (some ⟨Bs, 0, none⟩), .pointer (some ⟨Bn, 0, none⟩)] W fun e W' => (∃ v, e = .returned v) ∧
      ((∃ ys, ys = List.range ((len + 30) / 31) ∧ J ys W') ∨ (∃ pre, (∃ k, k ≤ (len + 30) / 31 ∧ pre = List.range k) ∧ Jx pre W')) := by
  have HY := hide hY
  have HJ := hide hJ
  clear hY hJ
  refine callsIn_of_wp Try.func91 rfl trivial ?_ rfl
  simp only [Try.ntmps91, List.size_toArray, List.length_cons, List.length_nil, Nat.reduceAdd, Nat.reduceSub, Array.replicate_succ, Array.replicate_zero, List.push_toArray, List.append_toArray, List.nil_append, List.cons_append]
  gi_wp2
  gi_loopw [4] (fun i wr => ∃ k : Nat, k ≤ (len + 30) / 31 ∧ i = .int .i64 ((31 * k : Nat) : Int) ∧ J (List.range k) wr ∧ wr.heap[Bs]? = some (.cells #[.slice (some ⟨b, 0, none⟩) len cap] 22 (0, 0)) ∧ wr.heap[Bn]? = some (.cells #[.int .i64 31] 3 (0, 0)))
    (fun i _ => 100100 - (intOf i).toNat)
  case atStart => exact ⟨0, Nat.zero_le _, rfl, h0, hBs, hBn⟩
  case round =>
    obtain ⟨k, hk, rfl, hJs, hs1, hn1⟩ := hrel
    have c1 : wr.cell? ⟨Bs, 0, none⟩ = some (.slice (some ⟨b, 0, none⟩) len cap) := by simp [World.cell?, hs1]
    have c2 : wr.cell? ⟨Bn, 0, none⟩ = some (.int .i64 31) := by simp [World.cell?, hn1]
    by_cases hlt : 31 * k < len
    · have hki : ((31 * k : Nat) : Int) < (len : Int) := by omega
      have hki2 : 31 * (k : Int) < (len : Int) := by omega
      gi_wp2
      gi_quiet (fail)
      by_cases h31 : ((len - 31 * k : Nat) : Int) < 31
      · obtain ⟨fn, tmps, assign, body, hy, hR⟩ := HY.out (List.range k) k (wr.drewN nq) (HJ.out _ _ _ _ hJs (grownBy_drew wr nq) (fun _ e => by cases e)) (by rw [List.length_range]; omega)
        rw [show chunkV b len k = .slice (some ⟨b, 31 * k, none⟩) (len - 31 * k) (len - 31 * k) by unfold chunkV; congr 1 <;> omega] at hy
        gi_wp2
        refine hR.mono ?_
        rintro e W3 (⟨rfl, hJ3, hk3⟩ | ⟨rfl, hJx3⟩)
        · have hs3 : W3.heap[Bs]? = _ := hk3.1.trans hs1
          have hn3 : W3.heap[Bn]? = _ := hk3.2.trans hn1
          have c3 : W3.cell? ⟨Bs, 0, none⟩ = some (.slice (some ⟨b, 0, none⟩) len cap) := by simp [World.cell?, hs3]
          have c4 : W3.cell? ⟨Bn, 0, none⟩ = some (.int .i64 31) := by simp [World.cell?, hn3]
          gi_wp2
          go_roundw
          case rel => exact ⟨k + 1, by omega, by go_num, by rw [List.range_succ]; exact hJ3, hs3, hn3⟩
          case measure => simp [intOf]; omega
        · gi_wp2
          refine bodyPost_ret (results_none rfl _ _ _) rfl ?_
          exact ⟨⟨_, rfl⟩, .inr ⟨_, ⟨k + 1, by omega, List.range_succ.symm⟩, hJx3⟩⟩
      · obtain ⟨fn, tmps, assign, body, hy, hR⟩ := HY.out (List.range k) k (wr.drewN nq) (HJ.out _ _ _ _ hJs (grownBy_drew wr nq) (fun _ e => by cases e)) (by rw [List.length_range]; omega)
        rw [show chunkV b len k = .slice (some ⟨b, 31 * k, none⟩) 31 31 by unfold chunkV; congr 1 <;> omega] at hy
        gi_wp2
        refine hR.mono ?_
        rintro e W3 (⟨rfl, hJ3, hk3⟩ | ⟨rfl, hJx3⟩)
        · have hs3 : W3.heap[Bs]? = _ := hk3.1.trans hs1
          have hn3 : W3.heap[Bn]? = _ := hk3.2.trans hn1
          have c3 : W3.cell? ⟨Bs, 0, none⟩ = some (.slice (some ⟨b, 0, none⟩) len cap) := by simp [World.cell?, hs3]
          have c4 : W3.cell? ⟨Bn, 0, none⟩ = some (.int .i64 31) := by simp [World.cell?, hn3]
          gi_wp2
          go_roundw
          case rel => exact ⟨k + 1, by omega, by go_num, by rw [List.range_succ]; exact hJ3, hs3, hn3⟩
          case measure => simp [intOf]; omega
        · gi_wp2
          refine bodyPost_ret (results_none rfl _ _ _) rfl ?_
          exact ⟨⟨_, rfl⟩, .inr ⟨_, ⟨k + 1, by omega, List.range_succ.symm⟩, hJx3⟩⟩
    · have hki : ¬ ((31 * k : Nat) : Int) < (len : Int) := by omega
      have hkk : k = (len + 30) / 31 := by omega
      gi_wp2
      go_end0
      exact ⟨⟨_, rfl⟩, .inl (by rw [← hkk]; exact hJs)⟩
end Go.Proofs.Ytjpdgcodjnnljaa.Msg
