import Derived.Test.YtjpdgcodjnnljaaCrashImpl
import Derived.Test.YtjpdgcodjnnljaaMsgTo
import Derived.Test.YtjpdgcodjnnljaaMsgEq
namespace Go.Proofs.Ytjpdgcodjnnljaa.Msg
open Go.ChangeShapes Go.WideShapes Go.ChangeAt Go.RowKit
set_option linter.unusedVariables false
set_option linter.unusedSimpArgs false

set_option maxHeartbeats 400000 in
theorem eqInts_any (xs : List Int) (v u : Value) (w : World) {lo lo2 : Nat} (hv : IntsAt lo w v xs) (hu : IntsAt lo2 w u xs) :
    Calls Try.prog 51 #[v, u] w fun e w' => e = .returned (.bool true) ∧ Below w.heap.size w w' := by
  have hl := hv.1
  obtain ⟨a, cap, rfl, hc⟩ := ints_form hv
  obtain ⟨a2, cap2, rfl, hc2⟩ := ints_form hu
  have HC := hide hc
  have HC2 := hide hc2
  clear hv hu hc hc2
  go_enter Try.func51, Try.ntmps51
  go_wp2
  go_loopw [5] (fun i w1 => ∃ k : Nat, k ≤ xs.length ∧ i = .int .i64 k ∧ Below w.heap.size w w1) (fun i _ => xs.length - (intOf i).toNat)
  case atStart => exact ⟨0, Nat.zero_le _, rfl, Below.refl _ _⟩
  case round =>
    obtain ⟨k, hk, rfl, hb⟩ := hrel
    by_cases hk2 : k < xs.length
    · obtain ⟨b, off, rfl, hlt, h1'⟩ := HC.out k hk2
      obtain ⟨b2, off2, rfl, hlt2, h2'⟩ := HC2.out k hk2
      have h1 : wr.cell? ⟨b, off + k, none⟩ = some (.int .i64 xs[k]) := by rw [hb.cell (p := ⟨b, off + k, none⟩) hlt]; exact h1'
      have h2 : wr.cell? ⟨b2, off2 + k, none⟩ = some (.int .i64 xs[k]) := by rw [hb.cell (p := ⟨b2, off2 + k, none⟩) hlt2]; exact h2'
      have hi : (k : Int) < (xs.length : Int) := by omega
      clear h1' h2'
      go_wp2
      go_quiet (fail)
      go_wp2
      go_roundw
      case rel => exact ⟨k + 1, by omega, by go_num, below_drewN hb _⟩
      case measure => simp [intOf]; omega
    · go_wp2
      go_ret
      exact ⟨rfl, hb⟩

def intsRow (xs : List Int) (k : Nat) (j : Nat) : Value := .int .i64 ((xs.take k).getD j 0)
theorem intsRow_step (xs : List Int) (k : Nat) (h : k < xs.length) (j : Nat) : (if j = k then Value.int .i64 xs[k] else intsRow xs k j) = intsRow xs (k + 1) j := by
  unfold intsRow
  by_cases hj : j = k
  · subst hj
    rw [if_pos rfl]
    simp [List.getD_eq_getElem?_getD, List.getElem?_take, h]
  · rw [if_neg hj]
    by_cases hl : j < k
    · simp [List.getD_eq_getElem?_getD, List.getElem?_take, hl, Nat.lt_succ_of_lt hl]
    · have h2 : ¬ j < k + 1 := by omega
      simp [List.getD_eq_getElem?_getD, List.getElem?_take, hl, h2]
theorem intsRow_at (xs : List Int) (j : Nat) (h : j < xs.length) : intsRow xs xs.length j = .int .i64 xs[j] := by
  unfold intsRow
  simp [List.getD_eq_getElem?_getD, h]
theorem ints_of_row {w : World} {B : Nat} {t : TypeId} {xs : List Int} {cap : Nat} (hl : xs.length ≤ 9223372036854775807) (h : w.rowIs B t xs.length (intsRow xs xs.length)) : IntsAt B w (.slice (some ⟨B, 0, none⟩) xs.length cap) xs :=
  ⟨hl, .inr ⟨B, 0, cap, rfl, ⟨Nat.le_refl _, h.lt⟩, fun i hi => by have := h.cell hi; rw [intsRow_at xs i hi] at this; unfold IntR; simpa using this⟩⟩
theorem info_int : (Try.prog.info? 3).map (fun i => (i.zero, i.size, i.bytes)) = some (some (.int .i64 0), 1, 8) := by kernel_rfl

set_option maxHeartbeats 400000 in
theorem toInts_any (xs : List Int) (v : Value) (w : World) (hn : xs.length ≤ 1048576) {lo : Nat} (hv : IntsAt lo w v xs) :
    Calls Try.prog 49 #[v] w fun e w' => ∃ u, e = .returned u ∧ IntsAt w.heap.size w' u xs ∧ Below w.heap.size w w' := by
  have hl := hv.1
  obtain ⟨a, cap, rfl, hc⟩ := ints_form hv
  clear hv
  have HC := hide hc
  clear hc
  have hmk := make_rows (P := Try.prog) 25 3 (.int .i64 0) #[.int .i64 0] 1 8 Try.underlying25 info_int rfl xs.length (by omega) (by omega)
  have hrow0 : (w.alloc (Obj.cells (madeCells #[Value.int .i64 0] xs.length) 3)).rowIs w.heap.size 3 xs.length (intsRow xs 0) := by
    have := made_row w #[Value.int .i64 0] xs.length 3 (by decide)
    refine this.congr ?_
    intro i _
    simp [intsRow, Nat.mod_one]
  go_enter Try.func49, Try.ntmps49
  go_wp2
  go_loopw [4] (fun i w1 => ∃ k : Nat, k ≤ xs.length ∧ i = .int .i64 k ∧ w1.rowIs w.heap.size 3 xs.length (intsRow xs k) ∧ Below w.heap.size w w1) (fun i _ => xs.length - (intOf i).toNat)
  case atStart => exact ⟨0, Nat.zero_le _, rfl, hrow0, (Below.refl _ _).alloc (Nat.le_refl _) _⟩
  case round =>
    obtain ⟨k, hk, rfl, hrow, hb⟩ := hrel
    by_cases hlt : k < xs.length
    · obtain ⟨b, off, rfl, hbl, hr⟩ := HC.out k hlt
      have h1 : wr.cell? ⟨b, off + k, none⟩ = some (.int .i64 xs[k]) := by rw [hb.cell (p := ⟨b, off + k, none⟩) hbl]; exact hr
      have h2 := hrow.cell hlt
      have h3 := hrow.frozen k
      clear hr
      go_wp2
      go_roundw
      case rel => exact ⟨k + 1, by omega, by go_num, (hrow.set k (.int .i64 xs[k])).congr fun j _ => intsRow_step xs k hlt j, hb.setCell (by simp) _⟩
      case measure => simp [intOf]; omega
    · obtain rfl : k = xs.length := by omega
      go_wp2
      go_ret
      exact ⟨_, rfl, ints_of_row hl hrow, hb⟩

def diskV (S N : ByteArray) : Value := .agg #[.string S, .string N]
set_option maxHeartbeats 1000000 in
theorem toDisk_any (S N : ByteArray) (w : World) : Calls Try.prog 48 #[diskV S N] w fun e w' => e = .returned (diskV S N) ∧ Below w.heap.size w w' := by
  unfold diskV
  go_enter Try.func48, Try.ntmps48
  go_wp2_with fail
  exact bodyPost_ret (v := .agg #[.string S, .string N]) (by simp [results, Try.results48, go_sem]) rfl ⟨rfl, (((Below.refl w.heap.size w).alloc (Nat.le_refl _) _).alloc (by simp) _).alloc (by simp; omega) _⟩
set_option maxHeartbeats 1000000 in
theorem eqDisk_any (S N : ByteArray) (w : World) : Calls Try.prog 50 #[diskV S N, diskV S N] w fun e w' => e = .returned (.bool true) ∧ Below w.heap.size w w' := by
  have HB := hide (((Below.refl w.heap.size w).alloc (Nat.le_refl _) (Obj.cells #[.string S, .string N] 32)).alloc (by simp) (Obj.cells #[.string S, .string N] 32))
  unfold diskV
  go_enter Try.func50, Try.ntmps50
  go_wp2_with fail
  go_ret
  exact ⟨rfl, HB.out⟩
set_option maxHeartbeats 1000000 in
theorem szDisk_any (S N : ByteArray) (w : World) (h1 : S.size ≤ 9223372036854775807) (h2 : N.size ≤ 9223372036854775807) :
    Calls Try.prog 46 #[diskV S N, .int .i64 1048576] w fun e w' => e = .returned (.int .i64 (rest 1048576 (S.size + N.size))) ∧ Below w.heap.size w w' := by
  have HB := hide ((Below.refl w.heap.size w).alloc (Nat.le_refl _) (Obj.cells #[.string S, .string N] 70))
  unfold diskV
  by_cases a1 : (1048576 : Int) - S.size < 0
  · have HX := hide (show rest 1048576 (S.size + N.size) = -1 from rest_no (by omega))
    go_enter Try.func46, Try.ntmps46
    go_wp2_with fail
    go_ret
    exact ⟨ret_int HX.out.symm, HB.out⟩
  by_cases a2 : (1048576 : Int) - S.size - N.size < 0
  · have HX := hide (show rest 1048576 (S.size + N.size) = -1 from rest_no (by omega))
    go_enter Try.func46, Try.ntmps46
    go_wp2_with fail
    go_ret
    exact ⟨ret_int HX.out.symm, HB.out⟩
  · have HX := hide (show rest 1048576 (S.size + N.size) = 1048576 - S.size - N.size by rw [rest_yes (by omega)]; omega)
    go_enter Try.func46, Try.ntmps46
    go_wp2_with fail
    go_ret
    exact ⟨ret_int HX.out.symm, HB.out⟩
end Go.Proofs.Ytjpdgcodjnnljaa.Msg
