import Derived.Test.YtaalkjbkmkjkpaaMsgSz2withMsgEq
import Derived.Deep.RegionHeld3
import Derived.Deep.OwnRows
import Derived.Deep.Heap
namespace Go.Proofs.Ytaalkjbkmkjkpaa.Msg
open Go.ChangeShapes Go.WideShapes Go.ChangeAt Go.RowKit

theorem bjoin {w W c : World} (h2 : Below W.heap.size W c) (h1 : Below w.heap.size w W) : Below w.heap.size w c := h1.trans (h2.mono h1.size)

theorem hold2 {w w' : World} {b o b2 o2 : Nat} {v u : Value} (h : Below w.heap.size w w') (h1 : b < w.heap.size) (h2 : b2 < w.heap.size) (g1 : w.cell? ⟨b, o, none⟩ = some v) (g2 : w.cell? ⟨b2, o2, none⟩ = some u) :
    w'.cell? ⟨b, o, none⟩ = some v ∧ w'.cell? ⟨b2, o2, none⟩ = some u ∧ Below w.heap.size w w' :=
  ⟨by rw [h.cell (p := ⟨b, o, none⟩) h1]; exact g1, by rw [h.cell (p := ⟨b2, o2, none⟩) h2]; exact g2, h⟩

end Go.Proofs.Ytaalkjbkmkjkpaa.Msg

namespace Go.Proofs.Ytaalkjbkmkjkpaa.Msg
open Go.ChangeShapes Go.WideShapes Go.ChangeAt Go.RowKit
set_option linter.unusedVariables false
set_option linter.unusedSimpArgs false

theorem At.form {α : Type} {n : Nat} {R : Nat → World → Nat → Nat → α → Prop} {lo : Nat} {w : World} {v : Value} {xs : List α} (h : At n R lo w v xs) :
    ∃ a cap, v = .slice a xs.length cap ∧ ∀ k (h : k < xs.length), ∃ b off, a = some ⟨b, off, none⟩ ∧ lo ≤ b ∧ b < w.heap.size ∧ R lo w b (off + k * n) xs[k] := by
  obtain ⟨_, h⟩ := h
  rcases h with ⟨a, cap, rfl, rfl⟩ | ⟨b, off, cap, rfl, hb, h⟩
  · exact ⟨a, cap, rfl, fun k hk => absurd hk (by simp)⟩
  · exact ⟨_, cap, rfl, fun k hk => ⟨b, off, rfl, hb.1, hb.2, h k hk⟩⟩

theorem make_rows {P : Program} (t e : TypeId) (z : Value) (zc : Array Value) (sz bytes : Nat) (ht : P.underlying t = some (.slice e))
    (hinfo : (P.info? e).map (fun i => (i.zero, i.size, i.bytes)) = some (some z, sz, bytes)) (hz : z.cells = zc) (n : Nat) (hb : bytes * n ≤ 281474976710656) (hn : n ≤ 9223372036854775807) (w : World) :
    Sem.run P (Instr.makeSlice t (.int .i64 (n : Int)) (.int .i64 (n : Int))) w = .ok (.slice (some ⟨w.heap.size, 0, none⟩) n n) (w.alloc (.cells (madeCells zc (n * sz)) e)) := by
  cases hi : P.info? e with
  | none => rw [hi] at hinfo; cases hinfo
  | some i =>
    rw [hi] at hinfo
    simp only [Option.map_some, Option.some.injEq, Prod.mk.injEq] at hinfo
    obtain ⟨h1, h2, h3⟩ := hinfo
    rw [run_make w t e i z ht hi h1 .i64 .i64 n n (by omega) (Int.le_refl _) (by rw [h3, ← Int.natCast_mul]; omega) (by omega)]
    rw [hz, h2, Int.toNat_natCast]

/-- what 'make' lays -/
theorem made_row (w : World) (zc : Array Value) (n : Nat) (e : TypeId) (hz : 0 < zc.size) : (w.alloc (.cells (madeCells zc n) e)).rowIs w.heap.size e n (fun j => zc[j % zc.size]!) := by
  have := World.rowIs_alloc w (madeCells zc n) e (fun j => zc[j % zc.size]!) (by intro i hi; rw [size_madeCells] at hi; simp [madeCells, hi])
  rw [size_madeCells] at this
  exact this

def strsRow (xs : List ByteArray) (k : Nat) (j : Nat) : Value := .string ((xs.take k).getD j ByteArray.empty)
theorem strsRow_step (xs : List ByteArray) (k : Nat) (h : k < xs.length) (j : Nat) : (if j = k then Value.string xs[k] else strsRow xs k j) = strsRow xs (k + 1) j := by
  unfold strsRow
  by_cases hj : j = k
  · subst hj
    rw [if_pos rfl]
    simp [List.getD_eq_getElem?_getD, List.getElem?_take, h]
  · rw [if_neg hj]
    by_cases hl : j < k
    · simp [List.getD_eq_getElem?_getD, List.getElem?_take, hl, Nat.lt_succ_of_lt hl]
    · have h2 : ¬ j < k + 1 := by omega
      simp [List.getD_eq_getElem?_getD, List.getElem?_take, hl, h2]
theorem strsRow_at (xs : List ByteArray) (j : Nat) (h : j < xs.length) : strsRow xs xs.length j = .string xs[j] := by
  unfold strsRow
  simp [List.getD_eq_getElem?_getD, h]

theorem strs_of_row {w : World} {B : Nat} {t : TypeId} {xs : List ByteArray} {cap : Nat} (hl : xs.length ≤ 9223372036854775807) (hs : ∀ i (h : i < xs.length), xs[i].size ≤ 9223372036854775807)
    (h : w.rowIs B t xs.length (strsRow xs xs.length)) : StrsAt B w (.slice (some ⟨B, 0, none⟩) xs.length cap) xs :=
  ⟨hl, .inr ⟨B, 0, cap, rfl, ⟨Nat.le_refl _, h.lt⟩, fun i hi => ⟨by have := h.cell hi; rw [strsRow_at xs i hi] at this; simpa using this, hs i hi⟩⟩⟩

theorem info_string : (Try.prog.info? 9).map (fun i => (i.zero, i.size, i.bytes)) = some (some (.string ByteArray.empty), 1, 16) := by kernel_rfl

set_option maxHeartbeats 400000 in
theorem toStrs_any (xs : List ByteArray) (v : Value) (w : World) (hn : xs.length ≤ 1048576) {lo : Nat} (hv : StrsAt lo w v xs) :
    Calls Try.prog 24 #[v] w fun e w' => ∃ u, e = .returned u ∧ StrsAt w.heap.size w' u xs ∧ Below w.heap.size w w' := by
  have hl := hv.1
  have hsz : ∀ i (h : i < xs.length), xs[i].size ≤ 9223372036854775807 := fun i h => by
    obtain ⟨a, cap, _, hc⟩ := hv.form
    obtain ⟨b, off, _, _, _, hr⟩ := hc i h
    exact hr.2
  obtain ⟨a, cap, rfl, hc⟩ := hv.form
  clear hv
  have HZ := hide hsz
  clear hsz
  have hmk := make_rows (P := Try.prog) 25 9 (.string ByteArray.empty) #[.string ByteArray.empty] 1 16 Try.underlying25 info_string rfl xs.length (by omega) (by omega)
  have hrow0 : (w.alloc (Obj.cells (madeCells #[Value.string ByteArray.empty] xs.length) 9)).rowIs w.heap.size 9 xs.length (strsRow xs 0) := by
    have := made_row w #[Value.string ByteArray.empty] xs.length 9 (by decide)
    refine this.congr ?_
    intro i _
    simp [strsRow, Nat.mod_one]
  go_enter Try.func24, Try.ntmps24
  go_wp2
  go_loopw [4] (fun i w1 => ∃ k : Nat, k ≤ xs.length ∧ i = .int .i64 k ∧ w1.rowIs w.heap.size 9 xs.length (strsRow xs k) ∧ Below w.heap.size w w1) (fun i _ => xs.length - (intOf i).toNat)
  case atStart => exact ⟨0, Nat.zero_le _, rfl, hrow0, (Below.refl _ _).alloc (Nat.le_refl _) _⟩
  case round =>
    obtain ⟨k, hk, rfl, hrow, hb⟩ := hrel
    by_cases hlt : k < xs.length
    · obtain ⟨b, off, rfl, _, hbl, hr⟩ := hc k hlt
      have h1 : wr.cell? ⟨b, off + k, none⟩ = some (.string xs[k]) := by rw [hb.cell (p := ⟨b, off + k, none⟩) hbl]; simpa using hr.1
      have h2 := hrow.cell hlt
      have h3 := hrow.frozen k
      clear hr hc
      go_wp2
      go_roundw
      case rel => exact ⟨k + 1, by omega, by go_num, (hrow.set k (.string xs[k])).congr fun j _ => strsRow_step xs k hlt j, hb.setCell (by simp) _⟩
      case measure => simp [intOf]; omega
    · obtain rfl : k = xs.length := by omega
      go_wp2
      go_ret
      exact ⟨_, rfl, strs_of_row hl HZ.out hrow, hb⟩
end Go.Proofs.Ytaalkjbkmkjkpaa.Msg
