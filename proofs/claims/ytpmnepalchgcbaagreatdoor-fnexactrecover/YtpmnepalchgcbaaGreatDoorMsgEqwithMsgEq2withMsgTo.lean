import Derived.Test.YtpmnepalchgcbaaGreatDoorMsgDatawithMsgSzwithMsgSz2
import Derived.Deep.QuietTactic
import Derived.BigQuiet
import Derived.Deep.RegionHeld3
import Derived.Deep.OwnRows
import Derived.Deep.Heap
namespace Go.Proofs.YtpmnepalchgcbaaGreatDoor.Msg
open Go.ChangeShapes Go.WideShapes Go.ChangeAt Go.RowKit

theorem below_drewN {B : Nat} {a w : World} (h : Below B a w) (n : Nat) : Below B a (w.drewN n) := by
  induction n with
  | zero => exact h
  | succ n ih => exact ih.drew

set_option maxHeartbeats 400000 in
theorem eqStrs_any (xs : List ByteArray) (v u : Value) (w : World) {lo lo2 : Nat} (hv : StrsAt lo w v xs) (hu : StrsAt lo2 w u xs) :
    Calls Tryz.prog 80 #[v, u] w fun e w' => e = .returned (.bool true) ∧ Below w.heap.size w w' := by
  obtain ⟨hl, hv⟩ := hv
  obtain ⟨_, hu⟩ := hu
  by_cases hx : xs = []
  · subst hx
    obtain ⟨a0, c0, rfl⟩ : ∃ a c, v = .slice a 0 c := by
      rcases hv with ⟨_, _, rfl, _⟩ | ⟨b, off, cap, rfl, _⟩
      · exact ⟨_, _, rfl⟩
      · exact ⟨_, _, rfl⟩
    obtain ⟨a1, c1, rfl⟩ : ∃ a c, u = .slice a 0 c := by
      rcases hu with ⟨_, _, rfl, _⟩ | ⟨b, off, cap, rfl, _⟩
      · exact ⟨_, _, rfl⟩
      · exact ⟨_, _, rfl⟩
    clear hv hu
    go_enter Tryz.func80, Tryz.ntmps80
    go_wp2
    go_loop [5] (fun i => i = .int .i64 0) (fun _ => 0)
    case atStart => rfl
    case round =>
      subst hrel
      go_wp2
      go_ret
      exact ⟨rfl, Below.refl _ _⟩
  · rcases hv with ⟨_, _, _, e⟩ | ⟨b, off, cap, rfl, ⟨_, hlt⟩, hc⟩
    · exact absurd e hx
    rcases hu with ⟨_, _, _, e⟩ | ⟨b2, off2, cap2, rfl, ⟨_, hlt2⟩, hc2⟩
    · exact absurd e hx
    clear hx
    go_enter Tryz.func80, Tryz.ntmps80
    go_wp2
    go_loopw [5] (fun i w1 => ∃ k : Nat, k ≤ xs.length ∧ i = .int .i64 k ∧ Below w.heap.size w w1) (fun i _ => xs.length - (intOf i).toNat)
    case atStart => exact ⟨0, Nat.zero_le _, rfl, Below.refl _ _⟩
    case round =>
      obtain ⟨k, hk, rfl, hb⟩ := hrel
      by_cases hk2 : k < xs.length
      · have h1 : wr.cell? ⟨b, off + k, none⟩ = some (.string xs[k]) := by rw [hb.cell (p := ⟨b, off + k, none⟩) hlt]; simpa using (hc k hk2).1
        have h2 : wr.cell? ⟨b2, off2 + k, none⟩ = some (.string xs[k]) := by rw [hb.cell (p := ⟨b2, off2 + k, none⟩) hlt2]; simpa using (hc2 k hk2).1
        have hi : (k : Int) < (xs.length : Int) := by omega
        clear hc hc2
        go_wp2
        go_quiet (fail)
        go_wp2
        go_roundw
        case rel => exact ⟨k + 1, by omega, by go_num, below_drewN hb _⟩
        case measure => simp [intOf]; omega
      · go_wp2
        go_ret
        exact ⟨rfl, hb⟩
end Go.Proofs.YtpmnepalchgcbaaGreatDoor.Msg

namespace Go.Proofs.YtpmnepalchgcbaaGreatDoor.Msg
open Go.ChangeShapes Go.WideShapes Go.ChangeAt Go.RowKit

theorem bjoin {w W c : World} (h2 : Below W.heap.size W c) (h1 : Below w.heap.size w W) : Below w.heap.size w c := h1.trans (h2.mono h1.size)

theorem hold2 {w w' : World} {b o b2 o2 : Nat} {v u : Value} (h : Below w.heap.size w w') (h1 : b < w.heap.size) (h2 : b2 < w.heap.size) (g1 : w.cell? ⟨b, o, none⟩ = some v) (g2 : w.cell? ⟨b2, o2, none⟩ = some u) :
    w'.cell? ⟨b, o, none⟩ = some v ∧ w'.cell? ⟨b2, o2, none⟩ = some u ∧ Below w.heap.size w w' :=
  ⟨by rw [h.cell (p := ⟨b, o, none⟩) h1]; exact g1, by rw [h.cell (p := ⟨b2, o2, none⟩) h2]; exact g2, h⟩

end Go.Proofs.YtpmnepalchgcbaaGreatDoor.Msg

namespace Go.Proofs.YtpmnepalchgcbaaGreatDoor.Msg
open Go.ChangeShapes Go.WideShapes Go.ChangeAt Go.RowKit
set_option linter.unusedVariables false
set_option linter.unusedSimpArgs false

theorem At.form {α : Type} {n : Nat} {R : Nat → World → Nat → Nat → α → Prop} {lo : Nat} {w : World} {v : Value} {xs : List α} (h : At n R lo w v xs) :
    ∃ a cap, v = .slice a xs.length cap ∧ ∀ k (h : k < xs.length), ∃ b off, a = some ⟨b, off, none⟩ ∧ lo ≤ b ∧ b < w.heap.size ∧ R lo w b (off + k * n) xs[k] := by
  obtain ⟨_, h⟩ := h
  rcases h with ⟨a, cap, rfl, rfl⟩ | ⟨b, off, cap, rfl, hb, h⟩
  · exact ⟨a, cap, rfl, fun k hk => absurd hk (by simp)⟩
  · exact ⟨_, cap, rfl, fun k hk => ⟨b, off, rfl, hb.1, hb.2, h k hk⟩⟩

theorem make_rows {P : Program} (t e : TypeId) (z : Value) (zc : Array Value) (sz bytes : Nat) (ht : P.underlying t = some (.slice e))
    (hinfo : (P.info? e).map (fun i => (i.zero, i.size, i.bytes)) = some (some z, sz, bytes)) (hz : z.cells = zc) (n : Nat) (hb : bytes * n ≤ 281474976710656) (hn : n ≤ 9223372036854775807) (w : World) :
    Sem.run P (Instr.makeSlice t (.int .i64 (n : Int)) (.int .i64 (n : Int))) w = .ok (.slice (some ⟨w.heap.size, 0, none⟩) n n) (w.alloc (.cells (madeCells zc (n * sz)) e)) := by
  cases hi : P.info? e with
  | none => rw [hi] at hinfo; cases hinfo
  | some i =>
    rw [hi] at hinfo
    simp only [Option.map_some, Option.some.injEq, Prod.mk.injEq] at hinfo
    obtain ⟨h1, h2, h3⟩ := hinfo
    rw [run_make w t e i z ht hi h1 .i64 .i64 n n (by omega) (Int.le_refl _) (by rw [h3, ← Int.natCast_mul]; omega) (by omega)]
    rw [hz, h2, Int.toNat_natCast]

/-- what 'make' lays -/
theorem made_row (w : World) (zc : Array Value) (n : Nat) (e : TypeId) (hz : 0 < zc.size) : (w.alloc (.cells (madeCells zc n) e)).rowIs w.heap.size e n (fun j => zc[j % zc.size]!) := by
  have := World.rowIs_alloc w (madeCells zc n) e (fun j => zc[j % zc.size]!) (by intro i hi; rw [size_madeCells] at hi; simp [madeCells, hi])
  rw [size_madeCells] at this
  exact this

def strsRow (xs : List ByteArray) (k : Nat) (j : Nat) : Value := .string ((xs.take k).getD j ByteArray.empty)
theorem strsRow_step (xs : List ByteArray) (k : Nat) (h : k < xs.length) (j : Nat) : (if j = k then Value.string xs[k] else strsRow xs k j) = strsRow xs (k + 1) j := by
  unfold strsRow
  by_cases hj : j = k
  · subst hj
    rw [if_pos rfl]
    simp [List.getD_eq_getElem?_getD, List.getElem?_take, h]
  · rw [if_neg hj]
    by_cases hl : j < k
    · simp [List.getD_eq_getElem?_getD, List.getElem?_take, hl, Nat.lt_succ_of_lt hl]
    · have h2 : ¬ j < k + 1 := by omega
      simp [List.getD_eq_getElem?_getD, List.getElem?_take, hl, h2]
theorem strsRow_at (xs : List ByteArray) (j : Nat) (h : j < xs.length) : strsRow xs xs.length j = .string xs[j] := by
  unfold strsRow
  simp [List.getD_eq_getElem?_getD, h]

theorem strs_of_row {w : World} {B : Nat} {t : TypeId} {xs : List ByteArray} {cap : Nat} (hl : xs.length ≤ 9223372036854775807) (hs : ∀ i (h : i < xs.length), xs[i].size ≤ 9223372036854775807)
    (h : w.rowIs B t xs.length (strsRow xs xs.length)) : StrsAt B w (.slice (some ⟨B, 0, none⟩) xs.length cap) xs :=
  ⟨hl, .inr ⟨B, 0, cap, rfl, ⟨Nat.le_refl _, h.lt⟩, fun i hi => ⟨by have := h.cell hi; rw [strsRow_at xs i hi] at this; simpa using this, hs i hi⟩⟩⟩

theorem info_string : (Tryz.prog.info? 9).map (fun i => (i.zero, i.size, i.bytes)) = some (some (.string ByteArray.empty), 1, 16) := by kernel_rfl

end Go.Proofs.YtpmnepalchgcbaaGreatDoor.Msg
