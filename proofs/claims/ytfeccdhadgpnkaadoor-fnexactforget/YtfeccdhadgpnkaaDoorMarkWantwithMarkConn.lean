import Derived.Test.YtfeccdhadgpnkaaDoorMarkDatawithFlatKit
import Derived.Test.YtfeccdhadgpnkaaDoorMsgTowithMarkStr
import Derived.Deep.RegionHeld3
import Derived.Test.YtfeccdhadgpnkaaDoorMsgEqwithMsgEq2
namespace Go.Proofs.YtfeccdhadgpnkaaDoor.Msg
open Go.ChangeShapes Go.WideShapes Go.ChangeAt Go.RowKit
set_option linter.unusedVariables false
set_option linter.unusedSimpArgs false

theorem markText_int (x : Int) (k0 : Nat) (hx : x = (k0 : Int)) (w : World) (h0 : 1 ≤ k0) (h1 : k0 ≤ 4611686018427387904) :
    Calls Tryd.prog 49 #[.int .i64 x] w fun e w' => e = .returned (.string (markT k0)) ∧ Below w.heap.size w w' := by
  subst hx
  exact markText_any k0 w h0 h1
/-- a run of cells that may be written -/
def Cells (w : World) (b off m : Nat) (g : Nat → Value) : Prop := ∀ i, i < m → w.cell? ⟨b, off + i, none⟩ = some (g i) ∧ w.frozen? ⟨b, off + i, none⟩ = false
theorem Cells.get {w : World} {b off m : Nat} {g : Nat → Value} (h : Cells w b off m g) (p q : Nat) (hi : p + q < m) : w.cell? ⟨b, off + p + q, none⟩ = some (g (p + q)) ∧ w.frozen? ⟨b, off + p + q, none⟩ = false := by
  rw [Nat.add_assoc]
  exact h _ hi
theorem Cells.set {w : World} {b off m : Nat} {g : Nat → Value} (h : Cells w b off m g) {p q : Nat} (hi : p + q < m) (v : Value) : Cells (w.setCell ⟨b, off + p + q, none⟩ v) b off m (fun x => if x = p + q then v else g x) := by
  intro i him
  obtain ⟨h1, h2⟩ := h i him
  refine ⟨?_, by rw [World.frozen?_setCell]; exact h2⟩
  by_cases e : i = p + q
  · subst e
    simp only [if_true]
    rw [← Nat.add_assoc] at h1 ⊢
    rw [World.cell?_setCell_same _ _ _ h1]
  · simp only [if_neg e]
    rw [World.cell?_setCell_other _ _ _ _ (by intro h; injection h with _ h2 _; omega), h1]
theorem Cells.set0 {w : World} {b off m : Nat} {g : Nat → Value} (h : Cells w b off m g) {p : Nat} (hi : p < m) (v : Value) : Cells (w.setCell ⟨b, off + p, none⟩ v) b off m (fun x => if x = p then v else g x) :=
  h.set (p := p) (q := 0) hi v
theorem Cells.below {w w' : World} {b off m : Nat} {g : Nat → Value} (h : Cells w b off m g) (hb : Below w.heap.size w w') (hlt : b < w.heap.size) : Cells w' b off m g := fun i hi =>
  ⟨by rw [hb.cell (p := ⟨b, off + i, none⟩) hlt]; exact (h i hi).1, by rw [hb.frozen (p := ⟨b, off + i, none⟩) hlt]; exact (h i hi).2⟩
theorem Cells.congr {w : World} {b off m : Nat} {g f : Nat → Value} (h : Cells w b off m g) (hg : ∀ i, i < m → g i = f i) : Cells w b off m f := fun i hi => ⟨by rw [← hg i hi]; exact (h i hi).1, (h i hi).2⟩
theorem bool_same {a b : Bool} (h : a = b) : Value.bool a = .bool b := by rw [h]
theorem int_same {a b : Int} (h : a = b) : Value.int .i64 a = .int .i64 b := by rw [h]

def mvWant (k i : Nat) : Value :=
  if i % 4 = 0 then .int .i64 ((k + i : Nat) : Int) else if i % 4 = 1 then .string (markT (k + i)) else if i % 4 = 2 then .string (markT (k + i)) else .string (markT (k + i))
theorem mvWant_0 (k j : Nat) : mvWant k (j * 4 + 0) = .int .i64 ((k + (j * 4 + 0) : Nat) : Int) := by
  unfold mvWant
  rw [if_pos (by omega)]
theorem mvWant_1 (k j : Nat) : mvWant k (j * 4 + 1) = .string (markT (k + (j * 4 + 1))) := by
  unfold mvWant
  rw [if_neg (by omega), if_pos (by omega)]
theorem mvWant_2 (k j : Nat) : mvWant k (j * 4 + 2) = .string (markT (k + (j * 4 + 2))) := by
  unfold mvWant
  rw [if_neg (by omega), if_neg (by omega), if_pos (by omega)]
theorem mvWant_3 (k j : Nat) : mvWant k (j * 4 + 3) = .string (markT (k + (j * 4 + 3))) := by
  unfold mvWant
  rw [if_neg (by omega), if_neg (by omega), if_neg (by omega)]
set_option maxHeartbeats 4000000 in
theorem markWants_any (n : Nat) (v : Value) (f : Nat → Value) (bs : List Nat) (k : Nat) (w : World) (hk : 1 ≤ k) (hkb : k + n * 4 ≤ 4611686018427387904) (hv : RowC w v n 4 f bs) :
    Calls Tryd.prog 25 #[v, .int .i64 (k : Int)] w fun e w' => e = .returned (.int .i64 ((k + n * 4 : Nat) : Int)) ∧ Only bs w w' ∧ RowC w' v n 4 (mvWant k) bs := by
  obtain ⟨hl, hv⟩ := hv
  rcases hv with ⟨a0, c0, rfl, rfl, rfl⟩ | ⟨b, off, cap, rfl, hlt, rfl, hc⟩
  · go_enter Tryd.func25, Tryd.ntmps25
    go_wp2
    go_loop [1, 5] (fun r i => r = .int .i64 (k : Int) ∧ i = .int .i64 0) (fun _ _ => 0)
    case atStart => exact ⟨rfl, rfl⟩
    case round =>
      obtain ⟨rfl, rfl⟩ := hrel
      go_wp2
      go_ret
      exact ⟨ret_int (by simp), Only.refl _ _, ⟨by omega, .inl ⟨_, _, rfl, rfl, rfl⟩⟩⟩
  · have hc0 : Cells w b off (n * 4) (fun i => if i < 0 * 4 then mvWant k i else f i) := fun i hi => ⟨by dsimp only; rw [if_neg (by omega)]; exact (hc i hi).1, (hc i hi).2⟩
    have HC0 := hide hc0
    clear hc hc0
    go_enter Tryd.func25, Tryd.ntmps25
    go_wp2
    go_loopw [1, 5] (fun r i w1 => ∃ j q : Nat, j ≤ n ∧ q = k + j * 4 ∧ i = .int .i64 j ∧ r = .int .i64 (q : Int) ∧ Cells w1 b off (n * 4) (fun i => if i < j * 4 then mvWant k i else f i) ∧ Only [b] w w1) (fun _ i _ => n - (intOf i).toNat)
    case atStart => exact ⟨0, k, Nat.zero_le _, by omega, rfl, rfl, HC0.out, Only.refl _ _⟩
    case round =>
      obtain ⟨j, q, hj, hq, rfl, rfl, hrow, ho⟩ := hrel
      by_cases hj2 : j < n
      · have hbl : b < wr.heap.size := Nat.lt_of_lt_of_le hlt ho.size
        have hq9 : q + 4 ≤ 4611686018427387904 := by omega
        have hq1 : 1 ≤ q := by omega
        have ac0 := (hrow.get (j * 4) 0 (by omega)).1
        have af0 := (hrow.get (j * 4) 0 (by omega)).2
        rw [Nat.add_zero] at ac0 af0
        have HROW0 := hide hrow
        have HO0 := hide ho
        clear hrow ho
        go_wp2_with fail
        refine (markText_int _ (q + 1) (by omega) _ (by omega) (by omega)).mono ?_
        rintro e w2 ⟨rfl, hb2⟩
        have HROW1 := hide ((HROW0.out.set0 (p := j * 4) (by omega) _).below hb2 (by simp <;> exact hbl))
        have HO1 := hide ((HO0.out.setCell (by simp) _).trans (Only.of_below hb2))
        have hbl1 : b < w2.heap.size := Nat.lt_of_lt_of_le hlt HO1.out.size
        have b0c1 := (HROW1.out.get (j * 4) 1 (by omega)).1
        have b0f1 := (HROW1.out.get (j * 4) 1 (by omega)).2
        clear hb2
        go_wp2_with fail
        refine (markText_int _ (q + 2) (by omega) _ (by omega) (by omega)).mono ?_
        rintro e w3 ⟨rfl, hb3⟩
        have HROW2 := hide ((HROW1.out.set (p := j * 4) (q := 1) (by omega) _).below hb3 (by simp <;> exact hbl1))
        have HO2 := hide ((HO1.out.setCell (by simp) _).trans (Only.of_below hb3))
        have hbl2 : b < w3.heap.size := Nat.lt_of_lt_of_le hlt HO2.out.size
        have b1c2 := (HROW2.out.get (j * 4) 2 (by omega)).1
        have b1f2 := (HROW2.out.get (j * 4) 2 (by omega)).2
        clear hb3
        go_wp2_with fail
        refine (markText_int _ (q + 3) (by omega) _ (by omega) (by omega)).mono ?_
        rintro e w4 ⟨rfl, hb4⟩
        have HROW3 := hide ((HROW2.out.set (p := j * 4) (q := 2) (by omega) _).below hb4 (by simp <;> exact hbl2))
        have HO3 := hide ((HO2.out.setCell (by simp) _).trans (Only.of_below hb4))
        have hbl3 : b < w4.heap.size := Nat.lt_of_lt_of_le hlt HO3.out.size
        have b2c3 := (HROW3.out.get (j * 4) 3 (by omega)).1
        have b2f3 := (HROW3.out.get (j * 4) 3 (by omega)).2
        clear hb4
        go_wp2_with fail
        go_roundw
        case rel =>
          refine ⟨j + 1, q + 4, by omega, by omega, by go_num, by go_num, (HROW3.out.set (p := j * 4) (q := 3) (by omega) _).congr fun i hi => ?_, (HO3.out.setCell (by simp) _)⟩
          try dsimp only
          by_cases e3 : i = j * 4 + 3
          · subst e3
            rw [if_pos (show j * 4 + 3 < (j + 1) * 4 by omega), mvWant_3]
            repeat rw [if_neg (by omega)]
            rw [if_pos (by omega)]
            first | rw [hq, Nat.add_assoc] | rw [Nat.add_assoc]
          by_cases e2 : i = j * 4 + 2
          · subst e2
            rw [if_pos (show j * 4 + 2 < (j + 1) * 4 by omega), mvWant_2]
            repeat rw [if_neg (by omega)]
            rw [if_pos (by omega)]
            first | rw [hq, Nat.add_assoc] | rw [Nat.add_assoc]
          by_cases e1 : i = j * 4 + 1
          · subst e1
            rw [if_pos (show j * 4 + 1 < (j + 1) * 4 by omega), mvWant_1]
            repeat rw [if_neg (by omega)]
            rw [if_pos (by omega)]
            first | rw [hq, Nat.add_assoc] | rw [Nat.add_assoc]
          by_cases e0 : i = j * 4 + 0
          · subst e0
            rw [if_pos (show j * 4 + 0 < (j + 1) * 4 by omega), mvWant_0]
            repeat rw [if_neg (by omega)]
            rw [if_pos (by omega)]
            exact int_same (by omega)
          repeat rw [if_neg (by omega)]
          by_cases e9 : i < j * 4
          · rw [if_pos e9, if_pos (by omega)]
          · rw [if_neg e9, if_neg (by omega)]
        case measure => simp [intOf]; omega
      · obtain rfl : j = n := by omega
        go_wp2_with fail
        go_ret
        exact ⟨ret_int (by omega), ho, ⟨hl, .inr ⟨b, off, cap, rfl, Nat.lt_of_lt_of_le hlt ho.size, rfl, fun i hi => by have := hrow i hi; simp only [if_pos hi] at this; exact this⟩⟩⟩
set_option maxRecDepth 100000 in
set_option maxHeartbeats 4000000 in
theorem heldWants_any (n : Nat) (v : Value) (bs : List Nat) (k : Nat) (w : World) (hk : 1 ≤ k) (hkb : k + n * 4 ≤ 4611686018427387904) (hv : RowC w v n 4 (mvWant k) bs) :
    Calls Tryd.prog 26 #[v, .int .i64 (k : Int)] w fun e w' => e = .returned (.int .i64 ((k + n * 4 : Nat) : Int)) ∧ Below w.heap.size w w' := by
  obtain ⟨hl, hv⟩ := hv
  rcases hv with ⟨a0, c0, rfl, rfl, rfl⟩ | ⟨b, off, cap, rfl, hlt, rfl, hc⟩
  · go_enter Tryd.func26, Tryd.ntmps26
    go_wp2
    go_loop [1, 5] (fun r i => r = .int .i64 (k : Int) ∧ i = .int .i64 0) (fun _ _ => 0)
    case atStart => exact ⟨rfl, rfl⟩
    case round =>
      obtain ⟨rfl, rfl⟩ := hrel
      go_wp2
      go_ret
      exact ⟨ret_int (by simp), Below.refl _ _⟩
  · have HC : Hid (∀ (W : World), Below w.heap.size w W → ∀ p q, p + q < n * 4 → W.cell? ⟨b, off + p + q, none⟩ = some (mvWant k (p + q))) := fun W hW p q h => by
      rw [hW.cell (p := ⟨b, off + p + q, none⟩) hlt, Nat.add_assoc]
      exact (hc _ h).1
    clear hc
    go_enter Tryd.func26, Tryd.ntmps26
    go_wp2
    go_loopw [1, 5] (fun r i w1 => ∃ j q : Nat, j ≤ n ∧ q = k + j * 4 ∧ i = .int .i64 j ∧ r = .int .i64 (q : Int) ∧ Below w.heap.size w w1) (fun _ i _ => n - (intOf i).toNat)
    case atStart => exact ⟨0, k, Nat.zero_le _, by omega, rfl, rfl, Below.refl _ _⟩
    case round =>
      obtain ⟨j, q, hj, hq, rfl, rfl, hb⟩ := hrel
      by_cases hj2 : j < n
      · have hq9 : q + 4 ≤ 4611686018427387904 := by omega
        have hq1 : 1 ≤ q := by omega
        have HQ := hide hq
        clear hq
        have HF0 : Hid (∀ W : World, Below w.heap.size w W → W.cell? ⟨b, off + j * 4 + 1, none⟩ = some (.string (markT (q + 1))) ∧ Below w.heap.size w W) := fun W hW => by
          have h := HC.out W hW (j * 4) 1 (by omega)
          rw [mvWant_1, ← Nat.add_assoc, ← HQ.out] at h
          exact ⟨by first | exact h | simpa using h, hW⟩
        have c00 : wr.cell? ⟨b, off + j * 4, none⟩ = some (.int .i64 ((q : Int))) := by
          have h := HC.out wr hb (j * 4) 0 (by omega)
          rw [mvWant_0, ← Nat.add_assoc, ← HQ.out] at h
          first | exact h | simpa using h
        have hd0 := hb.drew
        go_wp2
        go_region_held3 (fun w' => w'.cell? ⟨b, off + j * 4 + 1, none⟩ = some (.string (markT (q + 1))) ∧ Below w.heap.size w w')
          (first | exact HF0.out _ hd0 | exact HF0.out _ hx0)
          ((go_at_call 49; refine (markText_int _ (q + 1) (by omega) _ (by omega) (by omega)).mono ?_; rintro e w2 ⟨rfl, hb2⟩; have hx0 : Below w.heap.size w w2 := bjoin hb2 (by assumption)))
        clear hd0
        have HF1 : Hid (∀ W : World, Below w.heap.size w W → W.cell? ⟨b, off + j * 4 + 2, none⟩ = some (.string (markT (q + 2))) ∧ Below w.heap.size w W) := fun W hW => by
          have h := HC.out W hW (j * 4) 2 (by omega)
          rw [mvWant_2, ← Nat.add_assoc, ← HQ.out] at h
          exact ⟨by first | exact h | simpa using h, hW⟩
        have hd1 := hx0.drew
        go_wp2
        go_region_held3 (fun w' => w'.cell? ⟨b, off + j * 4 + 2, none⟩ = some (.string (markT (q + 2))) ∧ Below w.heap.size w w')
          (first | exact HF1.out _ hd1 | exact HF1.out _ hx1)
          ((go_at_call 49; refine (markText_int _ (q + 2) (by omega) _ (by omega) (by omega)).mono ?_; rintro e w3 ⟨rfl, hb2⟩; have hx1 : Below w.heap.size w w3 := bjoin hb2 (by assumption)))
        clear hd1
        have HF2 : Hid (∀ W : World, Below w.heap.size w W → W.cell? ⟨b, off + j * 4 + 3, none⟩ = some (.string (markT (q + 3))) ∧ Below w.heap.size w W) := fun W hW => by
          have h := HC.out W hW (j * 4) 3 (by omega)
          rw [mvWant_3, ← Nat.add_assoc, ← HQ.out] at h
          exact ⟨by first | exact h | simpa using h, hW⟩
        have hd2 := hx1.drew
        go_wp2
        go_region_held3 (fun w' => w'.cell? ⟨b, off + j * 4 + 3, none⟩ = some (.string (markT (q + 3))) ∧ Below w.heap.size w w')
          (first | exact HF2.out _ hd2 | exact HF2.out _ hx2)
          ((go_at_call 49; refine (markText_int _ (q + 3) (by omega) _ (by omega) (by omega)).mono ?_; rintro e w4 ⟨rfl, hb2⟩; have hx2 : Below w.heap.size w w4 := bjoin hb2 (by assumption)))
        clear hd2
        go_wp2_with fail
        go_roundw
        case rel => exact ⟨j + 1, q + 4, by omega, by have := HQ.out; omega, by go_num, by go_num, hx2⟩
        case measure => simp [intOf]; omega
      · obtain rfl : j = n := by omega
        go_wp2_with fail
        go_ret
        exact ⟨ret_int (by omega), hb⟩
end Go.Proofs.YtfeccdhadgpnkaaDoor.Msg

namespace Go.Proofs.YtfeccdhadgpnkaaDoor.Msg
open Go.ChangeShapes Go.WideShapes Go.ChangeAt Go.RowKit
set_option linter.unusedVariables false
set_option linter.unusedSimpArgs false


def mvConn (k i : Nat) : Value :=
  if i % 7 = 0 then .bool (decide (((k + i : Nat) : Int) % 3 = 0)) else if i % 7 = 1 then .string (markT (k + i)) else if i % 7 = 2 then .int .i64 ((k + i : Nat) : Int) else if i % 7 = 3 then .string (markT (k + i)) else if i % 7 = 4 then .string (markT (k + i)) else if i % 7 = 5 then .string (markT (k + i)) else .int .i64 ((k + i : Nat) : Int)
theorem mvConn_0 (k j : Nat) : mvConn k (j * 7 + 0) = .bool (decide (((k + (j * 7 + 0) : Nat) : Int) % 3 = 0)) := by
  unfold mvConn
  rw [if_pos (by omega)]
theorem mvConn_1 (k j : Nat) : mvConn k (j * 7 + 1) = .string (markT (k + (j * 7 + 1))) := by
  unfold mvConn
  rw [if_neg (by omega), if_pos (by omega)]
theorem mvConn_2 (k j : Nat) : mvConn k (j * 7 + 2) = .int .i64 ((k + (j * 7 + 2) : Nat) : Int) := by
  unfold mvConn
  rw [if_neg (by omega), if_neg (by omega), if_pos (by omega)]
theorem mvConn_3 (k j : Nat) : mvConn k (j * 7 + 3) = .string (markT (k + (j * 7 + 3))) := by
  unfold mvConn
  rw [if_neg (by omega), if_neg (by omega), if_neg (by omega), if_pos (by omega)]
theorem mvConn_4 (k j : Nat) : mvConn k (j * 7 + 4) = .string (markT (k + (j * 7 + 4))) := by
  unfold mvConn
  rw [if_neg (by omega), if_neg (by omega), if_neg (by omega), if_neg (by omega), if_pos (by omega)]
theorem mvConn_5 (k j : Nat) : mvConn k (j * 7 + 5) = .string (markT (k + (j * 7 + 5))) := by
  unfold mvConn
  rw [if_neg (by omega), if_neg (by omega), if_neg (by omega), if_neg (by omega), if_neg (by omega), if_pos (by omega)]
theorem mvConn_6 (k j : Nat) : mvConn k (j * 7 + 6) = .int .i64 ((k + (j * 7 + 6) : Nat) : Int) := by
  unfold mvConn
  rw [if_neg (by omega), if_neg (by omega), if_neg (by omega), if_neg (by omega), if_neg (by omega), if_neg (by omega)]
set_option maxHeartbeats 4000000 in
theorem markConns_any (n : Nat) (v : Value) (f : Nat → Value) (bs : List Nat) (k : Nat) (w : World) (hk : 1 ≤ k) (hkb : k + n * 7 ≤ 4611686018427387904) (hv : RowC w v n 7 f bs) :
    Calls Tryd.prog 48 #[v, .int .i64 (k : Int)] w fun e w' => e = .returned (.int .i64 ((k + n * 7 : Nat) : Int)) ∧ Only bs w w' ∧ RowC w' v n 7 (mvConn k) bs := by
  obtain ⟨hl, hv⟩ := hv
  rcases hv with ⟨a0, c0, rfl, rfl, rfl⟩ | ⟨b, off, cap, rfl, hlt, rfl, hc⟩
  · go_enter Tryd.func48, Tryd.ntmps48
    go_wp2
    go_loop [1, 5] (fun r i => r = .int .i64 (k : Int) ∧ i = .int .i64 0) (fun _ _ => 0)
    case atStart => exact ⟨rfl, rfl⟩
    case round =>
      obtain ⟨rfl, rfl⟩ := hrel
      go_wp2
      go_ret
      exact ⟨ret_int (by simp), Only.refl _ _, ⟨by omega, .inl ⟨_, _, rfl, rfl, rfl⟩⟩⟩
  · have hc0 : Cells w b off (n * 7) (fun i => if i < 0 * 7 then mvConn k i else f i) := fun i hi => ⟨by dsimp only; rw [if_neg (by omega)]; exact (hc i hi).1, (hc i hi).2⟩
    have HC0 := hide hc0
    clear hc hc0
    go_enter Tryd.func48, Tryd.ntmps48
    go_wp2
    go_loopw [1, 5] (fun r i w1 => ∃ j q : Nat, j ≤ n ∧ q = k + j * 7 ∧ i = .int .i64 j ∧ r = .int .i64 (q : Int) ∧ Cells w1 b off (n * 7) (fun i => if i < j * 7 then mvConn k i else f i) ∧ Only [b] w w1) (fun _ i _ => n - (intOf i).toNat)
    case atStart => exact ⟨0, k, Nat.zero_le _, by omega, rfl, rfl, HC0.out, Only.refl _ _⟩
    case round =>
      obtain ⟨j, q, hj, hq, rfl, rfl, hrow, ho⟩ := hrel
      by_cases hj2 : j < n
      · have hbl : b < wr.heap.size := Nat.lt_of_lt_of_le hlt ho.size
        have hq9 : q + 7 ≤ 4611686018427387904 := by omega
        have hq1 : 1 ≤ q := by omega
        have ac0 := (hrow.get (j * 7) 0 (by omega)).1
        have af0 := (hrow.get (j * 7) 0 (by omega)).2
        rw [Nat.add_zero] at ac0 af0
        have HROW0 := hide hrow
        have HO0 := hide ho
        clear hrow ho
        go_wp2_with fail
        refine (markText_int _ (q + 1) (by omega) _ (by omega) (by omega)).mono ?_
        rintro e w2 ⟨rfl, hb2⟩
        have HROW1 := hide ((HROW0.out.set0 (p := j * 7) (by omega) _).below hb2 (by simp <;> exact hbl))
        have HO1 := hide ((HO0.out.setCell (by simp) _).trans (Only.of_below hb2))
        have hbl1 : b < w2.heap.size := Nat.lt_of_lt_of_le hlt HO1.out.size
        have b0c1 := (HROW1.out.get (j * 7) 1 (by omega)).1
        have b0f1 := (HROW1.out.get (j * 7) 1 (by omega)).2
        have b0c2 := (HROW1.out.get (j * 7) 2 (by omega)).1
        have b0f2 := (HROW1.out.get (j * 7) 2 (by omega)).2
        clear hb2
        go_wp2_with fail
        refine (markText_int _ (q + 3) (by omega) _ (by omega) (by omega)).mono ?_
        rintro e w3 ⟨rfl, hb3⟩
        have HROW2 := hide (((HROW1.out.set (p := j * 7) (q := 1) (by omega) _).set (p := j * 7) (q := 2) (by omega) _).below hb3 (by simp <;> exact hbl1))
        have HO2 := hide (((HO1.out.setCell (by simp) _).setCell (by simp) _).trans (Only.of_below hb3))
        have hbl2 : b < w3.heap.size := Nat.lt_of_lt_of_le hlt HO2.out.size
        have b1c3 := (HROW2.out.get (j * 7) 3 (by omega)).1
        have b1f3 := (HROW2.out.get (j * 7) 3 (by omega)).2
        clear hb3
        go_wp2_with fail
        refine (markText_int _ (q + 4) (by omega) _ (by omega) (by omega)).mono ?_
        rintro e w4 ⟨rfl, hb4⟩
        have HROW3 := hide ((HROW2.out.set (p := j * 7) (q := 3) (by omega) _).below hb4 (by simp <;> exact hbl2))
        have HO3 := hide ((HO2.out.setCell (by simp) _).trans (Only.of_below hb4))
        have hbl3 : b < w4.heap.size := Nat.lt_of_lt_of_le hlt HO3.out.size
        have b2c4 := (HROW3.out.get (j * 7) 4 (by omega)).1
        have b2f4 := (HROW3.out.get (j * 7) 4 (by omega)).2
        clear hb4
        go_wp2_with fail
        refine (markText_int _ (q + 5) (by omega) _ (by omega) (by omega)).mono ?_
        rintro e w5 ⟨rfl, hb5⟩
        have HROW4 := hide ((HROW3.out.set (p := j * 7) (q := 4) (by omega) _).below hb5 (by simp <;> exact hbl3))
        have HO4 := hide ((HO3.out.setCell (by simp) _).trans (Only.of_below hb5))
        have hbl4 : b < w5.heap.size := Nat.lt_of_lt_of_le hlt HO4.out.size
        have b3c5 := (HROW4.out.get (j * 7) 5 (by omega)).1
        have b3f5 := (HROW4.out.get (j * 7) 5 (by omega)).2
        have b3c6 := (HROW4.out.get (j * 7) 6 (by omega)).1
        have b3f6 := (HROW4.out.get (j * 7) 6 (by omega)).2
        clear hb5
        go_wp2_with fail
        go_roundw
        case rel =>
          refine ⟨j + 1, q + 7, by omega, by omega, by go_num, by go_num, ((HROW4.out.set (p := j * 7) (q := 5) (by omega) _).set (p := j * 7) (q := 6) (by omega) _).congr fun i hi => ?_, ((HO4.out.setCell (by simp) _).setCell (by simp) _)⟩
          try dsimp only
          by_cases e6 : i = j * 7 + 6
          · subst e6
            rw [if_pos (show j * 7 + 6 < (j + 1) * 7 by omega), mvConn_6]
            repeat rw [if_neg (by omega)]
            rw [if_pos (by omega)]
            exact int_same (by omega)
          by_cases e5 : i = j * 7 + 5
          · subst e5
            rw [if_pos (show j * 7 + 5 < (j + 1) * 7 by omega), mvConn_5]
            repeat rw [if_neg (by omega)]
            rw [if_pos (by omega)]
            first | rw [hq, Nat.add_assoc] | rw [Nat.add_assoc]
          by_cases e4 : i = j * 7 + 4
          · subst e4
            rw [if_pos (show j * 7 + 4 < (j + 1) * 7 by omega), mvConn_4]
            repeat rw [if_neg (by omega)]
            rw [if_pos (by omega)]
            first | rw [hq, Nat.add_assoc] | rw [Nat.add_assoc]
          by_cases e3 : i = j * 7 + 3
          · subst e3
            rw [if_pos (show j * 7 + 3 < (j + 1) * 7 by omega), mvConn_3]
            repeat rw [if_neg (by omega)]
            rw [if_pos (by omega)]
            first | rw [hq, Nat.add_assoc] | rw [Nat.add_assoc]
          by_cases e2 : i = j * 7 + 2
          · subst e2
            rw [if_pos (show j * 7 + 2 < (j + 1) * 7 by omega), mvConn_2]
            repeat rw [if_neg (by omega)]
            rw [if_pos (by omega)]
            exact int_same (by omega)
          by_cases e1 : i = j * 7 + 1
          · subst e1
            rw [if_pos (show j * 7 + 1 < (j + 1) * 7 by omega), mvConn_1]
            repeat rw [if_neg (by omega)]
            rw [if_pos (by omega)]
            first | rw [hq, Nat.add_assoc] | rw [Nat.add_assoc]
          by_cases e0 : i = j * 7 + 0
          · subst e0
            rw [if_pos (show j * 7 + 0 < (j + 1) * 7 by omega), mvConn_0]
            repeat rw [if_neg (by omega)]
            rw [if_pos (by omega)]
            exact bool_same (by first | rfl | (rw [hq]; rfl) | (subst hq; simp))
          repeat rw [if_neg (by omega)]
          by_cases e9 : i < j * 7
          · rw [if_pos e9, if_pos (by omega)]
          · rw [if_neg e9, if_neg (by omega)]
        case measure => simp [intOf]; omega
      · obtain rfl : j = n := by omega
        go_wp2_with fail
        go_ret
        exact ⟨ret_int (by omega), ho, ⟨hl, .inr ⟨b, off, cap, rfl, Nat.lt_of_lt_of_le hlt ho.size, rfl, fun i hi => by have := hrow i hi; simp only [if_pos hi] at this; exact this⟩⟩⟩
set_option maxRecDepth 100000 in
set_option maxHeartbeats 4000000 in
theorem heldConns_any (n : Nat) (v : Value) (bs : List Nat) (k : Nat) (w : World) (hk : 1 ≤ k) (hkb : k + n * 7 ≤ 4611686018427387904) (hv : RowC w v n 7 (mvConn k) bs) :
    Calls Tryd.prog 50 #[v, .int .i64 (k : Int)] w fun e w' => e = .returned (.int .i64 ((k + n * 7 : Nat) : Int)) ∧ Below w.heap.size w w' := by
  obtain ⟨hl, hv⟩ := hv
  rcases hv with ⟨a0, c0, rfl, rfl, rfl⟩ | ⟨b, off, cap, rfl, hlt, rfl, hc⟩
  · go_enter Tryd.func50, Tryd.ntmps50
    go_wp2
    go_loop [1, 5] (fun r i => r = .int .i64 (k : Int) ∧ i = .int .i64 0) (fun _ _ => 0)
    case atStart => exact ⟨rfl, rfl⟩
    case round =>
      obtain ⟨rfl, rfl⟩ := hrel
      go_wp2
      go_ret
      exact ⟨ret_int (by simp), Below.refl _ _⟩
  · have HC : Hid (∀ (W : World), Below w.heap.size w W → ∀ p q, p + q < n * 7 → W.cell? ⟨b, off + p + q, none⟩ = some (mvConn k (p + q))) := fun W hW p q h => by
      rw [hW.cell (p := ⟨b, off + p + q, none⟩) hlt, Nat.add_assoc]
      exact (hc _ h).1
    clear hc
    go_enter Tryd.func50, Tryd.ntmps50
    go_wp2
    go_loopw [1, 5] (fun r i w1 => ∃ j q : Nat, j ≤ n ∧ q = k + j * 7 ∧ i = .int .i64 j ∧ r = .int .i64 (q : Int) ∧ Below w.heap.size w w1) (fun _ i _ => n - (intOf i).toNat)
    case atStart => exact ⟨0, k, Nat.zero_le _, by omega, rfl, rfl, Below.refl _ _⟩
    case round =>
      obtain ⟨j, q, hj, hq, rfl, rfl, hb⟩ := hrel
      by_cases hj2 : j < n
      · have hq9 : q + 7 ≤ 4611686018427387904 := by omega
        have hq1 : 1 ≤ q := by omega
        have HQ := hide hq
        clear hq
        by_cases h3 : (q : Int) % 3 = 0
        · have HF0 : Hid (∀ W : World, Below w.heap.size w W → W.cell? ⟨b, off + j * 7 + 1, none⟩ = some (.string (markT (q + 1))) ∧ Below w.heap.size w W) := fun W hW => by
            have h := HC.out W hW (j * 7) 1 (by omega)
            rw [mvConn_1, ← Nat.add_assoc, ← HQ.out] at h
            exact ⟨by first | exact h | simpa using h, hW⟩
          have c00 : wr.cell? ⟨b, off + j * 7, none⟩ = some (.bool true) := by
            have h := HC.out wr hb (j * 7) 0 (by omega)
            rw [mvConn_0, ← Nat.add_assoc, ← HQ.out] at h
            first | exact h | simpa using h | simpa [h3] using h
          have hd0 := hb.drew
          go_wp2
          go_region_held3 (fun w' => w'.cell? ⟨b, off + j * 7 + 1, none⟩ = some (.string (markT (q + 1))) ∧ Below w.heap.size w w')
            (first | exact HF0.out _ hd0 | exact HF0.out _ hx0)
            ((go_at_call 49; refine (markText_int _ (q + 1) (by omega) _ (by omega) (by omega)).mono ?_; rintro e w2 ⟨rfl, hb2⟩; have hx0 : Below w.heap.size w w2 := bjoin hb2 (by assumption)))
          clear hd0
          have HF1 : Hid (∀ W : World, Below w.heap.size w W → W.cell? ⟨b, off + j * 7 + 3, none⟩ = some (.string (markT (q + 3))) ∧ Below w.heap.size w W) := fun W hW => by
            have h := HC.out W hW (j * 7) 3 (by omega)
            rw [mvConn_3, ← Nat.add_assoc, ← HQ.out] at h
            exact ⟨by first | exact h | simpa using h, hW⟩
          have c12 : w2.cell? ⟨b, off + j * 7 + 2, none⟩ = some (.int .i64 ((q : Int) + 2)) := by
            have h := HC.out w2 hx0 (j * 7) 2 (by omega)
            rw [mvConn_2, ← Nat.add_assoc, ← HQ.out] at h
            first | exact h | simpa using h | simpa [h3] using h
          have hd1 := hx0.drew
          go_wp2
          go_region_held3 (fun w' => w'.cell? ⟨b, off + j * 7 + 3, none⟩ = some (.string (markT (q + 3))) ∧ Below w.heap.size w w')
            (first | exact HF1.out _ hd1 | exact HF1.out _ hx1)
            ((go_at_call 49; refine (markText_int _ (q + 3) (by omega) _ (by omega) (by omega)).mono ?_; rintro e w3 ⟨rfl, hb2⟩; have hx1 : Below w.heap.size w w3 := bjoin hb2 (by assumption)))
          clear hd1
          have HF2 : Hid (∀ W : World, Below w.heap.size w W → W.cell? ⟨b, off + j * 7 + 4, none⟩ = some (.string (markT (q + 4))) ∧ Below w.heap.size w W) := fun W hW => by
            have h := HC.out W hW (j * 7) 4 (by omega)
            rw [mvConn_4, ← Nat.add_assoc, ← HQ.out] at h
            exact ⟨by first | exact h | simpa using h, hW⟩
          have hd2 := hx1.drew
          go_wp2
          go_region_held3 (fun w' => w'.cell? ⟨b, off + j * 7 + 4, none⟩ = some (.string (markT (q + 4))) ∧ Below w.heap.size w w')
            (first | exact HF2.out _ hd2 | exact HF2.out _ hx2)
            ((go_at_call 49; refine (markText_int _ (q + 4) (by omega) _ (by omega) (by omega)).mono ?_; rintro e w4 ⟨rfl, hb2⟩; have hx2 : Below w.heap.size w w4 := bjoin hb2 (by assumption)))
          clear hd2
          have HF3 : Hid (∀ W : World, Below w.heap.size w W → W.cell? ⟨b, off + j * 7 + 5, none⟩ = some (.string (markT (q + 5))) ∧ Below w.heap.size w W) := fun W hW => by
            have h := HC.out W hW (j * 7) 5 (by omega)
            rw [mvConn_5, ← Nat.add_assoc, ← HQ.out] at h
            exact ⟨by first | exact h | simpa using h, hW⟩
          have hd3 := hx2.drew
          go_wp2
          go_region_held3 (fun w' => w'.cell? ⟨b, off + j * 7 + 5, none⟩ = some (.string (markT (q + 5))) ∧ Below w.heap.size w w')
            (first | exact HF3.out _ hd3 | exact HF3.out _ hx3)
            ((go_at_call 49; refine (markText_int _ (q + 5) (by omega) _ (by omega) (by omega)).mono ?_; rintro e w5 ⟨rfl, hb2⟩; have hx3 : Below w.heap.size w w5 := bjoin hb2 (by assumption)))
          clear hd3
          have e6 : w5.cell? ⟨b, off + j * 7 + 6, none⟩ = some (.int .i64 ((q : Int) + 6)) := by
            have h := HC.out w5 hx3 (j * 7) 6 (by omega)
            rw [mvConn_6, ← Nat.add_assoc, ← HQ.out] at h
            first | exact h | simpa using h | simpa [h3] using h
          go_wp2_with fail
          go_roundw
          case rel => exact ⟨j + 1, q + 7, by omega, by have := HQ.out; omega, by go_num, by go_num, hx3⟩
          case measure => simp [intOf]; omega
        · have HF0 : Hid (∀ W : World, Below w.heap.size w W → W.cell? ⟨b, off + j * 7 + 1, none⟩ = some (.string (markT (q + 1))) ∧ Below w.heap.size w W) := fun W hW => by
            have h := HC.out W hW (j * 7) 1 (by omega)
            rw [mvConn_1, ← Nat.add_assoc, ← HQ.out] at h
            exact ⟨by first | exact h | simpa using h, hW⟩
          have c00 : wr.cell? ⟨b, off + j * 7, none⟩ = some (.bool false) := by
            have h := HC.out wr hb (j * 7) 0 (by omega)
            rw [mvConn_0, ← Nat.add_assoc, ← HQ.out] at h
            first | exact h | simpa using h | simpa [h3] using h
          have hd0 := hb.drew
          go_wp2
          go_region_held3 (fun w' => w'.cell? ⟨b, off + j * 7 + 1, none⟩ = some (.string (markT (q + 1))) ∧ Below w.heap.size w w')
            (first | exact HF0.out _ hd0 | exact HF0.out _ hx0)
            ((go_at_call 49; refine (markText_int _ (q + 1) (by omega) _ (by omega) (by omega)).mono ?_; rintro e w2 ⟨rfl, hb2⟩; have hx0 : Below w.heap.size w w2 := bjoin hb2 (by assumption)))
          clear hd0
          have HF1 : Hid (∀ W : World, Below w.heap.size w W → W.cell? ⟨b, off + j * 7 + 3, none⟩ = some (.string (markT (q + 3))) ∧ Below w.heap.size w W) := fun W hW => by
            have h := HC.out W hW (j * 7) 3 (by omega)
            rw [mvConn_3, ← Nat.add_assoc, ← HQ.out] at h
            exact ⟨by first | exact h | simpa using h, hW⟩
          have c12 : w2.cell? ⟨b, off + j * 7 + 2, none⟩ = some (.int .i64 ((q : Int) + 2)) := by
            have h := HC.out w2 hx0 (j * 7) 2 (by omega)
            rw [mvConn_2, ← Nat.add_assoc, ← HQ.out] at h
            first | exact h | simpa using h | simpa [h3] using h
          have hd1 := hx0.drew
          go_wp2
          go_region_held3 (fun w' => w'.cell? ⟨b, off + j * 7 + 3, none⟩ = some (.string (markT (q + 3))) ∧ Below w.heap.size w w')
            (first | exact HF1.out _ hd1 | exact HF1.out _ hx1)
            ((go_at_call 49; refine (markText_int _ (q + 3) (by omega) _ (by omega) (by omega)).mono ?_; rintro e w3 ⟨rfl, hb2⟩; have hx1 : Below w.heap.size w w3 := bjoin hb2 (by assumption)))
          clear hd1
          have HF2 : Hid (∀ W : World, Below w.heap.size w W → W.cell? ⟨b, off + j * 7 + 4, none⟩ = some (.string (markT (q + 4))) ∧ Below w.heap.size w W) := fun W hW => by
            have h := HC.out W hW (j * 7) 4 (by omega)
            rw [mvConn_4, ← Nat.add_assoc, ← HQ.out] at h
            exact ⟨by first | exact h | simpa using h, hW⟩
          have hd2 := hx1.drew
          go_wp2
          go_region_held3 (fun w' => w'.cell? ⟨b, off + j * 7 + 4, none⟩ = some (.string (markT (q + 4))) ∧ Below w.heap.size w w')
            (first | exact HF2.out _ hd2 | exact HF2.out _ hx2)
            ((go_at_call 49; refine (markText_int _ (q + 4) (by omega) _ (by omega) (by omega)).mono ?_; rintro e w4 ⟨rfl, hb2⟩; have hx2 : Below w.heap.size w w4 := bjoin hb2 (by assumption)))
          clear hd2
          have HF3 : Hid (∀ W : World, Below w.heap.size w W → W.cell? ⟨b, off + j * 7 + 5, none⟩ = some (.string (markT (q + 5))) ∧ Below w.heap.size w W) := fun W hW => by
            have h := HC.out W hW (j * 7) 5 (by omega)
            rw [mvConn_5, ← Nat.add_assoc, ← HQ.out] at h
            exact ⟨by first | exact h | simpa using h, hW⟩
          have hd3 := hx2.drew
          go_wp2
          go_region_held3 (fun w' => w'.cell? ⟨b, off + j * 7 + 5, none⟩ = some (.string (markT (q + 5))) ∧ Below w.heap.size w w')
            (first | exact HF3.out _ hd3 | exact HF3.out _ hx3)
            ((go_at_call 49; refine (markText_int _ (q + 5) (by omega) _ (by omega) (by omega)).mono ?_; rintro e w5 ⟨rfl, hb2⟩; have hx3 : Below w.heap.size w w5 := bjoin hb2 (by assumption)))
          clear hd3
          have e6 : w5.cell? ⟨b, off + j * 7 + 6, none⟩ = some (.int .i64 ((q : Int) + 6)) := by
            have h := HC.out w5 hx3 (j * 7) 6 (by omega)
            rw [mvConn_6, ← Nat.add_assoc, ← HQ.out] at h
            first | exact h | simpa using h | simpa [h3] using h
          go_wp2_with fail
          go_roundw
          case rel => exact ⟨j + 1, q + 7, by omega, by have := HQ.out; omega, by go_num, by go_num, hx3⟩
          case measure => simp [intOf]; omega
      · obtain rfl : j = n := by omega
        go_wp2_with fail
        go_ret
        exact ⟨ret_int (by omega), hb⟩
end Go.Proofs.YtfeccdhadgpnkaaDoor.Msg
