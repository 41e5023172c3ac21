import Derived.Test.YtfeccdhadgpnkaaDoorMsgTo2withEqPool
import Derived.Test.YtfeccdhadgpnkaaDoorFgtS2withFgtS
namespace Go.Proofs.YtfeccdhadgpnkaaDoor.Msg
open Go.ChangeShapes Go.WideShapes Go.ChangeAt Go.RowKit
set_option linter.unusedVariables false
set_option linter.unusedSimpArgs false

def mvInt (k i : Nat) : Value := .int .i64 ((k + i : Nat) : Int)

set_option maxRecDepth 100000 in
set_option maxHeartbeats 1000000 in
theorem eqIns_any (xs : List Int) (v u : Value) (w : World) {lo lo2 : Nat} (hv : InsAt lo w v xs) (hu : InsAt lo2 w u xs) :
    Calls Tryd.prog 29 #[v, u] w fun e w' => e = .returned (.bool true) ∧ Below w.heap.size w w' := by
  obtain ⟨hl, hv⟩ := hv
  obtain ⟨_, hu⟩ := hu
  by_cases hx : xs = []
  · subst hx
    obtain ⟨a0, c0, rfl⟩ : ∃ a c, v = .slice a 0 c := by
      rcases hv with ⟨_, _, rfl, _⟩ | ⟨b, off, cap, rfl, _⟩
      · exact ⟨_, _, rfl⟩
      · exact ⟨_, _, rfl⟩
    obtain ⟨a1, c1, rfl⟩ : ∃ a c, u = .slice a 0 c := by
      rcases hu with ⟨_, _, rfl, _⟩ | ⟨b, off, cap, rfl, _⟩
      · exact ⟨_, _, rfl⟩
      · exact ⟨_, _, rfl⟩
    clear hv hu
    go_enter Tryd.func29, Tryd.ntmps29
    go_wp2
    go_loop [5] (fun i => i = .int .i64 0) (fun _ => 0)
    case atStart => rfl
    case round =>
      subst hrel
      go_wp2
      go_ret
      exact ⟨rfl, Below.refl _ _⟩
  · rcases hv with ⟨_, _, _, e⟩ | ⟨b, off, cap, rfl, ⟨_, hlt⟩, hc⟩
    · exact absurd e hx
    rcases hu with ⟨_, _, _, e⟩ | ⟨b2, off2, cap2, rfl, ⟨_, hlt2⟩, hc2⟩
    · exact absurd e hx
    clear hx
    go_enter Tryd.func29, Tryd.ntmps29
    go_wp2
    go_loopw [5] (fun i w1 => ∃ k : Nat, k ≤ xs.length ∧ i = .int .i64 k ∧ Below w.heap.size w w1) (fun i _ => xs.length - (intOf i).toNat)
    case atStart => exact ⟨0, Nat.zero_le _, rfl, Below.refl _ _⟩
    case round =>
      obtain ⟨k, hk, rfl, hb⟩ := hrel
      by_cases hk2 : k < xs.length
      · obtain ⟨x, hxk⟩ : ∃ x, xs[k] = x := ⟨_, rfl⟩
        have g := (hc k hk2).1 0 (by simp [inC])
        have g2 := (hc2 k hk2).1 0 (by simp [inC])
        simp only [Nat.mul_one, Nat.add_zero, hxk, inC, List.getElem_cons_zero] at g g2
        have KS : Hid (∀ X, Below w.heap.size w X → X.cell? ⟨b, off + k, none⟩ = some (.int .i64 x) ∧ X.cell? ⟨b2, off2 + k, none⟩ = some (.int .i64 x) ∧ Below w.heap.size w X) := fun X h =>
          ⟨(h.cell (p := ⟨b, off + k, none⟩) hlt).trans g, (h.cell (p := ⟨b2, off2 + k, none⟩) hlt2).trans g2, h⟩
        have hi : (k : Int) < (xs.length : Int) := by omega
        have hi0 : (0 : Int) ≤ (k : Int) := by omega
        have HB := hide hb
        clear hc hc2 g g2 hxk hb
        go_wp2_with fail
        obtain ⟨D, hwd⟩ : ∃ D, wr.drew = D := ⟨_, rfl⟩
        have hbd0 : Below w.heap.size w wr.drew := bjoin (Below.refl _ _).drew HB.out
        have hD : Below w.heap.size w D := by rw [← hwd]; exact hbd0
        go_region_held3 (fun X => X.cell? ⟨b, off + k, none⟩ = some (.int .i64 x) ∧ X.cell? ⟨b2, off2 + k, none⟩ = some (.int .i64 x) ∧ Below w.heap.size w X)
          (first | with_reducible exact KS.out _ hbd0 | with_reducible exact KS.out _ hD)
          (fail)
        go_wp2_with fail
        go_roundw
        case rel => exact ⟨k + 1, by omega, by go_num, hD⟩
        case measure => simp [intOf]; omega
      · go_wp2
        go_ret
        exact ⟨rfl, hb⟩

set_option maxRecDepth 100000 in
set_option maxHeartbeats 1000000 in
theorem markIns_any (n : Nat) (v : Value) (f : Nat → Value) (bs : List Nat) (k : Nat) (w : World) (hk : 1 ≤ k) (hkb : k + n * 1 ≤ 4611686018427387904) (hv : RowC w v n 1 f bs) :
    Calls Tryd.prog 30 #[v, .int .i64 (k : Int)] w fun e w' => e = .returned (.int .i64 ((k + n * 1 : Nat) : Int)) ∧ Only bs w w' ∧ RowC w' v n 1 (mvInt k) bs := by
  obtain ⟨hl, hv⟩ := hv
  rcases hv with ⟨a0, c0, rfl, rfl, rfl⟩ | ⟨b, off, cap, rfl, hlt, rfl, hc⟩
  · go_enter Tryd.func30, Tryd.ntmps30
    go_wp2
    go_loop [1, 5] (fun r i => r = .int .i64 (k : Int) ∧ i = .int .i64 0) (fun _ _ => 0)
    case atStart => exact ⟨rfl, rfl⟩
    case round =>
      obtain ⟨rfl, rfl⟩ := hrel
      go_wp2
      go_ret
      exact ⟨ret_int (by simp), Only.refl _ _, ⟨by omega, .inl ⟨_, _, rfl, rfl, rfl⟩⟩⟩
  · have hc0 : Cells w b off (n * 1) (fun i => if i < 0 then mvInt k i else f i) := fun i hi => ⟨by dsimp only; rw [if_neg (by omega)]; exact (hc i hi).1, (hc i hi).2⟩
    have HC0 := hide hc0
    clear hc hc0
    go_enter Tryd.func30, Tryd.ntmps30
    go_wp2
    go_loopw [1, 5] (fun r i w1 => ∃ j q : Nat, j ≤ n ∧ q = k + j ∧ i = .int .i64 j ∧ r = .int .i64 (q : Int) ∧ Cells w1 b off (n * 1) (fun i => if i < j then mvInt k i else f i) ∧ Only [b] w w1) (fun _ i _ => n - (intOf i).toNat)
    case atStart => exact ⟨0, k, Nat.zero_le _, by omega, rfl, rfl, HC0.out, Only.refl _ _⟩
    case round =>
      obtain ⟨j, q, hj, hq, rfl, rfl, hrow, ho⟩ := hrel
      by_cases hj2 : j < n
      · have hbl : b < wr.heap.size := Nat.lt_of_lt_of_le hlt ho.size
        have hq9 : q + 1 ≤ 4611686018427387904 := by omega
        have ac0 := (hrow.get j 0 (by omega)).1
        have af0 := (hrow.get j 0 (by omega)).2
        rw [Nat.add_zero] at ac0 af0
        have HROW0 := hide hrow
        have HO0 := hide ho
        clear hrow ho
        go_wp2_with fail
        go_roundw
        case rel =>
          refine ⟨j + 1, q + 1, by omega, by omega, by go_num, by go_num, (HROW0.out.set0 (p := j) (by omega) _).congr fun i hi => ?_, HO0.out.setCell (by simp) _⟩
          try dsimp only
          by_cases e0 : i = j
          · subst e0
            rw [if_pos rfl, if_pos (by omega)]
            unfold mvInt
            exact int_same (by omega)
          · rw [if_neg e0]
            by_cases e9 : i < j
            · rw [if_pos e9, if_pos (by omega)]
            · rw [if_neg e9, if_neg (by omega)]
        case measure => simp [intOf]; omega
      · obtain rfl : j = n := by omega
        go_wp2_with fail
        go_ret
        exact ⟨ret_int (by omega), ho, ⟨hl, .inr ⟨b, off, cap, rfl, Nat.lt_of_lt_of_le hlt ho.size, rfl, fun i hi => by have := hrow i hi; simp only [if_pos (show i < j by omega)] at this; exact this⟩⟩⟩

set_option maxRecDepth 100000 in
set_option maxHeartbeats 1000000 in
theorem heldIns_any (n : Nat) (v : Value) (bs : List Nat) (k : Nat) (w : World) (hk : 1 ≤ k) (hkb : k + n * 1 ≤ 4611686018427387904) (hv : RowC w v n 1 (mvInt k) bs) :
    Calls Tryd.prog 31 #[v, .int .i64 (k : Int)] w fun e w' => e = .returned (.int .i64 ((k + n * 1 : Nat) : Int)) ∧ Below w.heap.size w w' := by
  obtain ⟨hl, hv⟩ := hv
  rcases hv with ⟨a0, c0, rfl, rfl, rfl⟩ | ⟨b, off, cap, rfl, hlt, rfl, hc⟩
  · go_enter Tryd.func31, Tryd.ntmps31
    go_wp2
    go_loop [1, 5] (fun r i => r = .int .i64 (k : Int) ∧ i = .int .i64 0) (fun _ _ => 0)
    case atStart => exact ⟨rfl, rfl⟩
    case round =>
      obtain ⟨rfl, rfl⟩ := hrel
      go_wp2
      go_ret
      exact ⟨ret_int (by simp), Below.refl _ _⟩
  · have HC : Hid (∀ (W : World), Below w.heap.size w W → ∀ p, p < n → W.cell? ⟨b, off + p, none⟩ = some (.int .i64 ((k + p : Nat) : Int))) := fun W hW p h => by
      rw [hW.cell (p := ⟨b, off + p, none⟩) hlt]
      exact (hc p (by omega)).1
    clear hc
    go_enter Tryd.func31, Tryd.ntmps31
    go_wp2
    go_loopw [1, 5] (fun r i w1 => ∃ j q : Nat, j ≤ n ∧ q = k + j ∧ i = .int .i64 j ∧ r = .int .i64 (q : Int) ∧ Below w.heap.size w w1) (fun _ i _ => n - (intOf i).toNat)
    case atStart => exact ⟨0, k, Nat.zero_le _, by omega, rfl, rfl, Below.refl _ _⟩
    case round =>
      obtain ⟨j, q, hj, hq, rfl, rfl, hb⟩ := hrel
      by_cases hj2 : j < n
      · have hq9 : q + 1 ≤ 4611686018427387904 := by omega
        have c00 := HC.out wr hb j hj2
        rw [← hq] at c00
        have HQ := hide hq
        have hi : (j : Int) < (n : Int) := by omega
        clear hq
        go_wp2_with fail
        go_roundw
        case rel => exact ⟨j + 1, q + 1, by omega, by have := HQ.out; omega, by go_num, by go_num, hb⟩
        case measure => simp [intOf]; omega
      · obtain rfl : j = n := by omega
        go_wp2_with fail
        go_ret
        exact ⟨ret_int (by omega), hb⟩
end Go.Proofs.YtfeccdhadgpnkaaDoor.Msg
