import Derived.Test.YtjpdgcodjnnljaaLogCut3
import Derived.Test.YtjpdgcodjnnljaaLogImpl2
import Derived.Test.YtjpdgcodjnnljaaLawCrash
import Derived.Deep.QuietTactic
import Derived.BigQuiet
namespace Go.Proofs.Ytjpdgcodjnnljaa.Msg
open Go.ChangeShapes Go.WideShapes Go.ChangeAt Go.RowKit Go.Shelf
set_option linter.unusedVariables false
set_option linter.unusedSimpArgs false

/-! a list of bytes, read -/
def ByteR (_ : Nat) (w : World) (b off : Nat) (x : UInt8) : Prop := w.cell? ⟨b, off, none⟩ = some (.int .u8 (x.toNat : Int))
def BytesAt : Nat → World → Value → List UInt8 → Prop := At 1 ByteR
theorem kept_byte : Kept ByteR := fun lo w w' b off x h h1 h2 hb => by unfold ByteR at *; rw [hb.cell h1 h2]; exact h
theorem bytes_form {lo : Nat} {w : World} {v : Value} {xs : List UInt8} (h : BytesAt lo w v xs) : ∃ a cap, v = .slice a xs.length cap ∧ ∀ i, i < xs.length → ∃ b off, a = some ⟨b, off, none⟩ ∧ b < w.heap.size ∧ w.cell? ⟨b, off + i, none⟩ = some (.int .u8 ((xs.getD i 0).toNat : Int)) := by
  obtain ⟨hl, h⟩ := h
  rcases h with ⟨a, cap, rfl, rfl⟩ | ⟨b, off, cap, rfl, hlt, h⟩
  · exact ⟨a, cap, rfl, fun i hi => absurd hi (by simp)⟩
  · exact ⟨_, cap, rfl, fun i hi => ⟨b, off, rfl, hlt.2, by have := h i hi; unfold ByteR at this; rw [List.getD_eq_getElem?_getD, List.getElem?_eq_getElem hi]; simpa using this⟩⟩

def pickN (bs : List UInt8) (i : Nat) : Nat := if bs.length = 0 then i else (bs.getD (i % bs.length) 0).toNat
theorem pickN_le (bs : List UInt8) (i : Nat) (h : i ≤ 1000) : pickN bs i ≤ 1000 := by
  unfold pickN
  split
  · exact h
  · have := (bs.getD (i % bs.length) 0).toNat_lt; omega

set_option maxRecDepth 100000 in
set_option maxHeartbeats 1000000 in
theorem pick_any (xs : List UInt8) (v : Value) (i : Nat) (w : World) {lo : Nat} (hv : BytesAt lo w v xs) (hi : i ≤ 1000) :
    Calls Try.prog 12 #[v, .int .i64 (i : Int)] w fun e w' => e = .returned (.int .i64 ((pickN xs i : Nat) : Int)) ∧ w' = w := by
  have hl := hv.1
  obtain ⟨a, cap, rfl, hc⟩ := bytes_form hv
  clear hv
  by_cases h0 : xs.length = 0
  · have HX : Hid (pickN xs i = i) := by unfold pickN; rw [if_pos h0]; exact rfl
    rw [h0]
    clear hc
    go_enter Try.func12, Try.ntmps12
    go_wp2_with fail
    go_ret
    exact ⟨by rw [HX.out]; rfl, rfl⟩
  · obtain ⟨q, hq⟩ : ∃ q, i % xs.length = q := ⟨_, rfl⟩
    have hql : q < xs.length := by rw [← hq]; exact Nat.mod_lt _ (by omega)
    have HX : Hid (pickN xs i = (xs.getD q 0).toNat) := by unfold pickN; rw [if_neg h0, hq]; exact rfl
    obtain ⟨b, off, rfl, hb, hcell⟩ := hc q hql
    obtain ⟨c, hcc⟩ : ∃ c : Nat, (xs.getD q 0).toNat = c := ⟨_, rfl⟩
    have hc6 : c ≤ 255 := by have := (xs.getD q 0).toNat_lt; omega
    rw [hcc] at HX hcell
    obtain ⟨n, hn⟩ : ∃ n, xs.length = n := ⟨_, rfl⟩
    rw [hn] at h0 hq hql hl
    rw [hn]
    have h1 : (i : Int).tmod (n : Int) = (q : Int) := by rw [Int.tmod_eq_emod_of_nonneg (by omega), ← hq]; omega
    have h1' : (i : Int) % (n : Int) = (q : Int) := by rw [← hq]; omega
    have h2 : (q : Int) < (n : Int) := by omega
    have h3 : ¬ (n : Int) = 0 := by omega
    have h3b : ((n : Int) == 0) = false := by simpa using h3
    have h4 : (0 : Int) ≤ (c : Int) := by omega
    have h5 : (c : Int) ≤ 255 := by omega
    clear hc hq hcc hn
    go_enter Try.func12, Try.ntmps12
    go_wp2_with fail
    go_ret
    exact ⟨by rw [HX.out]; rfl, rfl⟩

set_option maxHeartbeats 400000 in
theorem sameTexts_any (xs : List ByteArray) (v u : Value) (w : World) {lo lo2 : Nat} (hv : StrsAt lo w v xs) (hu : StrsAt lo2 w u xs) :
    Calls Try.prog 15 #[v, u] w fun e w' => e = .returned (.bool true) ∧ Below w.heap.size w w' := by
  obtain ⟨hl, hv⟩ := hv
  obtain ⟨_, hu⟩ := hu
  by_cases hx : xs = []
  · subst hx
    obtain ⟨a0, c0, rfl⟩ : ∃ a c, v = .slice a 0 c := by
      rcases hv with ⟨_, _, rfl, _⟩ | ⟨b, off, cap, rfl, _⟩
      · exact ⟨_, _, rfl⟩
      · exact ⟨_, _, rfl⟩
    obtain ⟨a1, c1, rfl⟩ : ∃ a c, u = .slice a 0 c := by
      rcases hu with ⟨_, _, rfl, _⟩ | ⟨b, off, cap, rfl, _⟩
      · exact ⟨_, _, rfl⟩
      · exact ⟨_, _, rfl⟩
    clear hv hu
    go_enter Try.func15, Try.ntmps15
    go_wp2
    go_loop [5] (fun i => i = .int .i64 0) (fun _ => 0)
    case atStart => rfl
    case round =>
      subst hrel
      go_wp2
      go_ret
      exact ⟨rfl, Below.refl _ _⟩
  · rcases hv with ⟨_, _, _, e⟩ | ⟨b, off, cap, rfl, ⟨_, hlt⟩, hc⟩
    · exact absurd e hx
    rcases hu with ⟨_, _, _, e⟩ | ⟨b2, off2, cap2, rfl, ⟨_, hlt2⟩, hc2⟩
    · exact absurd e hx
    clear hx
    go_enter Try.func15, Try.ntmps15
    go_wp2
    go_loopw [5] (fun i w1 => ∃ k : Nat, k ≤ xs.length ∧ i = .int .i64 k ∧ Below w.heap.size w w1) (fun i _ => xs.length - (intOf i).toNat)
    case atStart => exact ⟨0, Nat.zero_le _, rfl, Below.refl _ _⟩
    case round =>
      obtain ⟨k, hk, rfl, hb⟩ := hrel
      by_cases hk2 : k < xs.length
      · have h1 : wr.cell? ⟨b, off + k, none⟩ = some (.string xs[k]) := by rw [hb.cell (p := ⟨b, off + k, none⟩) hlt]; simpa using (hc k hk2).1
        have h2 : wr.cell? ⟨b2, off2 + k, none⟩ = some (.string xs[k]) := by rw [hb.cell (p := ⟨b2, off2 + k, none⟩) hlt2]; simpa using (hc2 k hk2).1
        have hi : (k : Int) < (xs.length : Int) := by omega
        clear hc hc2
        go_wp2
        go_quiet (fail)
        go_wp2
        go_roundw
        case rel => exact ⟨k + 1, by omega, by go_num, below_drewN hb _⟩
        case measure => simp [intOf]; omega
      · go_wp2
        go_ret
        exact ⟨rfl, hb⟩

/-! how many records end at or before a place -/
def wholeN (es : List Int) (a : Int) : Nat → Nat
  | 0 => 0
  | k + 1 => if es.getD k 0 ≤ a then k + 1 else wholeN es a k
theorem whole_le (es : List Int) (a : Int) : ∀ k, wholeN es a k ≤ k
  | 0 => Nat.le_refl _
  | k + 1 => by unfold wholeN; have := whole_le es a k; split <;> omega
theorem whole_in (es : List Int) (a : Int) : ∀ k, wholeN es a k = 0 ∨ es.getD (wholeN es a k - 1) 0 ≤ a
  | 0 => .inl rfl
  | k + 1 => by
    unfold wholeN
    split
    · rename_i h; exact .inr (by simpa using h)
    · exact whole_in es a k
theorem whole_out (es : List Int) (a : Int) : ∀ k i, wholeN es a k ≤ i → i < k → a < es.getD i 0
  | 0, i, _, h => by omega
  | k + 1, i, h1, h2 => by
    unfold wholeN at h1
    split at h1
    · omega
    · rename_i h
      by_cases e : i = k
      · subst e; omega
      · exact whole_out es a k i h1 (by omega)

set_option maxRecDepth 100000 in
set_option maxHeartbeats 1000000 in
theorem whole_any (xs : List Int) (v : Value) (a : Nat) (w : World) {lo : Nat} (hv : IntsAt lo w v xs) (hx : xs.length ≤ 1048576) :
    Calls Try.prog 16 #[v, .int .i64 (a : Int)] w fun e w' => e = .returned (.int .i64 ((wholeN xs a xs.length : Nat) : Int)) ∧ w' = w := by
  obtain ⟨av, cap, rfl, hc⟩ := ints_form hv
  have HC := hide hc
  clear hv hc
  go_enter Try.func16, Try.ntmps16
  go_wp2_with fail
  go_loopg [5, 6] xs.length (fun q n i wr => ∃ k : Nat, k ≤ xs.length ∧ q = xs.length - k ∧ i = .int .i64 (k : Int) ∧ n = .int .i64 ((wholeN xs a k : Nat) : Int) ∧ wr = w)
  case atStart => exact ⟨0, Nat.zero_le _, rfl, rfl, rfl, rfl⟩
  case round =>
    obtain ⟨k, hk, rfl, rfl, rfl, rfl⟩ := hrel
    by_cases hlt : k < xs.length
    · have hki : (k : Int) < (xs.length : Int) := by omega
      obtain ⟨b, off, rfl, hbl, hcell⟩ := HC.out k hlt
      obtain ⟨e, he⟩ : ∃ e, xs[k] = e := ⟨_, rfl⟩
      rw [he] at hcell
      have hg : xs.getD k 0 = e := by rw [List.getD_eq_getElem?_getD, List.getElem?_eq_getElem hlt, ← he]; rfl
      by_cases hle : e ≤ (a : Int)
      · have HX : Hid (wholeN xs a (k + 1) = k + 1) := by show _ = _; conv => lhs; unfold wholeN
                                                          rw [hg, if_pos hle]
        clear he hg
        go_wp2_with fail
        go_roundg (xs.length - (k + 1))
        case measure => omega
        case rel => exact ⟨k + 1, by omega, rfl, by go_num, by rw [HX.out]; go_num, rfl⟩
      · have HX : Hid (wholeN xs a (k + 1) = wholeN xs a k) := by show _ = _; conv => lhs; unfold wholeN
                                                                  rw [hg, if_neg hle]
        clear he hg
        go_wp2_with fail
        go_roundg (xs.length - (k + 1))
        case measure => omega
        case rel => exact ⟨k + 1, by omega, rfl, by go_num, by rw [HX.out], rfl⟩
    · obtain rfl : k = xs.length := by omega
      have hki : ¬ (xs.length : Int) < (xs.length : Int) := by omega
      go_wp2_with fail
      go_ret
      exact ⟨rfl, rfl⟩
end Go.Proofs.Ytjpdgcodjnnljaa.Msg
