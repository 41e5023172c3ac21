import Derived.Test.YtjpdgcodjnnljaaRows
import Derived.WalkKit
import Derived.ProofKit
import Derived.OpenShut
import Derived.ShutString
import Derived.Lib.Strings
import Derived.Lib.Walk
import Derived.Lib.Bytealg
import Derived.BigQuiet
import Derived.Deep.QuietTactic
namespace Go.Proofs.Ytjpdgcodjnnljaa.Frame
open Go.ChangeShapes Go.WideShapes Go.ChangeAt Go.RowKit

theorem hide {p : Prop} (h : p) : Hid p := h

def hasB (l : List UInt8) (b : Int) : Bool := l.any fun c => (c.toNat : Int) == b

theorem take_snoc (s : ByteArray) (k : Nat) (h : k < s.size) : s.data.toList.take (k + 1) = s.data.toList.take k ++ [s[k]] := by
  rw [List.take_succ_eq_append_getElem (by simpa using h)]; rfl

theorem hasB_snoc (l : List UInt8) (c : UInt8) (b : Int) : hasB (l ++ [c]) b = (hasB l b || ((c.toNat : Int) == b)) := by
  simp [hasB]

theorem hasB_of (s : ByteArray) (k : Nat) (h : k < s.size) (b : Int) (hb : (s[k].toNat : Int) = b) : hasB s.data.toList b = true := by
  simp only [hasB, List.any_eq_true]
  exact ⟨s[k], by rw [show s[k] = s.data[k] from rfl]; simp, by simpa using hb⟩

theorem ret_bool {a b : Bool} (h : a = b) : Ending.returned (.bool a) = .returned (.bool b) := by rw [h]

set_option maxHeartbeats 400000 in
theorem hasByte_any (s : ByteArray) (b : Int) (w : World) (hs : s.size ≤ maxLen) :
    Calls Try.prog 68 #[.string s, .int .i64 b] w fun e w' => e = .returned (.bool (hasB s.data.toList b)) ∧ w' = w := by
  unfold maxLen at hs
  go_enter Try.func68, Try.ntmps68
  go_wp2
  go_loop [5] (fun i => ∃ k : Nat, k ≤ s.size ∧ i = .int .i64 k ∧ hasB (s.data.toList.take k) b = false) (fun i => s.size - (intOf i).toNat)
  case atStart => exact ⟨0, Nat.zero_le _, rfl, rfl⟩
  case round =>
    obtain ⟨k, hk, rfl, hn⟩ := hrel
    by_cases hlt : k < s.size
    · have HN : Hid (hasB (s.data.toList.take k) b = false) := hn
      clear hn
      have hts := take_snoc s k hlt
      have HT : Hid (s.data.toList.take (k + 1) = s.data.toList.take k ++ [s[k]]) := hts
      clear hts
      have hb0 : 0 ≤ (s[k].toNat : Int) := by omega
      have hb1 : (s[k].toNat : Int) ≤ 255 := by have := s[k].toNat_lt; omega
      by_cases he : ((s[k].toNat : Int) == b) = true
      · have HE : Hid (((s[k].toNat : Int) == b) = true) := he
        go_wp2
        go_ret
        exact ⟨ret_bool (hasB_of s k hlt b (by simpa using HE.out)).symm, rfl⟩
      · have he' : ((s[k].toNat : Int) == b) = false := by simpa using he
        have HE : Hid (((s[k].toNat : Int) == b) = false) := he'
        clear he
        go_wp2
        go_round
        case rel => exact ⟨k + 1, by omega, by go_num, by rw [HT.out, hasB_snoc, HN.out, HE.out]; rfl⟩
        case measure => simp [intOf]; omega
    · go_wp2
      go_ret
      exact ⟨ret_bool (by rw [← hn, List.take_of_length_le (by simp; omega)]), rfl⟩

set_option maxHeartbeats 1000000 in
set_option maxRecDepth 100000 in
theorem liteIndex (s : ByteArray) (c : Int) (w : World) :
    Calls Try.prog 119 #[.string s, .int .u8 c] w fun e w' => e = .returned (.int .i64 (Lib.indexByte s.data.toList c.toNat.toUInt8)) ∧ w' = w := by
  go_enter Try.func119, Try.ntmps119
  go_wp2
  rw [run_callFunc_extern Try.func134 (by kernel_rfl) (by kernel_rfl) (by kernel_rfl) (e := Extern.BytealgIndexByte.indexByte) (by kernel_rfl), Lib.run_indexByteString]
  simp only [Result.andThen]
  rw [Oper.upon_value]
  go_wp2
  go_ret
  exact ⟨rfl, rfl⟩

set_option maxHeartbeats 1000000 in
theorem indexByte_any (s : ByteArray) (c : Int) (w : World) :
    Calls Try.prog 96 #[.string s, .int .u8 c] w fun e w' => e = .returned (.int .i64 (Lib.indexByte s.data.toList c.toNat.toUInt8)) ∧ w' = w := by
  go_enter Try.func96, Try.ntmps96
  go_wp2_with (go_at_call 119; refine (liteIndex _ _ _).mono ?_; rintro e w' ⟨rfl, rfl⟩)
  go_ret
  exact ⟨rfl, rfl⟩

end Go.Proofs.Ytjpdgcodjnnljaa.Frame

namespace Go.Proofs.Ytjpdgcodjnnljaa.Frame
open Go.ChangeShapes Go.WideShapes Go.ChangeAt Go.RowKit

theorem index_no (l : List UInt8) (c : UInt8) (h : hasB l (c.toNat : Int) = false) : Lib.indexByte l c = -1 := by
  induction l with
  | nil => rfl
  | cons b l ih =>
    simp only [hasB, List.any_cons, Bool.or_eq_false_iff] at h
    have hb : (b == c) = false := by
      rw [beq_eq_false_iff_ne]
      intro e
      subst e
      simp at h
    unfold Lib.indexByte
    rw [hb, ih h.2]
    rfl

theorem index_yes (l : List UInt8) (c : UInt8) (h : hasB l (c.toNat : Int) = true) : 0 ≤ Lib.indexByte l c := by
  induction l with
  | nil => simp [hasB] at h
  | cons b l ih =>
    unfold Lib.indexByte
    by_cases hb : (b == c) = true
    · rw [hb]; exact Int.le_refl _
    · have hb' : (b == c) = false := by simpa using hb
      rw [hb']
      have hl : hasB l (c.toNat : Int) = true := by
        simp only [hasB, List.any_cons, Bool.or_eq_true] at h
        rcases h with h | h
        · exfalso
          apply hb
          rw [beq_iff_eq]
          apply UInt8.toNat_inj.1
          have := of_decide_eq_true h
          omega
        · exact h
      have := ih hl
      have hn : (Lib.indexByte l c == -1) = false := by
        rw [beq_eq_false_iff_ne]; omega
      rw [hn]
      simp only [Bool.false_eq_true, if_false]
      omega

theorem idx_no (s : ByteArray) (c : Int) (w : World) (h0 : 0 ≤ c) (h1 : c ≤ 255) (h : hasB s.data.toList c = false) :
    Calls Try.prog 96 #[.string s, .int .u8 c] w fun e w' => e = .returned (.int .i64 (-1)) ∧ w' = w := by
  refine (indexByte_any s c w).mono ?_
  rintro e w' ⟨rfl, rfl⟩
  refine ⟨?_, rfl⟩
  rw [index_no]
  rw [show ((c.toNat.toUInt8.toNat : Nat) : Int) = c from ?_]
  · exact h
  · simp only [Nat.toUInt8, UInt8.toNat_ofNat']
    omega

theorem idx_yes (s : ByteArray) (c : Int) (w : World) (h0 : 0 ≤ c) (h1 : c ≤ 255) (h : hasB s.data.toList c = true) :
    Calls Try.prog 96 #[.string s, .int .u8 c] w fun e w' => ∃ n : Int, 0 ≤ n ∧ e = .returned (.int .i64 n) ∧ w' = w := by
  refine (indexByte_any s c w).mono ?_
  rintro e w' ⟨rfl, rfl⟩
  refine ⟨_, ?_, rfl, rfl⟩
  apply index_yes
  rw [show ((c.toNat.toUInt8.toNat : Nat) : Int) = c from ?_]
  · exact h
  · simp only [Nat.toUInt8, UInt8.toNat_ofNat']
    omega

/-- a body: short enough, and neither mark of a frame in it -/
def okB (s : ByteArray) : Bool := decide (s.size ≤ 40000) && (!hasB s.data.toList 11 && !hasB s.data.toList 28)

theorem okB_mk (s : ByteArray) (h : s.size ≤ 40000) (h1 : hasB s.data.toList 11 = false) (h2 : hasB s.data.toList 28 = false) : okB s = true := by
  unfold okB; rw [decide_eq_true h, h1, h2]; rfl
theorem okB_long (s : ByteArray) (h : ¬ s.size ≤ 40000) : okB s = false := by
  unfold okB; rw [decide_eq_false h]; rfl
theorem okB_one (s : ByteArray) (h1 : hasB s.data.toList 11 = true) : okB s = false := by
  unfold okB; rw [h1]; simp
theorem okB_two (s : ByteArray) (h1 : hasB s.data.toList 28 = true) : okB s = false := by
  unfold okB; rw [h1]; simp

theorem okB_size {s : ByteArray} (h : okB s = true) : s.size ≤ 40000 := by
  unfold okB at h
  simp only [Bool.and_eq_true, decide_eq_true_eq] at h
  exact h.1

set_option maxHeartbeats 400000 in
theorem isBody_any (s : ByteArray) (w : World) (hs : s.size ≤ maxLen) :
    Calls Try.prog 70 #[.string s] w fun e w' => e = .returned (.bool (okB s)) ∧ w' = w := by
  unfold maxLen at hs
  by_cases h : s.size ≤ 40000
  · cases h1 : hasB s.data.toList 11
    · cases h2 : hasB s.data.toList 28
      · have H := hide (okB_mk s h h1 h2)
        have H1 := hide h1
        have H2 := hide h2
        clear h1 h2
        go_enter Try.func70, Try.ntmps70
        go_wp2_with fail
        refine (idx_no s 11 _ (by decide) (by decide) H1.out).mono ?_
        rintro e w' ⟨rfl, rfl⟩
        go_wp2_with fail
        refine (idx_no s 28 _ (by decide) (by decide) H2.out).mono ?_
        rintro e w' ⟨rfl, rfl⟩
        go_wp2_with fail
        go_ret
        exact ⟨ret_bool H.out.symm, rfl⟩
      · have H := hide (okB_two s h2)
        have H1 := hide h1
        have H2 := hide h2
        clear h1 h2
        go_enter Try.func70, Try.ntmps70
        go_wp2_with fail
        refine (idx_no s 11 _ (by decide) (by decide) H1.out).mono ?_
        rintro e w' ⟨rfl, rfl⟩
        go_wp2_with fail
        refine (idx_yes s 28 _ (by decide) (by decide) H2.out).mono ?_
        rintro e w' ⟨n, hn, rfl, rfl⟩
        have hn' : ¬ n < 0 := by omega
        go_wp2_with fail
        go_ret
        exact ⟨ret_bool (by rw [H.out]; simpa using hn), rfl⟩
    · have H := hide (okB_one s h1)
      have H1 := hide h1
      clear h1
      go_enter Try.func70, Try.ntmps70
      go_wp2_with fail
      refine (idx_yes s 11 _ (by decide) (by decide) H1.out).mono ?_
      rintro e w' ⟨n, hn, rfl, rfl⟩
      have hn' : ¬ n < 0 := by omega
      go_wp2_with fail
      go_ret
      exact ⟨ret_bool H.out.symm, rfl⟩
  · have H := hide (okB_long s h)
    have h' : (40000 : Int) < (s.size : Int) := by omega
    go_enter Try.func70, Try.ntmps70
    go_wp2_with fail
    go_ret
    exact ⟨ret_bool H.out.symm, rfl⟩

/-- what 'Wrap' answers -/
def wrapped (s : ByteArray) : ByteArray := if okB s = true then ⟨#[11]⟩ ++ s ++ ⟨#[28]⟩ ++ ⟨#[13]⟩ else ⟨#[]⟩
theorem wrapped_yes (s : ByteArray) (h : okB s = true) : wrapped s = ⟨#[11]⟩ ++ s ++ ⟨#[28]⟩ ++ ⟨#[13]⟩ := if_pos h
theorem wrapped_no (s : ByteArray) (h : okB s = false) : wrapped s = ⟨#[]⟩ := if_neg (by rw [h]; decide)
theorem ret_string {a b : ByteArray} (h : a = b) : Ending.returned (.string a) = .returned (.string b) := by rw [h]

set_option maxHeartbeats 400000 in
theorem wrapImpl_any (s : ByteArray) (w : World) (hs : s.size ≤ maxLen) :
    Calls Try.prog 27 #[.string s] w fun e w' => e = .returned (.string (wrapped s)) ∧ w' = w := by
  cases h : okB s
  · have H := hide h
    clear h
    go_enter Try.func27, Try.ntmps27
    go_wp2_with fail
    refine (isBody_any s _ hs).mono ?_
    rintro e w' ⟨rfl, rfl⟩
    rw [H.out]
    go_wp2_with fail
    go_ret
    exact ⟨ret_string (wrapped_no s H.out).symm, rfl⟩
  · have H := hide h
    have h40 := okB_size h
    clear h
    go_enter Try.func27, Try.ntmps27
    go_wp2_with fail
    refine (isBody_any s _ hs).mono ?_
    rintro e w' ⟨rfl, rfl⟩
    rw [H.out]
    go_wp2_with fail
    go_ret
    exact ⟨ret_string (wrapped_yes s H.out).symm, rfl⟩
end Go.Proofs.Ytjpdgcodjnnljaa.Frame
