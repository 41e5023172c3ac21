import Derived.Test.YtcphfhfockjljaaDoorRows
import Derived.WalkKit
import Derived.ProofKit
import Derived.OpenShut
import Derived.ShutString
import Derived.Lib.Strings
import Derived.Lib.Walk
import Derived.Lib.Bytealg
import Derived.BigQuiet
import Derived.Deep.QuietTactic
import Derived.Laws.BytesArg
import Derived.Below
namespace Go.Proofs.YtcphfhfockjljaaDoor.Frame
open Go.ChangeShapes Go.WideShapes Go.ChangeAt Go.RowKit

theorem hide {p : Prop} (h : p) : Hid p := h

def hasB (l : List UInt8) (b : Int) : Bool := l.any fun c => (c.toNat : Int) == b

theorem take_snoc (s : ByteArray) (k : Nat) (h : k < s.size) : s.data.toList.take (k + 1) = s.data.toList.take k ++ [s[k]] := by
  rw [List.take_succ_eq_append_getElem (by simpa using h)]; rfl

theorem hasB_snoc (l : List UInt8) (c : UInt8) (b : Int) : hasB (l ++ [c]) b = (hasB l b || ((c.toNat : Int) == b)) := by
  simp [hasB]

theorem hasB_of (s : ByteArray) (k : Nat) (h : k < s.size) (b : Int) (hb : (s[k].toNat : Int) = b) : hasB s.data.toList b = true := by
  simp only [hasB, List.any_eq_true]
  exact ⟨s[k], by rw [show s[k] = s.data[k] from rfl]; simp, by simpa using hb⟩

theorem ret_bool {a b : Bool} (h : a = b) : Ending.returned (.bool a) = .returned (.bool b) := by rw [h]

set_option maxHeartbeats 1000000 in
set_option maxRecDepth 100000 in
theorem liteIndex (s : ByteArray) (c : Int) (w : World) :
    Calls Tryd.prog 62 #[.string s, .int .u8 c] w fun e w' => e = .returned (.int .i64 (Lib.indexByte s.data.toList c.toNat.toUInt8)) ∧ w' = w := by
  go_enter Tryd.func62, Tryd.ntmps62
  go_wp2
  rw [run_callFunc_extern Tryd.func75 (by kernel_rfl) (by kernel_rfl) (by kernel_rfl) (e := Extern.BytealgIndexByte.indexByte) (by kernel_rfl), Lib.run_indexByteString]
  simp only [Result.andThen]
  rw [Oper.upon_value]
  go_wp2
  go_ret
  exact ⟨rfl, rfl⟩

set_option maxHeartbeats 1000000 in
theorem indexByte_any (s : ByteArray) (c : Int) (w : World) :
    Calls Tryd.prog 47 #[.string s, .int .u8 c] w fun e w' => e = .returned (.int .i64 (Lib.indexByte s.data.toList c.toNat.toUInt8)) ∧ w' = w := by
  go_enter Tryd.func47, Tryd.ntmps47
  go_wp2_with (go_at_call 62; refine (liteIndex _ _ _).mono ?_; rintro e w' ⟨rfl, rfl⟩)
  go_ret
  exact ⟨rfl, rfl⟩

end Go.Proofs.YtcphfhfockjljaaDoor.Frame

namespace Go.Proofs.YtcphfhfockjljaaDoor.Frame
open Go.ChangeShapes Go.WideShapes Go.ChangeAt Go.RowKit

theorem index_no (l : List UInt8) (c : UInt8) (h : hasB l (c.toNat : Int) = false) : Lib.indexByte l c = -1 := by
  induction l with
  | nil => rfl
  | cons b l ih =>
    simp only [hasB, List.any_cons, Bool.or_eq_false_iff] at h
    have hb : (b == c) = false := by
      rw [beq_eq_false_iff_ne]
      intro e
      subst e
      simp at h
    unfold Lib.indexByte
    rw [hb, ih h.2]
    rfl

theorem index_yes (l : List UInt8) (c : UInt8) (h : hasB l (c.toNat : Int) = true) : 0 ≤ Lib.indexByte l c := by
  induction l with
  | nil => simp [hasB] at h
  | cons b l ih =>
    unfold Lib.indexByte
    by_cases hb : (b == c) = true
    · rw [hb]; exact Int.le_refl _
    · have hb' : (b == c) = false := by simpa using hb
      rw [hb']
      have hl : hasB l (c.toNat : Int) = true := by
        simp only [hasB, List.any_cons, Bool.or_eq_true] at h
        rcases h with h | h
        · exfalso
          apply hb
          rw [beq_iff_eq]
          apply UInt8.toNat_inj.1
          have := of_decide_eq_true h
          omega
        · exact h
      have := ih hl
      have hn : (Lib.indexByte l c == -1) = false := by
        rw [beq_eq_false_iff_ne]; omega
      rw [hn]
      simp only [Bool.false_eq_true, if_false]
      omega

theorem idx_no (s : ByteArray) (c : Int) (w : World) (h0 : 0 ≤ c) (h1 : c ≤ 255) (h : hasB s.data.toList c = false) :
    Calls Tryd.prog 47 #[.string s, .int .u8 c] w fun e w' => e = .returned (.int .i64 (-1)) ∧ w' = w := by
  refine (indexByte_any s c w).mono ?_
  rintro e w' ⟨rfl, rfl⟩
  refine ⟨?_, rfl⟩
  rw [index_no]
  rw [show ((c.toNat.toUInt8.toNat : Nat) : Int) = c from ?_]
  · exact h
  · simp only [Nat.toUInt8, UInt8.toNat_ofNat']
    omega

theorem idx_yes (s : ByteArray) (c : Int) (w : World) (h0 : 0 ≤ c) (h1 : c ≤ 255) (h : hasB s.data.toList c = true) :
    Calls Tryd.prog 47 #[.string s, .int .u8 c] w fun e w' => ∃ n : Int, 0 ≤ n ∧ e = .returned (.int .i64 n) ∧ w' = w := by
  refine (indexByte_any s c w).mono ?_
  rintro e w' ⟨rfl, rfl⟩
  refine ⟨_, ?_, rfl, rfl⟩
  apply index_yes
  rw [show ((c.toNat.toUInt8.toNat : Nat) : Int) = c from ?_]
  · exact h
  · simp only [Nat.toUInt8, UInt8.toNat_ofNat']
    omega

/-- a body: short enough, and neither mark of a frame in it -/
def okB (s : ByteArray) : Bool := decide (s.size ≤ 40000) && (!hasB s.data.toList 11 && !hasB s.data.toList 28)

theorem okB_mk (s : ByteArray) (h : s.size ≤ 40000) (h1 : hasB s.data.toList 11 = false) (h2 : hasB s.data.toList 28 = false) : okB s = true := by
  unfold okB; rw [decide_eq_true h, h1, h2]; rfl
theorem okB_long (s : ByteArray) (h : ¬ s.size ≤ 40000) : okB s = false := by
  unfold okB; rw [decide_eq_false h]; rfl
theorem okB_one (s : ByteArray) (h1 : hasB s.data.toList 11 = true) : okB s = false := by
  unfold okB; rw [h1]; simp
theorem okB_two (s : ByteArray) (h1 : hasB s.data.toList 28 = true) : okB s = false := by
  unfold okB; rw [h1]; simp

theorem okB_size {s : ByteArray} (h : okB s = true) : s.size ≤ 40000 := by
  unfold okB at h
  simp only [Bool.and_eq_true, decide_eq_true_eq] at h
  exact h.1

/-- what 'Wrap' answers -/
def wrapped (s : ByteArray) : ByteArray := if okB s = true then ⟨#[11]⟩ ++ s ++ ⟨#[28]⟩ ++ ⟨#[13]⟩ else ⟨#[]⟩
theorem wrapped_yes (s : ByteArray) (h : okB s = true) : wrapped s = ⟨#[11]⟩ ++ s ++ ⟨#[28]⟩ ++ ⟨#[13]⟩ := if_pos h
theorem wrapped_no (s : ByteArray) (h : okB s = false) : wrapped s = ⟨#[]⟩ := if_neg (by rw [h]; decide)
theorem ret_string {a b : ByteArray} (h : a = b) : Ending.returned (.string a) = .returned (.string b) := by rw [h]

end Go.Proofs.YtcphfhfockjljaaDoor.Frame

namespace Go.Proofs.YtcphfhfockjljaaDoor.Frame
open Go.ChangeShapes Go.WideShapes Go.ChangeAt Go.RowKit

set_option maxRecDepth 100000 in
set_option maxHeartbeats 400000 in
theorem byte_any (n : Int) (w : World) (h0 : 0 ≤ n) (h1 : n ≤ 255) :
    Calls Tryd.prog 26 #[.int .i64 n] w fun e w' => e = .returned (.string ⟨#[UInt8.ofNat n.toNat]⟩) ∧ Below w.heap.size w w' := by
  have hr := run_convert_bytes_arg (P := Tryd.prog) (w.alloc (Obj.cells #[Value.int IntKind.u8 n] 5)) 22 5 Tryd.underlying22 Tryd.underlying5 w.heap.size 0 1 1 [n] rfl
    (by intro i hi; obtain rfl : i = 0 := by omega
        simp) 9 Tryd.underlying9
  go_enter Tryd.func26, Tryd.ntmps26
  go_wp2
  go_ret
  exact ⟨rfl, (Below.refl _ _).alloc (Nat.le_refl _) _⟩

end Go.Proofs.YtcphfhfockjljaaDoor.Frame
