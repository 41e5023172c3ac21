import Derived.Test.YtjpdgcodjnnljaaFrameWrap
import Derived.Laws.BytesArg
import Derived.Below
namespace Go.Proofs.Ytjpdgcodjnnljaa.Frame
open Go.ChangeShapes Go.WideShapes Go.ChangeAt Go.RowKit

set_option maxRecDepth 100000 in
set_option maxHeartbeats 400000 in
theorem byte_any (n : Int) (w : World) (h0 : 0 ≤ n) (h1 : n ≤ 255) :
    Calls Try.prog 69 #[.int .i64 n] w fun e w' => e = .returned (.string ⟨#[UInt8.ofNat n.toNat]⟩) ∧ Below w.heap.size w w' := by
  have hr := run_convert_bytes_arg (P := Try.prog) (w.alloc (Obj.cells #[Value.int IntKind.u8 n] 5)) 22 5 Try.underlying22 Try.underlying5 w.heap.size 0 1 1 [n] rfl
    (by intro i hi; obtain rfl : i = 0 := by omega
        simp) 9 Try.underlying9
  go_enter Try.func69, Try.ntmps69
  go_wp2
  go_ret
  exact ⟨rfl, (Below.refl _ _).alloc (Nat.le_refl _) _⟩

set_option maxHeartbeats 400000 in
theorem wrapSpec_any (s : ByteArray) (w : World) (hs : s.size ≤ maxLen) :
    Calls Try.prog 26 #[.string s] w fun e w' => e = .returned (.string (wrapped s)) ∧ Below w.heap.size w w' := by
  have hs0 := hs
  unfold maxLen at hs
  by_cases h : s.size ≤ 40000
  · cases h1 : hasB s.data.toList 11
    · cases h2 : hasB s.data.toList 28
      · have H := hide (wrapped_yes s (okB_mk s h h1 h2))
        have H1 := hide h1
        have H2 := hide h2
        clear h1 h2
        go_enter Try.func26, Try.ntmps26
        go_wp2_with fail
        refine (hasByte_any s 11 _ hs0).mono ?_
        rintro e w' ⟨rfl, rfl⟩
        rw [H1.out]
        go_wp2_with fail
        refine (hasByte_any s 28 _ hs0).mono ?_
        rintro e w' ⟨rfl, rfl⟩
        rw [H2.out]
        go_wp2_with fail
        refine (byte_any 11 _ (by decide) (by decide)).mono ?_
        rintro e w1 ⟨rfl, g1⟩
        go_wp2_with fail
        refine (byte_any 28 _ (by decide) (by decide)).mono ?_
        rintro e w2 ⟨rfl, g2⟩
        go_wp2_with fail
        refine (byte_any 13 _ (by decide) (by decide)).mono ?_
        rintro e w3 ⟨rfl, g3⟩
        go_wp2_with fail
        go_ret
        exact ⟨ret_string H.out.symm, (g1.trans (g2.mono g1.size)).trans (g3.mono (Nat.le_trans g1.size g2.size))⟩
      · have H := hide (wrapped_no s (okB_two s h2))
        have H1 := hide h1
        have H2 := hide h2
        clear h1 h2
        go_enter Try.func26, Try.ntmps26
        go_wp2_with fail
        refine (hasByte_any s 11 _ hs0).mono ?_
        rintro e w' ⟨rfl, rfl⟩
        rw [H1.out]
        go_wp2_with fail
        refine (hasByte_any s 28 _ hs0).mono ?_
        rintro e w' ⟨rfl, rfl⟩
        rw [H2.out]
        go_wp2_with fail
        go_ret
        exact ⟨ret_string H.out.symm, Below.refl _ _⟩
    · have H := hide (wrapped_no s (okB_one s h1))
      have H1 := hide h1
      clear h1
      go_enter Try.func26, Try.ntmps26
      go_wp2_with fail
      refine (hasByte_any s 11 _ hs0).mono ?_
      rintro e w' ⟨rfl, rfl⟩
      rw [H1.out]
      go_wp2_with fail
      go_ret
      exact ⟨ret_string H.out.symm, Below.refl _ _⟩
  · have H := hide (wrapped_no s (okB_long s h))
    have h' : (40000 : Int) < (s.size : Int) := by omega
    go_enter Try.func26, Try.ntmps26
    go_wp2_with fail
    go_ret
    exact ⟨ret_string H.out.symm, Below.refl _ _⟩
end Go.Proofs.Ytjpdgcodjnnljaa.Frame
