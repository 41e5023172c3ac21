import Derived.Test.YtpbedpgikkkfcaaRecPure
import Derived.Test.YtpbedpgikkkfcaaCrashSpec
import Derived.Test.YtpbedpgikkkfcaaBufKit
import Derived.Laws.OwnMore
namespace Go.Proofs.Ytpbedpgikkkfcaa.Msg
open Go.ChangeShapes Go.WideShapes Go.ChangeAt Go.RowKit
set_option linter.unusedVariables false
set_option linter.unusedSimpArgs false

theorem szL_cells (n : Nat) (h : n ≤ 60000) : [Value.int .u8 ((n : Int) % 256), Value.int .u8 ((n : Int) / 256), Value.int .u8 ((n : Int) / 65536)] = u8s (szL n) := by
  have h1 : ((UInt8.ofNat n).toNat : Int) = (n : Int) % 256 := by rw [UInt8.toNat_ofNat']; omega
  have h2 : ((UInt8.ofNat (n / 256)).toNat : Int) = (n : Int) / 256 := by rw [UInt8.toNat_ofNat']; omega
  have h3 : ((UInt8.ofNat (n / 65536)).toNat : Int) = (n : Int) / 65536 := by rw [UInt8.toNat_ofNat']; omega
  simp only [u8s, szL, List.map_cons, List.map_nil, h1, h2, h3]
/-- the size, as a slice that was written out -/
theorem Buf.size_lit (w : World) (n : Nat) (h : n ≤ 60000) : Buf w.heap.size (w.alloc (Obj.cells #[Value.int .u8 ((n : Int) % 256), Value.int .u8 ((n : Int) / 256), Value.int .u8 ((n : Int) / 65536)] 5)) (.slice (some ⟨w.heap.size, 0, none⟩) 3 3) (szL n) := by
  unfold Buf
  rw [← szL_cells n h]
  exact World.ownsRow_lit w #[_, _, _] 3 (Nat.le_refl _) (by unfold maxLen; omega) rfl
theorem pad_step (m k : Nat) (hk : k ≤ padN m) : ((m + k) % 31 ≠ 0 → k < padN m) ∧ ((m + k) % 31 = 0 → k = padN m) := by
  unfold padN at *
  constructor <;> intro h <;> omega

end Go.Proofs.Ytpbedpgikkkfcaa.Msg
