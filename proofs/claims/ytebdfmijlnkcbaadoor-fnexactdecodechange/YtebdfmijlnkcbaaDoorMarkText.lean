import Derived.Test.YtebdfmijlnkcbaaDoorMsgData
import Derived.Laws.BytesArg
namespace Go.Proofs.YtebdfmijlnkcbaaDoor.Msg
open Go.ChangeShapes Go.WideShapes Go.ChangeAt Go.RowKit
set_option linter.unusedVariables false
set_option linter.unusedSimpArgs false

def digsF : Nat → Nat → List UInt8
  | 0, _ => []
  | f + 1, n => if n = 0 then [] else digsF f (n / 10) ++ [UInt8.ofNat (48 + n % 10)]
def digs (n : Nat) : List UInt8 := digsF n n
theorem digsF_fuel : ∀ (f g n : Nat), n ≤ f → n ≤ g → digsF f n = digsF g n
  | 0, g, n, h1, h2 => by
    obtain rfl : n = 0 := by omega
    cases g <;> simp [digsF]
  | f + 1, 0, n, h1, h2 => by
    obtain rfl : n = 0 := by omega
    simp [digsF]
  | f + 1, g + 1, n, h1, h2 => by
    unfold digsF
    by_cases h : n = 0
    · simp [h]
    · rw [if_neg h, if_neg h, digsF_fuel f g (n / 10) (by omega) (by omega)]
theorem digs_zero : digs 0 = [] := rfl
theorem digs_step (n : Nat) (h : n ≠ 0) : digs n = digs (n / 10) ++ [UInt8.ofNat (48 + n % 10)] := by
  unfold digs
  obtain ⟨m, rfl⟩ : ∃ m, n = m + 1 := ⟨n - 1, by omega⟩
  conv => lhs; unfold digsF
  rw [if_neg h, digsF_fuel m ((m + 1) / 10) ((m + 1) / 10) (by omega) (by omega)]
/-- the mark of number k (from 1) -/
def markT (k : Nat) : ByteArray := ⟨#[109]⟩ ++ ⟨(digs k).toArray⟩
theorem bytes_ext {a b : ByteArray} (h : a.data.toList = b.data.toList) : a = b := by
  cases a; cases b
  simp only [ByteArray.mk.injEq]
  exact Array.toList_inj.1 h
theorem digs_len : ∀ (f n : Nat), n ≤ f → n < 18446744073709551616 → (digs n).length ≤ 20 := by
  intro f n _ h
  have key : ∀ (j n : Nat), n < 10 ^ j → (digs n).length ≤ j := by
    intro j
    induction j with
    | zero => intro n hn; obtain rfl : n = 0 := by omega
              simp [digs_zero]
    | succ j ih =>
      intro n hn
      by_cases h0 : n = 0
      · subst h0; simp [digs_zero]
      · rw [digs_step n h0, List.length_append, List.length_singleton]
        have := ih (n / 10) (by rw [Nat.pow_succ] at hn; omega)
        omega
  exact key 20 n (by omega)

set_option maxRecDepth 100000 in
set_option maxHeartbeats 1000000 in
theorem markText_any (k0 : Nat) (w : World) (h0 : 1 ≤ k0) (h1 : k0 ≤ 4611686018427387904) :
    Calls Tryd.prog 27 #[.int .i64 (k0 : Int)] w fun e w' => e = .returned (.string (markT k0)) ∧ Below w.heap.size w w' := by
  have hpos : ¬ (k0 : Int) ≤ 0 := by omega
  have hr : ∀ (w : World) (n : Int), Sem.run Tryd.prog (convert 38 9 (.slice (some ⟨w.heap.size, 0, none⟩) 1 1)) (w.alloc (Obj.cells #[Value.int IntKind.u8 n] 5)) = .ok (.string (strOfNums [n])) (w.alloc (Obj.cells #[Value.int IntKind.u8 n] 5)) := fun w n =>
    run_convert_bytes_arg (P := Tryd.prog) (w.alloc (Obj.cells #[Value.int IntKind.u8 n] 5)) 38 5 Tryd.underlying38 Tryd.underlying5 w.heap.size 0 1 1 [n] rfl
      (by intro i hi; obtain rfl : i = 0 := by omega
          simp) 9 Tryd.underlying9
  have HL := hide (digs_len k0 k0 (Nat.le_refl _) (by omega))
  go_enter Tryd.func27, Tryd.ntmps27
  go_wp2
  go_loopw [0, 3] (fun kv out wr => ∃ (k : Nat) (s : ByteArray), kv = .int .i64 (k : Int) ∧ out = .string s ∧ k ≤ k0 ∧ digs k ++ s.data.toList = digs k0 ∧ Below w.heap.size w wr) (fun kv _ _ => (intOf kv).toNat)
  case atStart => exact ⟨k0, ByteArray.empty, rfl, rfl, Nat.le_refl _, by simp, Below.refl _ _⟩
  case round =>
    obtain ⟨k, s, rfl, rfl, hk, hd, hb⟩ := hrel
    have hsl : s.size ≤ 20 := by
      have := HL.out
      rw [← hd, List.length_append] at this
      have h2 : s.data.toList.length = s.size := by simp
      omega
    have HD := hide hd
    clear hd
    by_cases hz : k = 0
    · subst hz
      have HS : Hid (⟨#[109]⟩ ++ s = markT k0) := by
        apply bytes_ext
        have := HD.out
        rw [digs_zero, List.nil_append] at this
        simp [markT, this]
      go_wp2
      go_ret
      exact ⟨ret_string HS.out, hb⟩
    · have hkp : (0 : Int) < (k : Int) := by omega
      have hrw := hr wr ((48 : Int) + (k : Int) % 10)
      have hb' := hb.alloc hb.size (Obj.cells #[Value.int IntKind.u8 ((48 : Int) + (k : Int) % 10)] 5)
      have hss : (strOfNums [(48 : Int) + (k : Int) % 10]).size = 1 := strOfNums_size _
      have HF : Hid (digs (k / 10) ++ (strOfNums [(48 : Int) + (k : Int) % 10] ++ s).data.toList = digs k0) := by
        have e1 : (strOfNums [(48 : Int) + (k : Int) % 10] ++ s).data.toList = [UInt8.ofNat (48 + k % 10)] ++ s.data.toList := by
          rw [ByteArray.data_append, Array.toList_append, strOfNums_data]
          rw [List.map_cons, List.map_nil, show ((48 : Int) + (k : Int) % 10).toNat = 48 + k % 10 by omega]
        have e2 := HD.out
        rw [digs_step k hz, List.append_assoc] at e2
        rw [e1]
        exact e2
      go_wp2
      go_roundw
      case rel => exact ⟨k / 10, _, by go_num, rfl, by omega, HF.out, hb'⟩
      case measure => simp [intOf]; omega
end Go.Proofs.YtebdfmijlnkcbaaDoor.Msg
