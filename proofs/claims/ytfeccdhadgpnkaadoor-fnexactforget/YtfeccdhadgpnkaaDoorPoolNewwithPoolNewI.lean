import Derived.Test.YtfeccdhadgpnkaaDoorMsgTo2withEqPool
import Derived.Test.YtfeccdhadgpnkaaDoorFlatAppwithDeskKey
import Derived.Test.YtfeccdhadgpnkaaDoorMsgTowithMarkStr
import Derived.Deep.LoopGhost
namespace Go.Proofs.YtfeccdhadgpnkaaDoor.Msg
open Go.ChangeShapes Go.WideShapes Go.ChangeAt Go.RowKit
set_option linter.unusedVariables false
set_option linter.unusedSimpArgs false

abbrev newOk (e c : Int) : Prop := 0 ≤ e ∧ e ≤ 1000000 ∧ 1 ≤ c ∧ c ≤ 4
def newP (e c : Int) : Pl := if newOk e c then ⟨e, 0, List.replicate c.toNat cn0, []⟩ else ⟨0, 0, [], []⟩
theorem rep_snoc (k : Nat) (x : Cn) : List.replicate k x ++ [x] = List.replicate (k + 1) x := by rw [List.replicate_succ']

/-- a pool that a call gives: its lists may be read -/
def PlAt (lo : Nat) (w : World) (x : Pl) (cv qv : Value) : Prop := CnsAt lo w cv x.conns ∧ WnsAt lo w qv x.queue
/-- .. and are in blocks of its own -/
def PlO (lo : Nat) (w : World) (x : Pl) (cv qv : Value) (b1 b2 : List Nat) : Prop :=
  FO cnC 7 w cv x.conns b1 ∧ FO wnC 4 w qv x.queue b2 ∧ (∀ d ∈ b1, d ∉ b2) ∧ (∀ d ∈ b1, lo ≤ d) ∧ (∀ d ∈ b2, lo ≤ d) ∧ (∀ i (h : i < x.conns.length), cnZ x.conns[i]) ∧ (∀ i (h : i < x.queue.length), wnZ x.queue[i])
theorem PlO.at {lo : Nat} {w : World} {x : Pl} {cv qv : Value} {b1 b2 : List Nat} (h : PlO lo w x cv qv b1 b2) : PlAt lo w x cv qv :=
  ⟨h.1.at cnC_len h.2.2.2.2.2.1 h.2.2.2.1, h.2.1.at wnC_len h.2.2.2.2.2.2 h.2.2.2.2.1⟩
theorem PlO.none (lo : Nat) (w : World) (e n : Int) (a1 a2 : Option Addr) (c1 c2 : Nat) : PlO lo w ⟨e, n, [], []⟩ (.slice a1 0 c1) (.slice a2 0 c2) [] [] :=
  ⟨⟨by simp, .inl ⟨_, _, rfl, rfl, rfl⟩⟩, ⟨by simp, .inl ⟨_, _, rfl, rfl, rfl⟩⟩, by simp, by simp, by simp, by simp, by simp⟩

end Go.Proofs.YtfeccdhadgpnkaaDoor.Msg

namespace Go.Proofs.YtfeccdhadgpnkaaDoor.Msg
open Go.ChangeShapes Go.WideShapes Go.ChangeAt Go.RowKit
set_option linter.unusedVariables false
set_option linter.unusedSimpArgs false

def cntB (e : Int) : Bool := decide (0 ≤ e ∧ e ≤ 1000000)
theorem isCount_any (e : Int) (w : World) : Calls Tryd.prog 76 #[.int .i64 e] w fun en w' => en = .returned (.bool (cntB e)) ∧ w' = w := by
  by_cases h1 : 0 ≤ e
  · by_cases h2 : e ≤ 1000000
    · have HE : Hid (cntB e = true) := decide_eq_true ⟨h1, h2⟩
      go_enter Tryd.func76, Tryd.ntmps76
      go_wp2_with fail
      go_ret
      exact ⟨ret_bool HE.out.symm, rfl⟩
    · have HE : Hid (cntB e = false) := decide_eq_false (by omega)
      go_enter Tryd.func76, Tryd.ntmps76
      go_wp2_with fail
      go_ret
      exact ⟨ret_bool HE.out.symm, rfl⟩
  · have HE : Hid (cntB e = false) := decide_eq_false (by omega)
    go_enter Tryd.func76, Tryd.ntmps76
    go_wp2_with fail
    go_ret
    exact ⟨ret_bool HE.out.symm, rfl⟩

theorem cn0_at : ∀ (m : Nat) (h : m < 7), (cnC cn0)[m]'h = (#[Value.bool false, .string ByteArray.empty, .int .i64 0, .string ByteArray.empty, .string ByteArray.empty, .string ByteArray.empty, .int .i64 0])[m]!
  | 0, _ => rfl
  | 1, _ => rfl
  | 2, _ => rfl
  | 3, _ => rfl
  | 4, _ => rfl
  | 5, _ => rfl
  | 6, _ => rfl
end Go.Proofs.YtfeccdhadgpnkaaDoor.Msg
