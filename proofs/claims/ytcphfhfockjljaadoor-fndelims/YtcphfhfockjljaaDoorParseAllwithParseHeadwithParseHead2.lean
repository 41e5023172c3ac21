import Derived.Test.YtcphfhfockjljaaDoorParseSegswithParseBackwithDelPure
import Derived.BigQuiet
namespace Go.Proofs.YtcphfhfockjljaaDoor.Msg
open Go.ChangeShapes Go.WideShapes Go.ChangeAt Go.RowKit
set_option linter.unusedVariables false
set_option linter.unusedSimpArgs false

def ParsePost (w : World) (X : Except Nat (List Seg)) (e : Ending) (w' : World) : Prop :=
  ∃ u c, e = .returned (.tuple #[.agg #[u], .int .i64 c]) ∧ (∀ n, X = .error n → u = .slice none 0 0 ∧ c = (n : Int)) ∧ (∀ xs, X = .ok xs → c = 0 ∧ ∃ bs, OSegs w' u xs bs ∧ bs.Nodup ∧ ∀ b ∈ bs, w.heap.size ≤ b) ∧ Below w.heap.size w w'
theorem post_err {w w' : World} {X : Except Nat (List Seg)} {n : Nat} {c : Int} (h : X = .error n) (hc : c = (n : Int)) (hb : Below w.heap.size w w') : ParsePost w X (.returned (.tuple #[.agg #[.slice none 0 0], .int .i64 c])) w' :=
  ⟨_, _, rfl, fun m hm => by rw [h] at hm; injection hm with hm; subst hm; exact ⟨rfl, hc⟩, fun xs hx => (by rw [h] at hx; cases hx), hb⟩

theorem below_start (w : World) : Below w.heap.size w ((w.alloc (Obj.cells #[.slice none 0 0] 25)).alloc (Obj.cells #[.slice none 0 0] 25)) :=
  ((Below.refl w.heap.size w).alloc (Nat.le_refl _) _).alloc (by simp) _

theorem parseL_3 (s : ByteArray) (h0 : s.size ≠ 0) (h4 : s.size ≤ 40000) (hby : bytesB s = true) (hh : headB s = false) : parseL s = .error 3 := by
  unfold parseL
  rw [if_neg (by omega), if_neg (by rw [hby]; simp), dif_neg (by rw [hh]; simp)]

end Go.Proofs.YtcphfhfockjljaaDoor.Msg

namespace Go.Proofs.YtcphfhfockjljaaDoor.Msg
open Go.ChangeShapes Go.WideShapes Go.ChangeAt Go.RowKit
set_option linter.unusedVariables false
set_option linter.unusedSimpArgs false

end Go.Proofs.YtcphfhfockjljaaDoor.Msg

namespace Go.Proofs.YtcphfhfockjljaaDoor.Msg
open Go.ChangeShapes Go.WideShapes Go.ChangeAt Go.RowKit
set_option linter.unusedVariables false
set_option linter.unusedSimpArgs false

theorem head_sep (s : ByteArray) (h8 : 8 < s.size) (h1 : s[8].toNat ≠ 13) (h2 : s[8].toNat ≠ s[3].toNat) : headB s = false := by
  have e8 : s.data.toList[8]? = some s[8] := by rw [List.getElem?_eq_getElem (by simpa using h8)]; rfl
  have e3 : s.data.toList[3]? = some s[3] := by rw [List.getElem?_eq_getElem (by simp; omega)]; rfl
  unfold headB
  rw [e8, e3, decide_eq_false (p := s.size ≤ 8) (by omega)]
  have a1 : (some s[8] == some (13 : UInt8)) = false := by
    rw [beq_eq_false_iff_ne]
    intro h
    injection h with h
    exact h1 (by rw [h]; rfl)
  have a2 : (some s[8] == some s[3]) = false := by
    rw [beq_eq_false_iff_ne]
    intro h
    injection h with h
    exact h2 (by rw [h])
  rw [a1, a2]
  simp

end Go.Proofs.YtcphfhfockjljaaDoor.Msg
