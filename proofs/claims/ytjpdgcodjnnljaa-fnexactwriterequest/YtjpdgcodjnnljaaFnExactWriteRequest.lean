import Derived.Test.YtjpdgcodjnnljaaLawWReqwithLawWReq2
import Derived.Test.YtjpdgcodjnnljaaMsgOpen
import Derived.Test.YtjpdgcodjnnljaaShelf
import Derived.ShutString
import Derived.ChangeOld
import Derived.Lib.SmallJoins
namespace Go.Proofs.Ytjpdgcodjnnljaa.rowWriteRequest
open Go.Proofs.Ytjpdgcodjnnljaa.Msg
open Go.ChangeShapes Go.WideShapes Go.ChangeAt Go.RowKit
set_option linter.unusedVariables false

theorem own : ownKnob Try.prog.godebug = none := by kernel_rfl
theorem laidOut : laidOutB Try.prog = true := by kernel_rfl
theorem cells_Req : Try.prog.cellsOf 62 = 6 := by kernel_rfl
theorem cells_int : Try.prog.cellsOf 3 = 1 := by kernel_rfl
theorem cells_str : Try.prog.cellsOf 9 = 1 := by kernel_rfl

theorem len_six {α : Type} {l : List α} (h : l.length = 6) : ∃ a b c d e f, l = [a, b, c, d, e, f] := by
  match l, h with
  | [a, b, c, d, e, f], _ => exact ⟨a, b, c, d, e, f, rfl⟩

section
variable {H : Type} {enc : TypeId × Value → H} {w : World} {spare : Nat → Bool} {held : Bool}
theorem open_req {m : Nat} {cs : List Value} {y : DataW H × List MemPlace} (h : DataW.trod enc Try.prog w 0 spare held m 62 cs = some y) :
    ∃ (r : Req), cs = [.int .i64 r.kind, .string r.control, .string r.tag, .string r.query, .int .i64 r.page, .string r.pointer] ∧ r.control.size ≤ 9223372036854775807 ∧ r.tag.size ≤ 9223372036854775807 ∧ r.query.size ≤ 9223372036854775807 ∧ r.pointer.size ≤ 9223372036854775807 := by
  obtain ⟨xs, n, _, rfl, hl, hlen, hf⟩ := DataW.trod_struct Try.underlying62 h
  rw [cells_Req] at hl
  obtain ⟨c0, c1, c2, c3, c4, c5, rfl⟩ := len_six hl
  match xs, hlen with
  | [y0, y1, y2, y3, y4, y5], _ =>
    have h0 : DataW.trod enc Try.prog w 0 spare held n 3 [c0] = some y0 := by have h : DataW.trod enc Try.prog w 0 spare held n 3 (([c0, c1, c2, c3, c4, c5].drop 0).take (Try.prog.cellsOf 3)) = _ := hf 0 _ rfl; rw [cells_int] at h; simpa using h
    have h1 : DataW.trod enc Try.prog w 0 spare held n 9 [c1] = some y1 := by have h : DataW.trod enc Try.prog w 0 spare held n 9 (([c0, c1, c2, c3, c4, c5].drop 1).take (Try.prog.cellsOf 9)) = _ := hf 1 _ rfl; rw [cells_str] at h; simpa using h
    have h2 : DataW.trod enc Try.prog w 0 spare held n 9 [c2] = some y2 := by have h : DataW.trod enc Try.prog w 0 spare held n 9 (([c0, c1, c2, c3, c4, c5].drop 2).take (Try.prog.cellsOf 9)) = _ := hf 2 _ rfl; rw [cells_str] at h; simpa using h
    have h3 : DataW.trod enc Try.prog w 0 spare held n 9 [c3] = some y3 := by have h : DataW.trod enc Try.prog w 0 spare held n 9 (([c0, c1, c2, c3, c4, c5].drop 3).take (Try.prog.cellsOf 9)) = _ := hf 3 _ rfl; rw [cells_str] at h; simpa using h
    have h4 : DataW.trod enc Try.prog w 0 spare held n 3 [c4] = some y4 := by have h : DataW.trod enc Try.prog w 0 spare held n 3 (([c0, c1, c2, c3, c4, c5].drop 4).take (Try.prog.cellsOf 3)) = _ := hf 4 _ rfl; rw [cells_int] at h; simpa using h
    have h5 : DataW.trod enc Try.prog w 0 spare held n 9 [c5] = some y5 := by have h : DataW.trod enc Try.prog w 0 spare held n 9 (([c0, c1, c2, c3, c4, c5].drop 5).take (Try.prog.cellsOf 9)) = _ := hf 5 _ rfl; rw [cells_str] at h; simpa using h
    obtain ⟨k, e0, _⟩ := DataW.trod_int Try.underlying3 h0
    obtain ⟨s1, e1, _, z1⟩ := DataW.trod_string Try.underlying9 h1
    obtain ⟨s2, e2, _, z2⟩ := DataW.trod_string Try.underlying9 h2
    obtain ⟨s3, e3, _, z3⟩ := DataW.trod_string Try.underlying9 h3
    obtain ⟨p, e4, _⟩ := DataW.trod_int Try.underlying3 h4
    obtain ⟨s5, e5, _, z5⟩ := DataW.trod_string Try.underlying9 h5
    simp only [List.cons.injEq, and_true] at e0 e1 e2 e3 e4 e5
    subst e0 e1 e2 e3 e4 e5
    unfold maxLen at z1 z2 z3 z5
    exact ⟨⟨k, s1, s2, s3, p, s5⟩, rfl, by simp only; omega, by simp only; omega, by simp only; omega, by simp only; omega⟩
end

set_option maxRecDepth 100000 in
theorem lifted (os : Os) (started : os.Started) (H : Type) (enc : TypeId × Value → H) :
    ReturnsInHanded {} Try.checked os 8 .any (Rows.fnExactWriteRequestSpec.pre6 enc Try.prog Try.f8 Rows.fnExactWriteRequestRow.domain false) (Rows.fnExactWriteRequestSpec.post enc Try.prog Try.f8 false true false false) := by
  refine returnsInHanded_of_change (C := Try.checked) own started (by kernel_rfl) Try.func8
    (ChangeSpec.witness6 (enc := enc) (C := Try.checked) false ⟨#[], #[.agg #[.int .i64 0, .string ⟨#[]⟩, .string ⟨#[]⟩, .string ⟨#[]⟩, .int .i64 0, .string ⟨#[]⟩]], []⟩ 8 (by kernel_rfl) (by kernel_rfl) (by kernel_rfl) (by kernel_rfl)) ?_
  intro W base args ds gs before hval0 hW hcnd _
  have hval : ∀ (j : Nat) t v, Try.f8.params[j]? = some t → args[j]? = some v → Value.okWide Try.prog W .any base t v := hval0
  have hW' := hW
  obtain ⟨p, q, hA0, hV, rfl, hfz, hnd⟩ := hW
  have hA : DataW.TrodAll enc Try.prog W 0 (fun _ => true) true Try.f8.params.toList args.toList ds p := hA0
  rw [Try.params8] at hA hval
  obtain ⟨v0, vs0, d0, ds0, p0, q0, hargs, rfl, rfl, h0, r0⟩ := trodAll_cons hA
  obtain ⟨rfl, rfl, rfl⟩ := trodAll_nil r0
  obtain rfl : args = #[v0] := by cases args; simp_all
  obtain ⟨rfl, rfl⟩ := trodVars_none hV
  have k0 := h0
  have lt0 : ∀ x ∈ p0, x.block < W.heap.size := by obtain ⟨m, hm⟩ := k0; exact DataW.trod_lt m _ _ _ hm
  obtain ⟨r, rfl, g1, g2, g3, g4⟩ : ∃ r : Req, v0 = reqV r ∧ r.control.size ≤ 9223372036854775807 ∧ r.tag.size ≤ 9223372036854775807 ∧ r.query.size ≤ 9223372036854775807 ∧ r.pointer.size ≤ 9223372036854775807 := by
    obtain ⟨cs, rfl, hsz⟩ := okWide_struct Try.underlying62 (hval 0 62 v0 rfl rfl)
    obtain ⟨fuel, hf⟩ := h0
    obtain ⟨r, hcs, g1, g2, g3, g4⟩ := open_req hf
    refine ⟨r, ?_, g1, g2, g3, g4⟩
    unfold reqV
    congr 1
    simp only [Value.cells] at hcs
    cases cs
    simp_all
  clear hA0 hval0
  refine (lawWReq r W g1 g2 g3 g4 (fun u hu W => Try.strconv_Itoa_small u hu W)).mono fun e W' ⟨he, bel⟩ => ?_
  subst he
  exact ⟨_, rfl, _, _, _, [], _, [], hW', trodAll_mk1 (shut_bool Try.underlying4 _), (trodAll_cons_mk (Below.trod laidOut (by kernel_rfl) (of_decide_eq_true (by kernel_rfl)) k0 bel lt0) trodAll_mk0), rfl, bel.frame _, fun h => by cases h⟩

theorem over : Rows.fnExactWriteRequestRow.holds Try.pinned (OpenSpec.ofChange Rows.fnExactWriteRequestSpec) :=
  OpenClaim.holds_of_wide 8 Try.f8 rfl rfl rfl rfl rfl rfl rfl ⟨rfl, rfl, rfl, rfl, rfl⟩ rfl rfl rfl rfl rfl (by kernel_rfl) Try.func8 (by kernel_rfl)
    (of_decide_eq_true (by kernel_rfl)) (by unfold Func.isWrapper; first | (rw [if_pos (by decide +kernel)]; kernel_rfl) | (rw [if_neg (by decide +kernel)]; exact ⟨rfl, rfl⟩))
    (fun os started H enc _ => lifted os started H enc)
end Go.Proofs.Ytjpdgcodjnnljaa.rowWriteRequest
namespace Go.Proofs.Ytjpdgcodjnnljaa
theorem fnExactWriteRequest_holds : Rows.FnExactWriteRequestSaid := rowWriteRequest.over
#print axioms fnExactWriteRequest_holds
end Go.Proofs.Ytjpdgcodjnnljaa
