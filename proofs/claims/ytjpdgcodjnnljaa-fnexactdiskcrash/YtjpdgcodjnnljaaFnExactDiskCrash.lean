import Derived.Test.YtjpdgcodjnnljaaLawCrash2
import Derived.Test.YtjpdgcodjnnljaaMsgOpen
import Derived.ShutString
import Derived.ChangeOld
import Derived.Lib.SmallJoins
namespace Go.Proofs.Ytjpdgcodjnnljaa.rowDiskCrash
open Go.Proofs.Ytjpdgcodjnnljaa.Msg
open Go.ChangeShapes Go.WideShapes Go.ChangeAt Go.RowKit
set_option linter.unusedVariables false

theorem own : ownKnob Try.prog.godebug = none := by kernel_rfl
theorem laidOut : laidOutB Try.prog = true := by kernel_rfl
theorem cells_Disk : Try.prog.cellsOf 70 = 2 := by kernel_rfl
theorem cells_int : Try.prog.cellsOf 3 = 1 := by kernel_rfl
theorem cells_str : Try.prog.cellsOf 9 = 1 := by kernel_rfl

section
variable {H : Type} {enc : TypeId × Value → H} {w : World} {spare : Nat → Bool} {held : Bool}
theorem open_num {m b off : Nat} {cs : List Value} {y : DataW H × List MemPlace} (h : DataW.trod enc Try.prog w 0 spare held m 3 cs = some y) (hc : ∀ j, j < 1 → w.cell? ⟨b, off + j, none⟩ = cs[j]?) : ∃ z, IntR 0 w b off z := by
  obtain ⟨k, rfl, _⟩ := DataW.trod_int Try.underlying3 h
  exact ⟨k, by unfold IntR; simpa using hc 0 (by omega)⟩
theorem open_ints {m : Nat} {cs : List Value} {y : DataW H × List MemPlace} (h : DataW.trod enc Try.prog w 0 spare held m 25 cs = some y) : ∃ v xs, cs = [v] ∧ IntsAt 0 w v xs :=
  open_at (by omega) Try.underlying25 cells_int (fun _ _ _ _ _ h1 h2 => open_num h1 h2) h
theorem open_disk {m : Nat} {cs : List Value} {y : DataW H × List MemPlace} (h : DataW.trod enc Try.prog w 0 spare held m 70 cs = some y) :
    ∃ S N : ByteArray, cs = [.string S, .string N] ∧ S.size ≤ 9223372036854775807 ∧ N.size ≤ 9223372036854775807 := by
  obtain ⟨y0, y1, n, _, hl, h0, h1⟩ := trod_struct2 Try.underlying70 h
  rw [cells_Disk] at hl
  obtain ⟨c0, c1, rfl⟩ := len_two hl
  have h0' : DataW.trod enc Try.prog w 0 spare held n 9 [c0] = some y0 := by
    rw [show Try.prog.cellsOf _ = 1 from cells_str] at h0
    exact h0
  have h1' : DataW.trod enc Try.prog w 0 spare held n 9 [c1] = some y1 := by
    rw [show Try.prog.cellsOf _ = 1 from cells_str] at h1
    exact h1
  obtain ⟨s0, e0, _, z0⟩ := DataW.trod_string Try.underlying9 h0'
  obtain ⟨s1, e1, _, z1⟩ := DataW.trod_string Try.underlying9 h1'
  simp only [List.cons.injEq, and_true] at e0 e1
  subst e0 e1
  unfold maxLen at z0 z1
  exact ⟨s0, s1, rfl, by omega, by omega⟩
end

set_option maxRecDepth 100000 in
theorem lifted (os : Os) (started : os.Started) (H : Type) (enc : TypeId × Value → H) :
    ReturnsInHanded {} Try.checked os 11 .any (Rows.fnExactDiskCrashSpec.pre6 enc Try.prog Try.f11 Rows.fnExactDiskCrashRow.domain false) (Rows.fnExactDiskCrashSpec.post enc Try.prog Try.f11 false true false false) := by
  refine returnsInHanded_of_change (C := Try.checked) own started (by kernel_rfl) Try.func11
    (ChangeSpec.witness6 (enc := enc) (C := Try.checked) false ⟨#[], #[.agg #[.string ⟨#[]⟩, .string ⟨#[]⟩], .slice none 0 0], []⟩ 8 (by kernel_rfl) (by kernel_rfl) (by kernel_rfl) (by kernel_rfl)) ?_
  intro W base args ds gs before hval0 hW hcnd _
  have hval : ∀ (j : Nat) t v, Try.f11.params[j]? = some t → args[j]? = some v → Value.okWide Try.prog W .any base t v := hval0
  have hW' := hW
  obtain ⟨p, q, hA0, hV, rfl, hfz, hnd⟩ := hW
  have hA : DataW.TrodAll enc Try.prog W 0 (fun _ => true) true Try.f11.params.toList args.toList ds p := hA0
  rw [Try.params11] at hA hval
  obtain ⟨v0, vs0, d0, ds0, p0, q0, hargs, rfl, rfl, h0, r0⟩ := trodAll_cons hA
  obtain ⟨v1, vs1, d1, ds1, p1, q1, rfl, rfl, rfl, h1, r1⟩ := trodAll_cons r0
  obtain ⟨rfl, rfl, rfl⟩ := trodAll_nil r1
  obtain rfl : args = #[v0, v1] := by cases args; simp_all
  obtain ⟨rfl, rfl⟩ := trodVars_none hV
  have k0 := h0
  have k1 := h1
  have lt0 : ∀ x ∈ p0, x.block < W.heap.size := by obtain ⟨m, hm⟩ := k0; exact DataW.trod_lt m _ _ _ hm
  have lt1 : ∀ x ∈ p1, x.block < W.heap.size := by obtain ⟨m, hm⟩ := k1; exact DataW.trod_lt m _ _ _ hm
  obtain ⟨S, N, rfl, g1, g2⟩ : ∃ S N : ByteArray, v0 = diskV S N ∧ S.size ≤ 9223372036854775807 ∧ N.size ≤ 9223372036854775807 := by
    obtain ⟨cs, rfl, hsz⟩ := okWide_struct Try.underlying70 (hval 0 70 v0 rfl rfl)
    obtain ⟨fuel, hf⟩ := h0
    obtain ⟨S, N, hcs, g1, g2⟩ := open_disk hf
    refine ⟨S, N, ?_, g1, g2⟩
    unfold diskV
    congr 1
    simp only [Value.cells] at hcs
    cases cs
    simp_all
  obtain ⟨xs, hx⟩ : ∃ xs, IntsAt 0 W v1 xs := by
    obtain ⟨fuel, hf⟩ := h1
    obtain ⟨v, xs, hcs, hx⟩ := open_ints hf
    obtain ⟨a, l, c, rfl⟩ := okWide_slice Try.underlying25 (hval 1 25 v1 rfl rfl)
    simp only [Value.cells, List.cons.injEq, and_true] at hcs
    subst hcs
    exact ⟨xs, hx⟩
  clear hA0 hval0
  refine (lawCrash S N xs v1 W hx g1 g2).mono fun e W' ⟨he, bel⟩ => ?_
  subst he
  exact ⟨_, rfl, _, _, _, [], _, [], hW', trodAll_mk1 (shut_bool Try.underlying4 _), (trodAll_cons_mk (Below.trod laidOut (by kernel_rfl) (of_decide_eq_true (by kernel_rfl)) k0 bel lt0) (trodAll_cons_mk (Below.trod laidOut (by kernel_rfl) (of_decide_eq_true (by kernel_rfl)) k1 bel lt1) trodAll_mk0)), rfl, bel.frame _, fun h => by cases h⟩

theorem over : Rows.fnExactDiskCrashRow.holds Try.pinned (OpenSpec.ofChange Rows.fnExactDiskCrashSpec) :=
  OpenClaim.holds_of_wide 11 Try.f11 rfl rfl rfl rfl rfl rfl rfl ⟨rfl, rfl, rfl, rfl, rfl⟩ rfl rfl rfl rfl rfl (by kernel_rfl) Try.func11 (by kernel_rfl)
    (of_decide_eq_true (by kernel_rfl)) (by unfold Func.isWrapper; first | (rw [if_pos (by decide +kernel)]; kernel_rfl) | (rw [if_neg (by decide +kernel)]; exact ⟨rfl, rfl⟩))
    (fun os started H enc _ => lifted os started H enc)
end Go.Proofs.Ytjpdgcodjnnljaa.rowDiskCrash
namespace Go.Proofs.Ytjpdgcodjnnljaa
theorem fnExactDiskCrash_holds : Rows.FnExactDiskCrashSaid := rowDiskCrash.over
#print axioms fnExactDiskCrash_holds
end Go.Proofs.Ytjpdgcodjnnljaa
