import Derived.Test.YtlgobalcegapmabMsgDatawithMsgSz
import Derived.Deep.Slices
import Derived.ChangeOld
import Derived.Test.YtlgobalcegapmabLawWReqwithLawWReq2
import Derived.Test.YtlgobalcegapmabShelf
import Derived.ShutString
import Derived.Lib.SmallJoins
namespace Go.Proofs.Ytlgobalcegapmab.Msg
open Go.ChangeShapes Go.WideShapes Go.ChangeAt Go.RowKit
set_option linter.unusedVariables false
set_option linter.unusedSimpArgs false

theorem choose_list {α : Type} {p : Nat → α → Prop} : ∀ (n : Nat), (∀ i, i < n → ∃ x, p i x) → ∃ xs : List α, xs.length = n ∧ ∀ i (h : i < xs.length), p i xs[i]
  | 0, _ => ⟨[], rfl, fun i h => absurd h (by simp)⟩
  | n + 1, h => by
    obtain ⟨xs, hl, hx⟩ := choose_list n fun i hi => h i (by omega)
    obtain ⟨y, hy⟩ := h n (by omega)
    refine ⟨xs ++ [y], by simp [hl], fun i hi => ?_⟩
    by_cases e : i < xs.length
    · rw [List.getElem_append_left e]; exact hx i e
    · have e2 : i = xs.length := by simp at hi; omega
      subst e2
      rw [List.getElem_append_right (Nat.le_refl _)]
      simpa [hl] using hy

theorem len_two {α : Type} {l : List α} (h : l.length = 2) : ∃ a b, l = [a, b] := by
  cases l with
  | nil => cases h
  | cons a l =>
    cases l with
    | nil => cases h
    | cons b l =>
      cases l with
      | nil => exact ⟨a, b, rfl⟩
      | cons c l => simp at h

theorem add_none (b off k : Nat) : (⟨b, off, none⟩ : Addr).add k = ⟨b, off + k, none⟩ := by
  unfold Addr.add
  split <;> simp_all

/-- A slice that was read as data is a list, where each of its elements is. -/
theorem open_at {H : Type} {enc : TypeId × Value → H} {P : Program} {w : World} {spare : Nat → Bool} {held : Bool} {t e : TypeId} {fuel : Nat} {cs : List Value} {x : DataW H × List MemPlace}
    {α : Type} {n : Nat} {R : Nat → World → Nat → Nat → α → Prop} (hn : 0 < n) (ht : P.underlying t = some (.slice e)) (hc : P.cellsOf e = n)
    (hR : ∀ (cs' : List Value) (y : DataW H × List MemPlace) (m b off : Nat), DataW.trod enc P w 0 spare held m e cs' = some y → (∀ j, j < n → w.cell? ⟨b, off + j, none⟩ = cs'[j]?) → ∃ z : α, R 0 w b off z)
    (h : DataW.trod enc P w 0 spare held fuel t cs = some x) : ∃ v xs, cs = [v] ∧ At n R 0 w v xs := by
  rcases Deep.open_slice ht h with ⟨rfl, _⟩ | ⟨a, len, cap, m, k, D, Pl, rfl, _, h1, h2, hm, _, hel⟩
  · exact ⟨_, [], rfl, by simp, .inl ⟨_, _, rfl, rfl⟩⟩
  · by_cases h0 : len = 0
    · subst h0
      exact ⟨_, [], rfl, by simp, .inl ⟨_, _, rfl, rfl⟩⟩
    · have hlm : len ≤ m := by rw [hm]; split <;> omega
      obtain ⟨b, off, spot⟩ := a
      obtain ⟨c0, g0, _⟩ := hel 0 (by omega)
      rw [hc] at g0
      obtain ⟨_, l0, k0⟩ := World.cells?_some g0
      have hb := World.cells?_block g0 hn
      have hspot : spot = none := by
        have := k0 0 hn
        cases hv : c0[0]? with
        | none => rw [List.getElem?_eq_none_iff] at hv; omega
        | some v =>
          rw [hv] at this
          simpa [Addr.add] using World.cell?_spot this
      subst hspot
      obtain ⟨xs, hl, hx⟩ := choose_list (p := fun i z => R 0 w b (off + i * n) z) len fun i hi => by
        obtain ⟨cs', g1, g2⟩ := hel i (by omega)
        rw [hc] at g1
        obtain ⟨_, l1, k1⟩ := World.cells?_some g1
        exact hR cs' _ _ b (off + i * n) g2 fun j hj => by have := k1 j hj; rw [add_none, add_none] at this; exact this
      subst hl
      refine ⟨_, xs, rfl, ?_, .inr ⟨b, off, cap, rfl, ⟨Nat.zero_le _, by simpa [Addr.add] using hb⟩, hx⟩⟩
      unfold maxLen at h2
      omega

theorem open_str {H : Type} {enc : TypeId × Value → H} {w : World} {spare : Nat → Bool} {held : Bool} {m : Nat} {cs : List Value} {y : DataW H × List MemPlace} {b off : Nat}
    (h : DataW.trod enc Try.prog w 0 spare held m 9 cs = some y) (hc : ∀ j, j < 1 → w.cell? ⟨b, off + j, none⟩ = cs[j]?) : ∃ z, StrR 0 w b off z := by
  obtain ⟨s, rfl, _, hs⟩ := DataW.trod_string Try.underlying9 h
  unfold maxLen at hs
  exact ⟨s, by simpa using hc 0 (by omega), by omega⟩

theorem cells_string : Try.prog.cellsOf 9 = 1 := by kernel_rfl
theorem cells_Rep : Try.prog.cellsOf 176 = 1 := by kernel_rfl
theorem cells_Field : Try.prog.cellsOf 158 = 1 := by kernel_rfl
theorem cells_Seg : Try.prog.cellsOf 122 = 2 := by kernel_rfl
theorem cells_Msg : Try.prog.cellsOf 38 = 1 := by kernel_rfl
theorem cells_strs : Try.prog.cellsOf 57 = 1 := by kernel_rfl
theorem cells_reps : Try.prog.cellsOf 156 = 1 := by kernel_rfl
theorem cells_fields : Try.prog.cellsOf 120 = 1 := by kernel_rfl
theorem cells_segs : Try.prog.cellsOf 36 = 1 := by kernel_rfl

section
variable {H : Type} {enc : TypeId × Value → H} {w : World} {spare : Nat → Bool} {held : Bool}

theorem open_strs' {m : Nat} {cs : List Value} {y : DataW H × List MemPlace} (h : DataW.trod enc Try.prog w 0 spare held m 57 cs = some y) : ∃ v xs, cs = [v] ∧ StrsAt 0 w v xs :=
  open_at (by omega) Try.underlying57 cells_string (fun _ _ _ _ _ h1 h2 => open_str h1 h2) h

/-- a struct of one cell whose field is a slice -/
theorem open_one {t u : TypeId} {f0 : Go.Field} (ht : Try.prog.underlying t = some (.struct #[f0])) (h0 : f0.type = u) (ho : f0.offset = 0) (hc : Try.prog.cellsOf t = 1) (hu : Try.prog.cellsOf u = 1)
    {m : Nat} {cs : List Value} {y : DataW H × List MemPlace} (h : DataW.trod enc Try.prog w 0 spare held m t cs = some y) :
    ∃ n y0, cs.length = 1 ∧ DataW.trod enc Try.prog w 0 spare held n u cs = some y0 := by
  obtain ⟨y0, n, _, hl, h1⟩ := trod_struct1 ht h
  rw [hc] at hl
  subst h0
  rw [ho, hu, List.drop_zero, List.take_of_length_le (by omega)] at h1
  exact ⟨n, y0, hl, h1⟩

theorem open_rep {m b off : Nat} {cs : List Value} {y : DataW H × List MemPlace} (h : DataW.trod enc Try.prog w 0 spare held m 176 cs = some y) (hc : ∀ j, j < 1 → w.cell? ⟨b, off + j, none⟩ = cs[j]?) : ∃ z, RepR 0 w b off z := by
  obtain ⟨n, y0, hl, h1⟩ := open_one Try.underlying176 (u := 57) rfl rfl cells_Rep cells_strs h
  obtain ⟨v, xs, rfl, hx⟩ := open_strs' h1
  exact ⟨xs, v, by simpa using hc 0 (by omega), hx⟩

theorem open_reps {m : Nat} {cs : List Value} {y : DataW H × List MemPlace} (h : DataW.trod enc Try.prog w 0 spare held m 156 cs = some y) : ∃ v xs, cs = [v] ∧ RepsAt 0 w v xs :=
  open_at (by omega) Try.underlying156 cells_Rep (fun _ _ _ _ _ h1 h2 => open_rep h1 h2) h

theorem open_field {m b off : Nat} {cs : List Value} {y : DataW H × List MemPlace} (h : DataW.trod enc Try.prog w 0 spare held m 158 cs = some y) (hc : ∀ j, j < 1 → w.cell? ⟨b, off + j, none⟩ = cs[j]?) : ∃ z, FieldR 0 w b off z := by
  obtain ⟨n, y0, hl, h1⟩ := open_one Try.underlying158 (u := 156) rfl rfl cells_Field cells_reps h
  obtain ⟨v, xs, rfl, hx⟩ := open_reps h1
  exact ⟨xs, v, by simpa using hc 0 (by omega), hx⟩

theorem open_fields {m : Nat} {cs : List Value} {y : DataW H × List MemPlace} (h : DataW.trod enc Try.prog w 0 spare held m 120 cs = some y) : ∃ v xs, cs = [v] ∧ FieldsAt 0 w v xs :=
  open_at (by omega) Try.underlying120 cells_Field (fun _ _ _ _ _ h1 h2 => open_field h1 h2) h

theorem open_seg {m b off : Nat} {cs : List Value} {y : DataW H × List MemPlace} (h : DataW.trod enc Try.prog w 0 spare held m 122 cs = some y) (hc : ∀ j, j < 2 → w.cell? ⟨b, off + j, none⟩ = cs[j]?) : ∃ z, SegR 0 w b off z := by
  obtain ⟨y0, y1, n, _, hl, h0, h1⟩ := trod_struct2 Try.underlying122 h
  rw [cells_Seg] at hl
  obtain ⟨c0, c1, rfl⟩ := len_two hl
  have h0' : DataW.trod enc Try.prog w 0 spare held n 9 [c0] = some y0 := by
    rw [show Try.prog.cellsOf _ = 1 from cells_string] at h0
    exact h0
  have h1' : DataW.trod enc Try.prog w 0 spare held n 120 [c1] = some y1 := by
    rw [show Try.prog.cellsOf _ = 1 from cells_fields] at h1
    exact h1
  obtain ⟨s, e0, _, hs⟩ := DataW.trod_string Try.underlying9 h0'
  obtain ⟨v, xs, e1, hx⟩ := open_fields h1'
  simp only [List.cons.injEq, and_true] at e0 e1
  subst e0 e1
  unfold maxLen at hs
  have hs' : s.size ≤ 9223372036854775807 := by omega
  exact ⟨⟨s, xs⟩, by simpa using hc 0 (by omega), hs', c1, by simpa using hc 1 (by omega), hx⟩

theorem open_segs {m : Nat} {cs : List Value} {y : DataW H × List MemPlace} (h : DataW.trod enc Try.prog w 0 spare held m 36 cs = some y) : ∃ v xs, cs = [v] ∧ SegsAt 0 w v xs :=
  open_at (by omega) Try.underlying36 cells_Seg (fun _ _ _ _ _ h1 h2 => open_seg h1 h2) h

theorem open_msg {m : Nat} {cs : List Value} {y : DataW H × List MemPlace} (h : DataW.trod enc Try.prog w 0 spare held m 38 cs = some y) : ∃ v xs, cs = [v] ∧ SegsAt 0 w v xs := by
  obtain ⟨n, y0, hl, h1⟩ := open_one Try.underlying38 (u := 36) rfl rfl cells_Msg cells_segs h
  exact open_segs h1
end
end Go.Proofs.Ytlgobalcegapmab.Msg

namespace Go.Proofs.Ytlgobalcegapmab.rowWriteRequest
open Go.Proofs.Ytlgobalcegapmab.Msg
open Go.ChangeShapes Go.WideShapes Go.ChangeAt Go.RowKit
set_option linter.unusedVariables false

theorem own : ownKnob Try.prog.godebug = none := by kernel_rfl
theorem laidOut : laidOutB Try.prog = true := by kernel_rfl
theorem cells_Req : Try.prog.cellsOf 50 = 6 := by kernel_rfl
theorem cells_int : Try.prog.cellsOf 3 = 1 := by kernel_rfl
theorem cells_str : Try.prog.cellsOf 9 = 1 := by kernel_rfl

theorem len_six {α : Type} {l : List α} (h : l.length = 6) : ∃ a b c d e f, l = [a, b, c, d, e, f] := by
  match l, h with
  | [a, b, c, d, e, f], _ => exact ⟨a, b, c, d, e, f, rfl⟩

section
variable {H : Type} {enc : TypeId × Value → H} {w : World} {spare : Nat → Bool} {held : Bool}
theorem open_req {m : Nat} {cs : List Value} {y : DataW H × List MemPlace} (h : DataW.trod enc Try.prog w 0 spare held m 50 cs = some y) :
    ∃ (r : Req), cs = [.int .i64 r.kind, .string r.control, .string r.tag, .string r.query, .int .i64 r.page, .string r.pointer] ∧ r.control.size ≤ 9223372036854775807 ∧ r.tag.size ≤ 9223372036854775807 ∧ r.query.size ≤ 9223372036854775807 ∧ r.pointer.size ≤ 9223372036854775807 := by
  obtain ⟨xs, n, _, rfl, hl, hlen, hf⟩ := DataW.trod_struct Try.underlying50 h
  rw [cells_Req] at hl
  obtain ⟨c0, c1, c2, c3, c4, c5, rfl⟩ := len_six hl
  match xs, hlen with
  | [y0, y1, y2, y3, y4, y5], _ =>
    have h0 : DataW.trod enc Try.prog w 0 spare held n 3 [c0] = some y0 := by have h : DataW.trod enc Try.prog w 0 spare held n 3 (([c0, c1, c2, c3, c4, c5].drop 0).take (Try.prog.cellsOf 3)) = _ := hf 0 _ rfl; rw [cells_int] at h; simpa using h
    have h1 : DataW.trod enc Try.prog w 0 spare held n 9 [c1] = some y1 := by have h : DataW.trod enc Try.prog w 0 spare held n 9 (([c0, c1, c2, c3, c4, c5].drop 1).take (Try.prog.cellsOf 9)) = _ := hf 1 _ rfl; rw [cells_str] at h; simpa using h
    have h2 : DataW.trod enc Try.prog w 0 spare held n 9 [c2] = some y2 := by have h : DataW.trod enc Try.prog w 0 spare held n 9 (([c0, c1, c2, c3, c4, c5].drop 2).take (Try.prog.cellsOf 9)) = _ := hf 2 _ rfl; rw [cells_str] at h; simpa using h
    have h3 : DataW.trod enc Try.prog w 0 spare held n 9 [c3] = some y3 := by have h : DataW.trod enc Try.prog w 0 spare held n 9 (([c0, c1, c2, c3, c4, c5].drop 3).take (Try.prog.cellsOf 9)) = _ := hf 3 _ rfl; rw [cells_str] at h; simpa using h
    have h4 : DataW.trod enc Try.prog w 0 spare held n 3 [c4] = some y4 := by have h : DataW.trod enc Try.prog w 0 spare held n 3 (([c0, c1, c2, c3, c4, c5].drop 4).take (Try.prog.cellsOf 3)) = _ := hf 4 _ rfl; rw [cells_int] at h; simpa using h
    have h5 : DataW.trod enc Try.prog w 0 spare held n 9 [c5] = some y5 := by have h : DataW.trod enc Try.prog w 0 spare held n 9 (([c0, c1, c2, c3, c4, c5].drop 5).take (Try.prog.cellsOf 9)) = _ := hf 5 _ rfl; rw [cells_str] at h; simpa using h
    obtain ⟨k, e0, _⟩ := DataW.trod_int Try.underlying3 h0
    obtain ⟨s1, e1, _, z1⟩ := DataW.trod_string Try.underlying9 h1
    obtain ⟨s2, e2, _, z2⟩ := DataW.trod_string Try.underlying9 h2
    obtain ⟨s3, e3, _, z3⟩ := DataW.trod_string Try.underlying9 h3
    obtain ⟨p, e4, _⟩ := DataW.trod_int Try.underlying3 h4
    obtain ⟨s5, e5, _, z5⟩ := DataW.trod_string Try.underlying9 h5
    simp only [List.cons.injEq, and_true] at e0 e1 e2 e3 e4 e5
    subst e0 e1 e2 e3 e4 e5
    unfold maxLen at z1 z2 z3 z5
    exact ⟨⟨k, s1, s2, s3, p, s5⟩, rfl, by simp only; omega, by simp only; omega, by simp only; omega, by simp only; omega⟩
end

set_option maxRecDepth 100000 in
theorem lifted (os : Os) (started : os.Started) (H : Type) (enc : TypeId × Value → H) :
    ReturnsInHanded {} Try.checked os 7 .any (Rows.fnExactWriteRequestSpec.pre6 enc Try.prog Try.f7 Rows.fnExactWriteRequestRow.domain false) (Rows.fnExactWriteRequestSpec.post enc Try.prog Try.f7 false true false false) := by
  refine returnsInHanded_of_change (C := Try.checked) own started (by kernel_rfl) Try.func7
    (ChangeSpec.witness6 (enc := enc) (C := Try.checked) false ⟨#[], #[.agg #[.int .i64 0, .string ⟨#[]⟩, .string ⟨#[]⟩, .string ⟨#[]⟩, .int .i64 0, .string ⟨#[]⟩]], []⟩ 8 (by kernel_rfl) (by kernel_rfl) (by kernel_rfl) (by kernel_rfl)) ?_
  intro W base args ds gs before hval0 hW hcnd _
  have hval : ∀ (j : Nat) t v, Try.f7.params[j]? = some t → args[j]? = some v → Value.okWide Try.prog W .any base t v := hval0
  have hW' := hW
  obtain ⟨p, q, hA0, hV, rfl, hfz, hnd⟩ := hW
  have hA : DataW.TrodAll enc Try.prog W 0 (fun _ => true) true Try.f7.params.toList args.toList ds p := hA0
  rw [Try.params7] at hA hval
  obtain ⟨v0, vs0, d0, ds0, p0, q0, hargs, rfl, rfl, h0, r0⟩ := trodAll_cons hA
  obtain ⟨rfl, rfl, rfl⟩ := trodAll_nil r0
  obtain rfl : args = #[v0] := by cases args; simp_all
  obtain ⟨rfl, rfl⟩ := trodVars_none hV
  have k0 := h0
  have lt0 : ∀ x ∈ p0, x.block < W.heap.size := by obtain ⟨m, hm⟩ := k0; exact DataW.trod_lt m _ _ _ hm
  obtain ⟨r, rfl, g1, g2, g3, g4⟩ : ∃ r : Req, v0 = reqV r ∧ r.control.size ≤ 9223372036854775807 ∧ r.tag.size ≤ 9223372036854775807 ∧ r.query.size ≤ 9223372036854775807 ∧ r.pointer.size ≤ 9223372036854775807 := by
    obtain ⟨cs, rfl, hsz⟩ := okWide_struct Try.underlying50 (hval 0 50 v0 rfl rfl)
    obtain ⟨fuel, hf⟩ := h0
    obtain ⟨r, hcs, g1, g2, g3, g4⟩ := open_req hf
    refine ⟨r, ?_, g1, g2, g3, g4⟩
    unfold reqV
    congr 1
    simp only [Value.cells] at hcs
    cases cs
    simp_all
  clear hA0 hval0
  refine (lawWReq r W g1 g2 g3 g4 (fun u hu W => Try.strconv_Itoa_small u hu W)).mono fun e W' ⟨he, bel⟩ => ?_
  subst he
  exact ⟨_, rfl, _, _, _, [], _, [], hW', trodAll_mk1 (shut_bool Try.underlying4 _), (trodAll_cons_mk (Below.trod laidOut (by kernel_rfl) (of_decide_eq_true (by kernel_rfl)) k0 bel lt0) trodAll_mk0), rfl, bel.frame _, fun h => by cases h⟩

theorem over : Rows.fnExactWriteRequestRow.holds Try.pinned (OpenSpec.ofChange Rows.fnExactWriteRequestSpec) :=
  OpenClaim.holds_of_wide 7 Try.f7 rfl rfl rfl rfl rfl rfl rfl ⟨rfl, rfl, rfl, rfl, rfl⟩ rfl rfl rfl rfl rfl (by kernel_rfl) Try.func7 (by kernel_rfl)
    (of_decide_eq_true (by kernel_rfl)) (by unfold Func.isWrapper; first | (rw [if_pos (by decide +kernel)]; kernel_rfl) | (rw [if_neg (by decide +kernel)]; exact ⟨rfl, rfl⟩))
    (fun os started H enc _ => lifted os started H enc)
end Go.Proofs.Ytlgobalcegapmab.rowWriteRequest
namespace Go.Proofs.Ytlgobalcegapmab
theorem fnExactWriteRequest_holds : Rows.FnExactWriteRequestSaid := rowWriteRequest.over
#print axioms fnExactWriteRequest_holds
end Go.Proofs.Ytlgobalcegapmab
