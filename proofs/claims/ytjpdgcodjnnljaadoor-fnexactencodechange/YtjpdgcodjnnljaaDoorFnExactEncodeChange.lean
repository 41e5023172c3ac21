import Derived.Test.YtjpdgcodjnnljaaDoorChgEncLaw
import Derived.Test.YtjpdgcodjnnljaaDoorMsgOpen
import Derived.Test.YtjpdgcodjnnljaaDoorTie
import Derived.Test.YtjpdgcodjnnljaaDoorCards
import Derived.ProofKit
import Derived.LaidMore
import Derived.Lay
import Derived.LaidLaws
import Derived.MakeChecks
import Derived.SevenTiedAt
import Derived.Stop.Joined
import Derived.Lib.LaidTab
namespace Go.Proofs.YtjpdgcodjnnljaaDoor.rowEncodeChange
open Go.Proofs.YtjpdgcodjnnljaaDoor.Msg
open Go.ChangeShapes Go.WideShapes Go.ChangeAt Go.RowKit
set_option linter.unusedVariables false

theorem own : ownKnob Tryd.prog.godebug = none := by kernel_rfl
theorem laidOut : laidOutB Tryd.prog = true := by kernel_rfl
theorem tTab : (Tryd.prog.globals[0]?).map (·.type) = some 123 := by kernel_rfl
theorem tabE : (Rows.laid_internal_strconv_uint64pow10 : DataW Unit) = Lib.tabData .u64 Lib.pow10Tab := by kernel_rfl
theorem laidE : Rows.fnExactEncodeChangeRow.laid = [("math/bits.deBruijn32tab", Rows.laid_math_bits_deBruijn32tab), ("math/bits.deBruijn64tab", Rows.laid_math_bits_deBruijn64tab), ("internal/strconv.uint64pow10", Rows.laid_internal_strconv_uint64pow10)] := rfl
theorem arr_of {a : Array Value} {l : List Value} (h : a.toList = l) : a = l.toArray := by cases a; simp_all
theorem of_laid {W : World} (h : laidMetH Tryd.prog Rows.fnExactEncodeChangeRow.laid W) : TabW W := by
  rw [MakeChecks.laidMetH_plain _ _ _ (by kernel_rfl), laidE] at h
  obtain ⟨ps, ⟨g1, t1, cs1, f1, p1, q1, _, _, _, _, ⟨g2, t2, cs2, f2, p2, q2, _, _, _, _, ⟨g3, t3, cs3, f3, p3, q3, hg3, ht3, hv3, hd3, _, _⟩, _⟩, _⟩, _⟩ := h
  obtain rfl : g3 = 0 := Option.some.inj (hg3.symm.trans tabG)
  obtain rfl : t3 = 123 := Option.some.inj (ht3.symm.trans tTab)
  rw [tabE] at hd3
  have e3 := Lib.cells_of_tab Tryd.underlying123 Tryd.underlying109 (by kernel_rfl) (by kernel_rfl) hd3
  rw [arr_of e3] at hv3
  exact hv3

theorem cells_Chg : Tryd.prog.cellsOf 32 = 7 := by kernel_rfl
theorem cells_int : Tryd.prog.cellsOf 3 = 1 := by kernel_rfl
theorem cells_str : Tryd.prog.cellsOf 9 = 1 := by kernel_rfl
theorem len_seven {α : Type} {l : List α} (h : l.length = 7) : ∃ a b c d e f g, l = [a, b, c, d, e, f, g] := by
  match l, h with
  | [a, b, c, d, e, f, g], _ => exact ⟨a, b, c, d, e, f, g, rfl⟩

section
variable {H : Type} {enc : TypeId × Value → H} {w : World} {spare : Nat → Bool} {held : Bool}
theorem open_chg {m : Nat} {cs : List Value} {y : DataW H × List MemPlace} (h : DataW.trod enc Tryd.prog w 0 spare held m 32 cs = some y) :
    ∃ (c : Chg) (v : Value), cs = [.int .i64 c.kind, .int .i64 c.client, .string c.tag, .string c.query, .int .i64 c.page, v, .int .i64 c.n] ∧ c.tag.size ≤ 9223372036854775807 ∧ c.query.size ≤ 9223372036854775807 ∧ StrsAt 0 w v c.rows := by
  obtain ⟨xs, n, _, rfl, hl, hlen, hf⟩ := DataW.trod_struct Tryd.underlying32 h
  rw [cells_Chg] at hl
  obtain ⟨c0, c1, c2, c3, c4, c5, c6, rfl⟩ := len_seven hl
  match xs, hlen with
  | [y0, y1, y2, y3, y4, y5, y6], _ =>
    have h0 : DataW.trod enc Tryd.prog w 0 spare held n 3 [c0] = some y0 := by have h : DataW.trod enc Tryd.prog w 0 spare held n 3 (([c0, c1, c2, c3, c4, c5, c6].drop 0).take (Tryd.prog.cellsOf 3)) = _ := hf 0 _ rfl; rw [cells_int] at h; simpa using h
    have h1 : DataW.trod enc Tryd.prog w 0 spare held n 3 [c1] = some y1 := by have h : DataW.trod enc Tryd.prog w 0 spare held n 3 (([c0, c1, c2, c3, c4, c5, c6].drop 1).take (Tryd.prog.cellsOf 3)) = _ := hf 1 _ rfl; rw [cells_int] at h; simpa using h
    have h2 : DataW.trod enc Tryd.prog w 0 spare held n 9 [c2] = some y2 := by have h : DataW.trod enc Tryd.prog w 0 spare held n 9 (([c0, c1, c2, c3, c4, c5, c6].drop 2).take (Tryd.prog.cellsOf 9)) = _ := hf 2 _ rfl; rw [cells_str] at h; simpa using h
    have h3 : DataW.trod enc Tryd.prog w 0 spare held n 9 [c3] = some y3 := by have h : DataW.trod enc Tryd.prog w 0 spare held n 9 (([c0, c1, c2, c3, c4, c5, c6].drop 3).take (Tryd.prog.cellsOf 9)) = _ := hf 3 _ rfl; rw [cells_str] at h; simpa using h
    have h4 : DataW.trod enc Tryd.prog w 0 spare held n 3 [c4] = some y4 := by have h : DataW.trod enc Tryd.prog w 0 spare held n 3 (([c0, c1, c2, c3, c4, c5, c6].drop 4).take (Tryd.prog.cellsOf 3)) = _ := hf 4 _ rfl; rw [cells_int] at h; simpa using h
    have h5 : DataW.trod enc Tryd.prog w 0 spare held n 30 [c5] = some y5 := by have h : DataW.trod enc Tryd.prog w 0 spare held n 30 (([c0, c1, c2, c3, c4, c5, c6].drop 5).take (Tryd.prog.cellsOf 30)) = _ := hf 5 _ rfl; rw [cells_strs] at h; simpa using h
    have h6 : DataW.trod enc Tryd.prog w 0 spare held n 3 [c6] = some y6 := by have h : DataW.trod enc Tryd.prog w 0 spare held n 3 (([c0, c1, c2, c3, c4, c5, c6].drop 6).take (Tryd.prog.cellsOf 3)) = _ := hf 6 _ rfl; rw [cells_int] at h; simpa using h
    obtain ⟨k0, e0, _⟩ := DataW.trod_int Tryd.underlying3 h0
    obtain ⟨k1, e1, _⟩ := DataW.trod_int Tryd.underlying3 h1
    obtain ⟨s2, e2, _, z2⟩ := DataW.trod_string Tryd.underlying9 h2
    obtain ⟨s3, e3, _, z3⟩ := DataW.trod_string Tryd.underlying9 h3
    obtain ⟨k4, e4, _⟩ := DataW.trod_int Tryd.underlying3 h4
    obtain ⟨v5, rows, e5, hs⟩ := open_strs' h5
    obtain ⟨k6, e6, _⟩ := DataW.trod_int Tryd.underlying3 h6
    simp only [List.cons.injEq, and_true] at e0 e1 e2 e3 e4 e5 e6
    subst e0 e1 e2 e3 e4 e5 e6
    unfold maxLen at z2 z3
    exact ⟨⟨k0, k1, s2, s3, k4, rows, k6⟩, _, rfl, by simp only; omega, by simp only; omega, hs⟩
end

set_option maxRecDepth 100000 in
theorem lifted (os : Os) (started : os.Started) (H : Type) (enc : TypeId × Value → H) :
    ReturnsInHanded {} Tryd.checked os 4 .any (fun w args => (Rows.fnExactEncodeChangeSpec.pre enc Tryd.prog Tryd.f4 Rows.fnExactEncodeChangeRow.domain false w args ∧ laidMetH Tryd.prog Rows.fnExactEncodeChangeRow.laid w) ∧ sizedMet enc Tryd.prog Tryd.f4 (OpenSpec.ofChange Rows.fnExactEncodeChangeSpec) false w args)
      (Rows.fnExactEncodeChangeSpec.post enc Tryd.prog Tryd.f4 false true false false) := by
  refine returnsInHanded_of_change_and (C := Tryd.checked) (X := fun w _ => laidMetH Tryd.prog Rows.fnExactEncodeChangeRow.laid w) (fun _ _ _ hh h => h.of_heap hh) own started (by kernel_rfl) Tryd.func4
    (ChangeSpec.witness_shaped (enc := enc) (C := Tryd.checked) (os := os) (X := fun w _ => laidMetH Tryd.prog Rows.fnExactEncodeChangeRow.laid w) false (World.laidAll Tryd.prog os Rows.fnExactEncodeChangeRow.laid) #[.agg #[.int .i64 0, .int .i64 0, .string ⟨#[]⟩, .string ⟨#[]⟩, .int .i64 0, .slice none 0 0, .int .i64 0]] 8 (World.laidAll_os _ _ _)
      (World.shaped_of_ZipB (by kernel_rfl) (by kernel_rfl)) (by kernel_rfl) (by kernel_rfl) (by kernel_rfl)
      (by rw [MakeChecks.laidMetH_plain _ _ _ (by kernel_rfl)]; exact laidMet_laidAll _ (by kernel_rfl) (by kernel_rfl))) ?_
  intro W base args ds gs before hval0 hW _ _ hL _
  have hval : ∀ (j : Nat) t v, Tryd.f4.params[j]? = some t → args[j]? = some v → Value.okWide Tryd.prog W .any base t v := hval0
  have hW' := hW
  obtain ⟨p, q, hA0, hV, rfl, hfz, hnd⟩ := hW
  have hA : DataW.TrodAll enc Tryd.prog W 0 (fun _ => true) true Tryd.f4.params.toList args.toList ds p := hA0
  rw [Tryd.params4] at hA hval
  obtain ⟨v0, d0, rfl, rfl, h0⟩ := trodAll_one hA
  obtain ⟨rfl, rfl⟩ := trodVars_none hV
  have k0 := h0
  have lt0 : ∀ x ∈ p, x.block < W.heap.size := by obtain ⟨m, hm⟩ := k0; exact DataW.trod_lt m _ _ _ hm
  obtain ⟨c, v1, rfl, z1, z2, hx⟩ : ∃ (c : Chg) (v : Value), v0 = chgV c v ∧ c.tag.size ≤ 9223372036854775807 ∧ c.query.size ≤ 9223372036854775807 ∧ StrsAt 0 W v c.rows := by
    obtain ⟨cs, rfl, hsz⟩ := okWide_struct Tryd.underlying32 (hval 0 32 v0 rfl rfl)
    obtain ⟨fuel, hf⟩ := h0
    obtain ⟨c, v, hcs, z1, z2, hx⟩ := open_chg hf
    refine ⟨c, v, ?_, z1, z2, hx⟩
    unfold chgV
    congr 1
    simp only [Value.cells] at hcs
    cases cs
    simp_all
  clear hA0 hval0
  refine (lawEnc c v1 W z1 z2 hx (of_laid hL)).mono fun e W' ⟨he, bel⟩ => ?_
  subst he
  exact ⟨_, rfl, _, _, _, [], _, [], hW', trodAll_mk1 (shut_bool Tryd.underlying4 _), trodAll_mk1 (Below.trod laidOut (by kernel_rfl) (of_decide_eq_true (by kernel_rfl)) k0 bel lt0), rfl, bel.frame _, fun h => by cases h⟩

theorem over : Rows.FnExactEncodeChangeSaid :=
  OpenClaim.holds_of_wide 4 Tryd.f4 rfl rfl rfl rfl rfl rfl rfl ⟨rfl, rfl, rfl, rfl, rfl⟩ rfl rfl rfl rfl rfl (by kernel_rfl) Tryd.func4 (by kernel_rfl)
    (of_decide_eq_true (by kernel_rfl)) (by unfold Func.isWrapper; first | (rw [if_pos (by decide +kernel)]; kernel_rfl) | (rw [if_neg (by decide +kernel)]; exact ⟨rfl, rfl⟩))
    (fun os started H enc _ => lifted os started H enc)
end Go.Proofs.YtjpdgcodjnnljaaDoor.rowEncodeChange
namespace Go.Proofs.YtjpdgcodjnnljaaDoor
theorem fnExactEncodeChange_holds : Rows.FnExactEncodeChangeCardSaid :=
  Claim7.holds_tied_plain_at .later [] [.data, .data, .data] true (true, "6650aae6e7e58857f1e4a10d7a431d13939f685458219026c5f39d9011fddbc3") false rowEncodeChange.over (fun _ h => by cases h) (by kernel_rfl) (fun _ h => by cases h) fnExactEncodeChange_row_tie rfl ⟨rfl, rfl⟩ (by kernel_rfl) rfl
    (fun f fn hf hfn => by
      obtain rfl : f = 4 := Option.some.inj ((show Tryd.prog.funcNamed "loop.example/s01639/laws.FnExactEncodeChange" = some 4 by kernel_rfl).symm.trans hf) |>.symm
      obtain rfl : fn = Tryd.f4 := (Option.some.inj (Tryd.func4.symm.trans hfn)).symm
      exact ⟨by kernel_rfl, fun j t ht => by
        rw [Tryd.params4] at ht
        have hm : t ∈ [32] := by simpa using Array.mem_of_getElem? ht
        have hall : ([32].all fun u => !Tryd.prog.wantsStandIn u) = true := by kernel_rfl
        exact (show Tryd.prog.wantsStandIn t = false by simpa using List.all_eq_true.1 hall t hm)⟩)
    (by kernel_rfl)
#print axioms fnExactEncodeChange_holds
end Go.Proofs.YtjpdgcodjnnljaaDoor
