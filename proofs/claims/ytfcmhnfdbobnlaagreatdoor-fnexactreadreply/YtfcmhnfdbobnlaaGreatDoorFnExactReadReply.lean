import Derived.Test.YtfcmhnfdbobnlaaGreatDoorLawRRpl
import Derived.Test.YtfcmhnfdbobnlaaGreatDoorMsgOpen
import Derived.Test.YtfcmhnfdbobnlaaGreatDoorTie
import Derived.Test.YtfcmhnfdbobnlaaGreatDoorCards
import Derived.ProofKit
import Derived.LaidMore
import Derived.LaidLaws
import Derived.MakeChecks
import Derived.SevenTiedAt
import Derived.Stop.Joined
import Derived.Lib.LaidTab
import Derived.Lay
namespace Go.Proofs.YtfcmhnfdbobnlaaGreatDoor.rowReadReply
open Go.Proofs.YtfcmhnfdbobnlaaGreatDoor.Msg
open Go.ChangeShapes Go.WideShapes Go.ChangeAt Go.RowKit
set_option linter.unusedVariables false

theorem own : ownKnob Tryz.prog.godebug = none := by kernel_rfl
theorem laidOut : laidOutB Tryz.prog = true := by kernel_rfl

theorem gSyn : Tryz.prog.globalNamed "strconv.ErrSyntax" = some 0 := by kernel_rfl
theorem gRng : Tryz.prog.globalNamed "strconv.ErrRange" = some 1 := by kernel_rfl
theorem tTab : (Tryz.prog.globals[2]?).map (·.type) = some 152 := by kernel_rfl
theorem tSyn : (Tryz.prog.globals[0]?).map (·.type) = some 87 := by kernel_rfl
theorem tRng : (Tryz.prog.globals[1]?).map (·.type) = some 87 := by kernel_rfl
theorem tabE : (Rows.laid_internal_strconv_uint64pow10 : DataW Unit) = Lib.tabData .u64 Lib.pow10Tab := by kernel_rfl
theorem laidE : Rows.fnExactReadReplyRow.laid = [("math/bits.deBruijn32tab", Rows.laid_math_bits_deBruijn32tab), ("math/bits.deBruijn64tab", Rows.laid_math_bits_deBruijn64tab), ("internal/strconv.uint64pow10", Rows.laid_internal_strconv_uint64pow10), ("strconv.ErrRange", Rows.laid_strconv_ErrRange), ("strconv.ErrSyntax", Rows.laid_strconv_ErrSyntax)] := rfl
theorem arr_of {a : Array Value} {l : List Value} (h : a.toList = l) : a = l.toArray := by cases a; simp_all
theorem of_laid {W : World} (h : laidMetH Tryz.prog Rows.fnExactReadReplyRow.laid W) : Env W := by
  rw [MakeChecks.laidMetH_plain _ _ _ (by kernel_rfl), laidE] at h
  obtain ⟨ps, ⟨g1, t1, cs1, f1, p1, q1, _, _, _, _, ⟨g2, t2, cs2, f2, p2, q2, _, _, _, _, ⟨g3, t3, cs3, f3, p3, q3, hg3, ht3, hv3, hd3, ⟨g4, t4, cs4, f4, p4, q4, hg4, ht4, hv4, hd4, ⟨g5, t5, cs5, f5, p5, q5, hg5, ht5, hv5, hd5, _, _⟩, _⟩, _⟩, _⟩, _⟩, _⟩ := h
  obtain rfl : g3 = 2 := Option.some.inj (hg3.symm.trans tabG)
  obtain rfl : t3 = 152 := Option.some.inj (ht3.symm.trans tTab)
  obtain rfl : g4 = 1 := Option.some.inj (hg4.symm.trans gRng)
  obtain rfl : t4 = 87 := Option.some.inj (ht4.symm.trans tRng)
  obtain rfl : g5 = 0 := Option.some.inj (hg5.symm.trans gSyn)
  obtain rfl : t5 = 87 := Option.some.inj (ht5.symm.trans tSyn)
  rw [tabE] at hd3
  have e3 := Lib.cells_of_tab Tryz.underlying152 Tryz.underlying129 (by kernel_rfl) (by kernel_rfl) hd3
  obtain ⟨_, u4, v4, e4, _, _⟩ := iface_of_trod Tryz.underlying87 hd4
  obtain ⟨_, u5, v5, e5, _, _⟩ := iface_of_trod Tryz.underlying87 hd5
  rw [arr_of e3] at hv3
  rw [arr_of e4] at hv4
  rw [arr_of e5] at hv5
  refine ⟨hv3, ⟨.iface u5 v5, ?_, .inr ⟨_, _, rfl⟩⟩, ⟨.iface u4 v4, ?_, .inr ⟨_, _, rfl⟩⟩⟩
  · simpa using World.var?_cell gSyn hv5 0
  · simpa using World.var?_cell gRng hv4 0

set_option maxRecDepth 100000 in
theorem lifted (os : Os) (started : os.Started) (H : Type) (enc : TypeId × Value → H) :
    ReturnsInHanded {} Tryz.checked os 3 .any (fun w args => (Rows.fnExactReadReplySpec.pre enc Tryz.prog Tryz.f3 Rows.fnExactReadReplyRow.domain false w args ∧ laidMetH Tryz.prog Rows.fnExactReadReplyRow.laid w) ∧ sizedMet enc Tryz.prog Tryz.f3 (OpenSpec.ofChange Rows.fnExactReadReplySpec) false w args)
      (Rows.fnExactReadReplySpec.post enc Tryz.prog Tryz.f3 false true false false) := by
  refine returnsInHanded_of_change_and (C := Tryz.checked) (X := fun w _ => laidMetH Tryz.prog Rows.fnExactReadReplyRow.laid w) (fun _ _ _ hh h => h.of_heap hh) own started (by kernel_rfl) Tryz.func3
    (ChangeSpec.witness_shaped (enc := enc) (C := Tryz.checked) (os := os) (X := fun w _ => laidMetH Tryz.prog Rows.fnExactReadReplyRow.laid w) false (World.laidAll Tryz.prog os Rows.fnExactReadReplyRow.laid) #[.agg #[.slice none 0 0]] 8 (World.laidAll_os _ _ _)
      (World.shaped_of_ZipB (by kernel_rfl) (by kernel_rfl)) (by kernel_rfl) (by kernel_rfl) (by kernel_rfl)
      (by rw [MakeChecks.laidMetH_plain _ _ _ (by kernel_rfl)]; exact laidMet_laidAll _ (by kernel_rfl) (by kernel_rfl))) ?_
  intro W base args ds gs before hval0 hW _ _ hL _
  have hval : ∀ (j : Nat) t v, Tryz.f3.params[j]? = some t → args[j]? = some v → Value.okWide Tryz.prog W .any base t v := hval0
  have hW' := hW
  obtain ⟨p, q, hA0, hV, rfl, hfz, hnd⟩ := hW
  have hA : DataW.TrodAll enc Tryz.prog W 0 (fun _ => true) true Tryz.f3.params.toList args.toList ds p := hA0
  rw [Tryz.params3] at hA hval
  obtain ⟨v0, d0, rfl, rfl, h0⟩ := trodAll_one hA
  obtain ⟨rfl, rfl⟩ := trodVars_none hV
  have k0 := h0
  have lt0 : ∀ x ∈ p, x.block < W.heap.size := by obtain ⟨m, hm⟩ := k0; exact DataW.trod_lt m _ _ _ hm
  obtain ⟨v1, xs, rfl, hx⟩ : ∃ v xs, v0 = .agg #[v] ∧ SegsAt 0 W v xs := by
    obtain ⟨cs, rfl, hsz⟩ := okWide_struct Tryz.underlying24 (hval 0 24 v0 rfl rfl)
    obtain ⟨fuel, hf⟩ := h0
    obtain ⟨v, xs, hcs, hx⟩ := open_msg hf
    refine ⟨v, xs, ?_, hx⟩
    congr 1
    simp only [Value.cells] at hcs
    cases cs
    simp_all
  clear hA0 hval0
  have hE := of_laid hL
  refine (lawReadRpl xs v1 W hx hE).mono fun e W' ⟨he, bel⟩ => ?_
  subst he
  exact ⟨_, rfl, _, _, _, [], _, [], hW', trodAll_mk1 (shut_bool Tryz.underlying4 _), trodAll_mk1 (Below.trod laidOut (by kernel_rfl) (of_decide_eq_true (by kernel_rfl)) k0 bel lt0), rfl, bel.frame _, fun h => by cases h⟩

theorem over : Rows.FnExactReadReplySaid :=
  OpenClaim.holds_of_wide 3 Tryz.f3 rfl rfl rfl rfl rfl rfl rfl ⟨rfl, rfl, rfl, rfl, rfl⟩ rfl rfl rfl rfl rfl (by kernel_rfl) Tryz.func3 (by kernel_rfl)
    (of_decide_eq_true (by kernel_rfl)) (by unfold Func.isWrapper; first | (rw [if_pos (by decide +kernel)]; kernel_rfl) | (rw [if_neg (by decide +kernel)]; exact ⟨rfl, rfl⟩))
    (fun os started H enc _ => lifted os started H enc)
end Go.Proofs.YtfcmhnfdbobnlaaGreatDoor.rowReadReply
namespace Go.Proofs.YtfcmhnfdbobnlaaGreatDoor
theorem fnExactReadReply_holds : Rows.FnExactReadReplyCardSaid :=
  Claim7.holds_tied_plain_at .later [] [.data, .data, .data, .sentinel, .sentinel] true (true, "9fe521e1d163b1198a3783d4fe7394795c93bf9073b7cf6645e9048e096de4f0") true rowReadReply.over (fun _ h => by cases h) (by kernel_rfl) (fun _ h => by cases h) fnExactReadReply_row_tie rfl ⟨rfl, rfl⟩ (by kernel_rfl) rfl
    (fun f fn hf hfn => by
      obtain rfl : f = 3 := Option.some.inj ((show Tryz.prog.funcNamed "loop.example/s01639/laws.FnExactReadReply" = some 3 by kernel_rfl).symm.trans hf) |>.symm
      obtain rfl : fn = Tryz.f3 := (Option.some.inj (Tryz.func3.symm.trans hfn)).symm
      exact ⟨by kernel_rfl, fun j t ht => by
        rw [Tryz.params3] at ht
        have hm : t ∈ [24] := by simpa using Array.mem_of_getElem? ht
        have hall : ([24].all fun u => !Tryz.prog.wantsStandIn u) = true := by kernel_rfl
        exact (show Tryz.prog.wantsStandIn t = false by simpa using List.all_eq_true.1 hall t hm)⟩)
    (by kernel_rfl)
#print axioms fnExactReadReply_holds
end Go.Proofs.YtfcmhnfdbobnlaaGreatDoor
