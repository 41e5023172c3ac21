import Derived.Test.YtjpdgcodjnnljaaLogImpl2
import Derived.Test.YtjpdgcodjnnljaaMarkStr
import Derived.Test.YtjpdgcodjnnljaaHeldMsg
import Derived.ShutString
import Derived.ChangeOld
import Derived.Lib.SmallJoins
namespace Go.Proofs.Ytjpdgcodjnnljaa.rowReadLog
open Go.Proofs.Ytjpdgcodjnnljaa.Msg
open Go.ChangeShapes Go.WideShapes Go.ChangeAt Go.RowKit
open Go.ChangeMaps (open_string shut_string)
set_option linter.unusedVariables false

theorem own : ownKnob Try.prog.godebug = none := by kernel_rfl
theorem laidOut : laidOutB Try.prog = true := by kernel_rfl

set_option maxRecDepth 100000 in
set_option maxHeartbeats 2000000 in
theorem lawReadLog (s : ByteArray) (w : World) (hs : s.size ≤ 9223372036854775807) :
    Calls Try.prog 10 #[.string s] w fun e w' => e = .returned (.bool true) ∧ Below w.heap.size w w' := by
  by_cases hbig : (1048576 : Int) < (s.size : Int)
  · go_enter Try.func10, Try.ntmps10
    go_wp2_with fail
    go_ret
    exact ⟨rfl, Below.refl _ _⟩
  · have HSP := hide (fun W => readLogS_any s W (by omega))
    have HIM := hide (fun W => readLogI_any s W (by omega))
    obtain ⟨n, hn⟩ : ∃ n, endOf (recsA s) = n := ⟨_, rfl⟩
    rw [hn] at HSP HIM
    have hsm : ∀ x ∈ logTexts s, x.size ≤ 9223372036854775807 := texts_small s s.size
    have hln : (logTexts s).length ≤ 1048576 := by have := texts_len s s.size; show ((recsK s s.size).map (·.1)).length ≤ _; omega
    obtain ⟨xs, hxs⟩ : ∃ xs, logTexts s = xs := ⟨_, rfl⟩
    rw [hxs] at HSP HIM hsm hln
    have HSM := hide hsm
    have HC : Hid (cRep xs = xs.length) := cRep_len xs
    obtain ⟨m, hm⟩ : ∃ m, 1 + cRep xs = m := ⟨_, rfl⟩
    have hm6 : m ≤ 1048577 := by rw [← hm, HC.out]; omega
    have HMK := hide (fun (v : Value) (bs : List Nat) (W : World) (h : OStrs W v xs bs) => markStrs_any xs v bs 1 W (by omega) (by rw [HC.out]; omega) h)
    have HHD := hide (fun (v : Value) (W : World) (lo : Nat) (h : StrsAt lo W v (mkRep 1 xs)) => heldStrs_any xs v 1 W (by omega) (by rw [HC.out]; omega) h)
    rw [hm] at HMK HHD
    clear hn hxs hsm hm
    go_enter Try.func10, Try.ntmps10
    go_wp2_with fail
    refine (HSP.out _).mono ?_
    rintro e W1 ⟨v1, rfl, hO1, hb1⟩
    go_wp2_with fail
    refine (HIM.out _).mono ?_
    rintro e W2 ⟨v2, rfl, hO2, hb2⟩
    obtain ⟨bs1, o1a, _⟩ := hO1.owned HSM.out
    have lt1 : ∀ c ∈ bs1, c < W1.heap.size := OAt.lt ltO_str o1a
    have o1 : OStrs W2 v1 xs bs1 := OAt.kept keptO_str o1a hb2.size (fun c hc => hb2.block c (lt1 c hc))
    obtain ⟨bs2, o2, lo2⟩ := hO2.owned HSM.out
    have s1 : StrsAt 0 W2 v1 xs := OAt.toAt toAt_str o1 (fun _ _ => Nat.zero_le _)
    have s2 : StrsAt 0 W2 v2 xs := OAt.toAt toAt_str o2 (fun _ _ => Nat.zero_le _)
    obtain ⟨a1, c1, hf1, _, _⟩ := hO1.form
    obtain ⟨a2, c2, hf2, _, _⟩ := hO2.form
    subst hf1 hf2
    have HS1 := hide s1
    have HS2 := hide s2
    have HO1 := hide o1
    have HO2 := hide o2
    have HLT := hide lt1
    have HLO := hide lo2
    have HB1 := hide hb1
    have HB2 := hide hb2
    clear s1 s2 o1 o2 lt1 lo2 hO1 hO2 o1a hb1 hb2
    go_wp2_with fail
    refine (eqStrs_any xs _ _ W2 HS2.out HS1.out).mono ?_
    rintro e W3 ⟨rfl, hb3⟩
    have HO1' : Hid (OStrs W3 (.slice a1 xs.length c1) xs bs1) := OAt.kept keptO_str HO1.out hb3.size (fun c hc => hb3.block c (OAt.lt ltO_str HO1.out c hc))
    have HO2' : Hid (OStrs W3 (.slice a2 xs.length c2) xs bs2) := OAt.kept keptO_str HO2.out hb3.size (fun c hc => hb3.block c (OAt.lt ltO_str HO2.out c hc))
    have HB3 := hide (bj hb3 HB2.out)
    clear hb3
    go_wp2_with fail
    refine (HMK.out _ bs2 W3 HO2'.out).mono ?_
    rintro e W4 ⟨rfl, hon, o4⟩
    have s4 : StrsAt 0 W4 (.slice a2 xs.length c2) (mkRep 1 xs) := OAt.toAt toAt_str o4 (fun _ _ => Nat.zero_le _)
    have HS4 := hide s4
    have HO4 : Hid (OStrs W4 (.slice a1 xs.length c1) xs bs1) := OAt.kept keptO_str HO1'.out hon.size (fun c hc => hon.block c (OAt.lt ltO_str HO1'.out c hc) (fun hc2 => by have := HLT.out c hc; have := HLO.out c hc2; omega))
    have HB4 : Hid (Below W1.heap.size W1 W4) := HB3.out.trans (hon.below HB3.out.size HLO.out)
    clear s4 o4 hon
    go_wp2_with fail
    refine (HHD.out _ W4 0 HS4.out).mono ?_
    rintro e W5 ⟨rfl, hb5⟩
    have HO5 : Hid (OStrs W5 (.slice a1 xs.length c1) xs bs1) := OAt.kept keptO_str HO4.out hb5.size (fun c hc => hb5.block c (OAt.lt ltO_str HO4.out c hc))
    have HB5 := hide (bj hb5 HB4.out)
    clear hb5
    go_wp2_with fail
    refine (HIM.out _).mono ?_
    rintro e W6 ⟨v6, rfl, hO6, hb6⟩
    obtain ⟨bs6, o6, _⟩ := hO6.owned HSM.out
    have s6 : StrsAt 0 W6 v6 xs := OAt.toAt toAt_str o6 (fun _ _ => Nat.zero_le _)
    have s1' : StrsAt 0 W6 (.slice a1 xs.length c1) xs := OAt.toAt toAt_str (OAt.kept keptO_str HO5.out hb6.size (fun c hc => hb6.block c (OAt.lt ltO_str HO5.out c hc))) (fun _ _ => Nat.zero_le _)
    obtain ⟨a6, c6, hf6, _, _⟩ := hO6.form
    subst hf6
    have HS6 := hide s6
    have HS1' := hide s1'
    have HB6 := hide (bj hb6 HB5.out)
    clear s6 s1' o6 hO6 hb6
    go_wp2_with fail
    refine (eqStrs_any xs _ _ W6 HS6.out HS1'.out).mono ?_
    rintro e W7 ⟨rfl, hb7⟩
    have HB7 := hide (bj (bj hb7 HB6.out) HB1.out)
    clear hb7
    go_wp2_with fail
    go_ret
    exact ⟨rfl, HB7.out⟩

set_option maxRecDepth 100000 in
theorem lifted (os : Os) (started : os.Started) (H : Type) (enc : TypeId × Value → H) :
    ReturnsInHanded {} Try.checked os 10 .any (Rows.fnExactReadLogSpec.pre6 enc Try.prog Try.f10 Rows.fnExactReadLogRow.domain false) (Rows.fnExactReadLogSpec.post enc Try.prog Try.f10 false true false false) := by
  refine returnsInHanded_of_change (C := Try.checked) own started (by kernel_rfl) Try.func10
    (ChangeSpec.witness6 (enc := enc) (C := Try.checked) false ⟨#[], #[.string ByteArray.empty], []⟩ 8 (by kernel_rfl) (by kernel_rfl) (by kernel_rfl) (by kernel_rfl)) ?_
  intro W base args ds gs before hval0 hW hcnd _
  have hval : ∀ (j : Nat) t v, Try.f10.params[j]? = some t → args[j]? = some v → Value.okWide Try.prog W .any base t v := hval0
  have hW' := hW
  obtain ⟨p, q, hA0, hV, rfl, hfz, hnd⟩ := hW
  have hA : DataW.TrodAll enc Try.prog W 0 (fun _ => true) true Try.f10.params.toList args.toList ds p := hA0
  rw [Try.params10] at hA hval
  obtain ⟨v0, vs0, d0, ds0, p0, q0, hargs, rfl, rfl, h0, r0⟩ := trodAll_cons hA
  obtain ⟨rfl, rfl, rfl⟩ := trodAll_nil r0
  obtain rfl : args = #[v0] := by cases args; simp_all
  obtain ⟨rfl, rfl⟩ := trodVars_none hV
  obtain ⟨a1, rfl, rfl, rfl, w1⟩ := open_string Try.underlying9 (hval 0 9 v0 rfl rfl) h0
  clear hA0 hval0
  refine (lawReadLog a1 W (by unfold maxLen at w1; omega)).mono fun e W' ⟨he, bel⟩ => ?_
  subst he
  exact ⟨_, rfl, _, _, _, [], _, [], hW', trodAll_mk1 (shut_bool Try.underlying4 _), (trodAll_cons_mk (shut_string Try.underlying9 w1) trodAll_mk0), rfl, bel.frame _, fun h => by cases h⟩

theorem over : Rows.fnExactReadLogRow.holds Try.pinned (OpenSpec.ofChange Rows.fnExactReadLogSpec) :=
  OpenClaim.holds_of_wide 10 Try.f10 rfl rfl rfl rfl rfl rfl rfl ⟨rfl, rfl, rfl, rfl, rfl⟩ rfl rfl rfl rfl rfl (by kernel_rfl) Try.func10 (by kernel_rfl)
    (of_decide_eq_true (by kernel_rfl)) (by unfold Func.isWrapper; first | (rw [if_pos (by decide +kernel)]; kernel_rfl) | (rw [if_neg (by decide +kernel)]; exact ⟨rfl, rfl⟩))
    (fun os started H enc _ => lifted os started H enc)
end Go.Proofs.Ytjpdgcodjnnljaa.rowReadLog
namespace Go.Proofs.Ytjpdgcodjnnljaa
theorem fnExactReadLog_holds : Rows.FnExactReadLogSaid := rowReadLog.over
#print axioms fnExactReadLog_holds
end Go.Proofs.Ytjpdgcodjnnljaa
