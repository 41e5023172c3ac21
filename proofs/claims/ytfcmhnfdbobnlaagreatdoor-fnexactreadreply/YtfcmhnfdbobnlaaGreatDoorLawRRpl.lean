import Derived.Test.YtfcmhnfdbobnlaaGreatDoorRRplI
import Derived.Test.YtfcmhnfdbobnlaaGreatDoorSpecRRpl
import Derived.Test.YtfcmhnfdbobnlaaGreatDoorMsgToO
import Derived.Test.YtfcmhnfdbobnlaaGreatDoorMsgSz3withMsgFitwithMsgEq3
import Derived.Test.YtfcmhnfdbobnlaaGreatDoorMarkSegwithHeldMsg
namespace Go.Proofs.YtfcmhnfdbobnlaaGreatDoor.Msg
open Go.ChangeShapes Go.WideShapes Go.ChangeAt Go.RowKit
set_option linter.unusedVariables false
set_option linter.unusedSimpArgs false

/-! the law of ReadReply -/
theorem flat_strs (xs : List ByteArray) : flat strC xs = xs.map Value.string := by
  unfold flat
  induction xs with
  | nil => rfl
  | cons x t ih => rw [List.map_cons, List.flatten_cons, ih]; rfl
theorem fb_ostrs {base : Nat} {w : World} {v : Value} {xs : List ByteArray} (h : FB strC 1 9 base w v xs) (hl : xs.length ≤ 9223372036854775807) (hz : ∀ s ∈ xs, s.size ≤ 9223372036854775807) : ∃ bs, OStrs w v xs bs ∧ ∀ b ∈ bs, b ∈ v.ownBlock.toList := by
  have h' : w.ownsRow base 9 1 v (xs.map Value.string).length (xs.map Value.string) := by rw [List.length_map, ← flat_strs]; exact h
  rcases own_cells h' with ⟨h0, rfl⟩ | ⟨g, cap, rfl, hg, hlt, hc⟩
  · exact ⟨[], ⟨hl, .inl ⟨none, 0, rfl, List.map_eq_nil_iff.1 h0, rfl⟩⟩, by simp⟩
  · refine ⟨[g], ⟨hl, .inr ⟨g, 0, cap, List.replicate xs.length [], by rw [List.length_map], hlt, by simp, by simp, fun i hi h2 => ?_⟩⟩, fun b hb => by rw [List.mem_singleton.1 hb]; simp [Value.ownBlock]⟩
    have q := hc i (by rw [List.length_map]; exact hi)
    rw [List.getElem_map] at q
    exact ⟨by simpa using q.1, by simpa using q.2, hz _ (List.getElem_mem hi), by simp⟩
theorem cnt_le {α : Type} (c f : α → Nat) (xs : List α) (h : ∀ x ∈ xs, c x ≤ 1 + f x) : sumOf c xs ≤ lenSum f xs := by
  unfold lenSum sumOf
  induction xs with
  | nil => simp
  | cons x t ih =>
    have h1 := h x (List.mem_cons_self ..)
    have h2 := ih fun y hy => h y (List.mem_cons_of_mem _ hy)
    simp only [List.map_cons, List.sum_cons, List.length_cons]
    omega
theorem cMsg_le (xs : List Seg) : cMsg xs ≤ msgSz xs := by
  refine cnt_le cSeg segSz xs fun s _ => ?_
  have h1 : cFields s.fields ≤ lenSum fieldSz s.fields := cnt_le cField fieldSz _ fun f _ => by
    have h2 : cField f ≤ fieldSz f := cnt_le cRep repSz _ fun r _ => by
      have h3 : cRep r ≤ repSz r := cnt_le oneC strSz _ fun t _ => by unfold oneC; omega
      omega
    omega
  unfold cSeg segSz
  omega
set_option maxHeartbeats 2000000 in
theorem heldRpl_any (ack control tag pointer : ByteArray) (code : Int) (rows : List ByteArray) (v : Value) (w : World) (hkb : 1 + cRep rows ≤ 4611686018427387904) {lo : Nat} (hv : StrsAt lo w v (mkRep 1 rows)) :
    Calls Tryz.prog 12 #[.agg #[.string ack, .string control, .int .i64 code, .string tag, v, .string pointer], .int .i64 1] w fun e w' => e = .returned (.int .i64 ((1 + cRep rows : Nat) : Int)) ∧ Below w.heap.size w w' := by
  obtain ⟨w1, hw1⟩ : ∃ w1, w.alloc (Obj.cells #[.string ack, .string control, .int .i64 code, .string tag, v, .string pointer] 28) = w1 := ⟨_, rfl⟩
  have hb : Below w.heap.size w w1 := by rw [← hw1]; exact (Below.refl _ _).alloc (Nat.le_refl _) _
  have HBX : Hid (Box w1 w.heap.size 28 #[.string ack, .string control, .int .i64 code, .string tag, v, .string pointer]) := by rw [← hw1]; exact Box.new _ _ _
  have c4 : w1.cell? ⟨w.heap.size, 4, none⟩ = some v := HBX.out.cell 4 (by simp)
  have HM := hide (heldStrs_any rows v 1 w1 (Nat.le_refl _) hkb (At.kept kept_str hv hb))
  have HB := hide hb
  obtain ⟨a, c, rfl, _⟩ := hv.form
  obtain ⟨n, hn⟩ : ∃ n, 1 + cRep rows = n := ⟨_, rfl⟩
  rw [hn] at HM ⊢
  have hn0 : ¬ ((n : Int) < 0) := by omega
  clear hv hb hkb hn
  go_enter Tryz.func12, Tryz.ntmps12
  go_wp2_with fail
  refine HM.out.mono ?_
  rintro e w2 ⟨rfl, hb2⟩
  have HB2 := hide (bjoin hb2 HB.out)
  clear hb2
  go_wp2_with fail
  go_ret
  exact ⟨rfl, HB2.out⟩

set_option maxRecDepth 100000 in
set_option maxHeartbeats 16000000 in
theorem lawReadRpl (xs : List Seg) (v : Value) (w : World) {lo : Nat} (hv : SegsAt lo w v xs) (hE : Env w) :
    Calls Tryz.prog 3 #[.agg #[v]] w fun e w' => e = .returned (.bool true) ∧ Below w.heap.size w w' := by
  obtain ⟨w0, hw0⟩ : ∃ w0, w.alloc (Obj.cells #[v] 24) = w0 := ⟨_, rfl⟩
  have hb0 : Below w.heap.size w w0 := by rw [← hw0]; exact (Below.refl _ _).alloc (Nat.le_refl _) _
  have HP0 : Hid (Box w0 w.heap.size 24 #[v]) := by rw [← hw0]; exact Box.new _ _ _
  have p0 : w0.cell? ⟨w.heap.size, 0, none⟩ = some v := HP0.out.cell 0 (by simp)
  have HV0 := hide (At.kept kept_seg hv hb0)
  have HB0 := hide hb0
  have HE0 := hide (hE.kept hb0)
  clear hv hb0 hE
  by_cases hsz : ((msgSz xs : Nat) : Int) ≤ 1048576
  · have hs' : msgSz xs ≤ 1048576 := by omega
    have HFIT := hide (fits_of_sz hs')
    have HRest : Hid (rest 1048576 (msgSz xs) = 1048576 - (msgSz xs : Int)) := rest_yes hsz
    have hnn : ¬ (1048576 : Int) - (msgSz xs : Int) < 0 := by omega
    have HSP := hide (fun (a : Option Addr) (W : World) (lo : Nat) (h : SegsAt lo W (.slice a xs.length xs.length) xs) => readRplS_any xs a xs.length W h (Nat.le_refl _) (by have := h.1; omega) hs')
    have HIM := hide (fun (a : Option Addr) (W : World) (lo : Nat) (h : SegsAt lo W (.slice a xs.length xs.length) xs) (h2 : Env W) => readRplI_any xs a xs.length W h hs' h2)
    have HRW : Hid ((readI xs).1.rows.length ≤ 1048576 ∧ ∀ s ∈ (readI xs).1.rows, s.size ≤ 1048576) := by
      have h1 : (looseI xs).rows.length ≤ 1048576 := Nat.le_trans (rowsOf_len xs) (by unfold msgSz lenSum at hs'; omega)
      have h2 := rowsOf_sz hs'
      unfold readI
      split
      · exact ⟨h1, h2⟩
      · exact ⟨by simp [rpl0], by simp [rpl0]⟩
    have HCM := hide (Nat.le_trans (cMsg_le xs) hs')
    rw [read_same] at HSP
    obtain ⟨P, hP⟩ : ∃ P, readI xs = P := ⟨_, rfl⟩
    rw [hP] at HSP HIM HRW
    clear hP
    obtain ⟨⟨ack, control, code, tag, rows, pointer⟩, ok⟩ := P
    dsimp only at HRW
    have HEQ := hide (fun (u1 u2 : Value) (W : World) (l1 l2 : Nat) (h1 : StrsAt l1 W u1 rows) (h2 : StrsAt l2 W u2 rows) => eqRpl_any ⟨ack, control, code, tag, rows, pointer⟩ u1 u2 W h1 h2)
    have HMR := hide (fun (u : Value) (bs : List Nat) (W : World) (h : OStrs W u rows bs) => markRpl_any ⟨ack, control, code, tag, rows, pointer⟩ u bs W (by dsimp only; rw [cRep_len]; have := HRW.out.1; omega) h)
    have HHR := hide (fun (u : Value) (W : World) (lo : Nat) (h : StrsAt lo W u (mkRep 1 rows)) => heldRpl_any ack control tag pointer code rows u W (by rw [cRep_len]; have := HRW.out.1; omega) h)
    unfold ReadIPost rplV at HIM
    unfold RplPost rplV at HSP
    unfold rplV at HEQ HMR
    dsimp only at HSP HIM HEQ HMR
    have HCR : Hid (cRep rows ≤ 1048576) := by rw [cRep_len]; exact HRW.out.1
    obtain ⟨nr, hnr⟩ : ∃ n, rows.length = n := ⟨_, rfl⟩
    have HNR := hide hnr
    rw [hnr] at HIM
    obtain ⟨kr, hkr⟩ : ∃ n, 1 + cRep rows = n := ⟨_, rfl⟩
    rw [hkr] at HMR HHR
    obtain ⟨km, hkm⟩ : ∃ n, 1 + cMsg xs = n := ⟨_, rfl⟩
    have HMM := hide (fun (u : Value) (bs : List Nat) (W : World) (hn : bs.Nodup) (h : OSegs W u xs bs) => markMsg_any xs u bs 1 W (Nat.le_refl _) (by have := HCM.out; omega) hn h)
    rw [hkm] at HMM
    have hkm0 : ¬ ((km : Int) < 0) := by omega
    have hkr0 : ¬ ((kr : Int) < 0) := by omega
    have hkrr : ((kr : Int) != (kr : Int)) = false := by simp
    have hokk : (ok != ok) = false := by cases ok <;> rfl
    have HTO := hide (fun (W : World) (lo : Nat) (h : SegsAt lo W v xs) => toMsgO xs v W HFIT.out h)
    have HEM := hide (fun (u1 u2 : Value) (W : World) (l1 l2 : Nat) (h1 : SegsAt l1 W u1 xs) (h2 : SegsAt l2 W u2 xs) => eqMsg_any xs u1 u2 W h1 h2)
    obtain ⟨n, hn⟩ : ∃ n, xs.length = n := ⟨_, rfl⟩
    rw [hn] at HSP HIM HTO
    clear hsz hkr hkm hn hnr HCM HCR hs'
    go_enter Tryz.func3, Tryz.ntmps3
    go_wp2_with fail
    refine (szMsg_any xs v 1048576 _ (by omega) (by omega) HV0.out).mono ?_
    rintro e w1 ⟨rfl, hb1⟩
    rw [HRest.out]
    have p1 : w1.cell? ⟨w.heap.size, 0, none⟩ = some v := (HP0.out.below hb1).cell 0 (by simp)
    have HX1 := hide hb1
    clear hb1
    go_wp2_with fail
    refine (HTO.out _ _ (At.kept kept_seg HV0.out HX1.out)).mono ?_
    rintro e w2 ⟨B1, rfl, bs1, hO1, hnd1, hge1, hb2⟩
    have HX2 := hide (bjoin hb2 HX1.out)
    have p2 : w2.cell? ⟨w.heap.size, 0, none⟩ = some v := (HP0.out.below HX2.out).cell 0 (by simp)
    have HS2 : Hid (SegsAt 0 w2 (.slice (some ⟨B1, 0, none⟩) n n) xs) := OAt.toAt toAt_seg hO1 fun _ _ => Nat.zero_le _
    clear hO1 hnd1 hge1 hb2 p1
    go_wp2_with fail
    refine (HSP.out _ _ _ HS2.out).mono ?_
    rintro e w3 ⟨u0, rfl, hu0, hb3⟩
    obtain ⟨a0, c0, rfl, _⟩ := hu0.form
    rw [HNR.out] at hu0 ⊢
    have HX3 := hide (bjoin hb3 HX2.out)
    obtain ⟨wa, hwa⟩ : ∃ wa, w3.alloc (Obj.cells #[.string ack, .string control, .int .i64 code, .string tag, .slice a0 nr c0, .string pointer] 28) = wa := ⟨_, rfl⟩
    have hba : Below w3.heap.size w3 wa := by rw [← hwa]; exact (Below.refl _ _).alloc (Nat.le_refl _) _
    have HW0 : Hid (Box wa w3.heap.size 28 #[.string ack, .string control, .int .i64 code, .string tag, .slice a0 nr c0, .string pointer]) := by rw [← hwa]; exact Box.new _ _ _
    have HXA := hide (bjoin hba HX3.out)
    have pa : wa.cell? ⟨w.heap.size, 0, none⟩ = some v := (HP0.out.below HXA.out).cell 0 (by simp)
    have HUA := hide (At.kept kept_str hu0 hba)
    clear hu0 hb3 hba p2 HS2
    go_wp2_with fail
    refine (HTO.out _ _ (At.kept kept_seg HV0.out HXA.out)).mono ?_
    rintro e w4 ⟨B2, rfl, bs2, hO2, hnd2, hge2, hb4⟩
    have HND2 := hide hnd2
    have HB4S : wa.heap.size ≤ w4.heap.size := hb4.size
    have HGE2 : Hid (∀ b ∈ bs2, wa.heap.size ≤ b ∧ b < w4.heap.size) := fun b h => ⟨hge2 b h, OAt.lt ltO_seg hO2 b h⟩
    obtain ⟨wb, hwb⟩ : ∃ wb, w4.alloc (Obj.cells #[.slice (some ⟨B2, 0, none⟩) n n] 33) = wb := ⟨_, rfl⟩
    have hbb : Below w4.heap.size w4 wb := by rw [← hwb]; exact (Below.refl _ _).alloc (Nat.le_refl _) _
    have HX0 : Hid (Box wb w4.heap.size 33 #[.slice (some ⟨B2, 0, none⟩) n n]) := by rw [← hwb]; exact Box.new _ _ _
    have x0 : wb.cell? ⟨w4.heap.size, 0, none⟩ = some (.slice (some ⟨B2, 0, none⟩) n n) := HX0.out.cell 0 (by simp)
    have HYB := hide (bjoin hbb hb4)
    have HOB := hide (OAt.kept keptO_seg hO2 hbb.size fun d hd => hbb.block d (HGE2.out d hd).2)
    clear hO2 hnd2 hge2 hb4 hbb pa
    go_wp2_with fail
    refine (HIM.out _ _ 0 (OAt.toAt toAt_seg HOB.out fun _ _ => Nat.zero_le _) (HE0.out.kept (bjoin HYB.out HXA.out))).mono ?_
    rintro e w5 ⟨ag, cg, rfl, hFg, hb5⟩
    obtain ⟨wc, hwc⟩ : ∃ wc, w5.alloc (Obj.cells #[.string ack, .string control, .int .i64 code, .string tag, .slice ag nr cg, .string pointer] 28) = wc := ⟨_, rfl⟩
    have hbc : Below w5.heap.size w5 wc := by rw [← hwc]; exact (Below.refl _ _).alloc (Nat.le_refl _) _
    have HG0 : Hid (Box wc w5.heap.size 28 #[.string ack, .string control, .int .i64 code, .string tag, .slice ag nr cg, .string pointer]) := by rw [← hwc]; exact Box.new _ _ _
    have HB5S : wb.heap.size ≤ w5.heap.size := hb5.size
    have HBC := hide (bjoin hbc hb5)
    have HFL : Hid (∀ b ∈ (Value.slice ag nr cg).ownBlock.toList, b < w5.heap.size) := fun b hb => (hFg.own b hb).2
    have HYC := hide (bjoin HBC.out HYB.out)
    have HFC := hide (hFg.below hbc)
    have HGC : Hid (StrsAt 0 wc (.slice ag nr cg) rows) := At.mono mono_str (fb_strs HFC.out (by have := HRW.out.1; omega) (fun s hs => Nat.le_trans (HRW.out.2 s hs) (by decide))) (Nat.zero_le _)
    have HUC := hide (At.kept kept_str HUA.out HYC.out)
    have HOC := hide (OAt.kept keptO_seg HOB.out HBC.out.size fun d hd => HBC.out.block d (OAt.lt ltO_seg HOB.out d hd))
    have HX0C := hide (HX0.out.below HBC.out)
    have HW0C := hide (HW0.out.below HYC.out)
    refine rb6 HG0.out ?_
    rintro _ ⟨⟨g0, g1, g2, g3, g4, g5⟩, -⟩
    refine rb6 HW0C.out ?_
    rintro _ ⟨⟨q0, q1, q2, q3, q4, q5⟩, -⟩
    clear hFg hb5 hbc x0
    go_wp2_with (first | (go_at_call 8; refine (HEQ.out _ _ _ 0 0 HGC.out HUC.out).mono ?_; rintro e w6 ⟨rfl, hb6⟩))
    have HC6 := hide hb6
    have HPC := hide (HP0.out.below (bjoin HYC.out HXA.out))
    have hz6 := hb6.size
    have xx6 : w6.cell? ⟨w4.heap.size, 0, none⟩ = some (.slice (some ⟨B2, 0, none⟩) n n) := (HX0C.out.below hb6).cell 0 (by simp)
    have pp6 : w6.cell? ⟨w.heap.size, 0, none⟩ = some v := (HPC.out.below hb6).cell 0 (by simp)
    have HO6 := hide (OAt.kept keptO_seg HOC.out hb6.size fun d hd => hb6.block d (OAt.lt ltO_seg HOC.out d hd))
    have HV6 := hide (At.kept kept_seg HV0.out (bjoin hb6 (bjoin HYC.out HXA.out)))
    have HXX : Hid (∀ X, Below w6.heap.size w6 X → X.cell? ⟨w.heap.size, 0, none⟩ = some v ∧ X.cell? ⟨w4.heap.size, 0, none⟩ = some (.slice (some ⟨B2, 0, none⟩) n n)) := fun X h => ⟨((HPC.out.below HC6.out).below h).cell 0 (by simp), ((HX0C.out.below HC6.out).below h).cell 0 (by simp)⟩
    clear hb6 g0 g1 g2 g3 g4 g5 q0 q1 q2 q3 q4 q5
    obtain ⟨D, hDe⟩ : ∃ D, w6.drew = D := ⟨_, rfl⟩
    have hD0 : Below w6.heap.size w6 w6.drew := (Below.refl _ _).drew
    have hD : Below w6.heap.size w6 D := by rw [← hDe]; exact hD0
    go_region_held3 (fun X => X.cell? ⟨w.heap.size, 0, none⟩ = some v ∧ X.cell? ⟨w4.heap.size, 0, none⟩ = some (.slice (some ⟨B2, 0, none⟩) n n))
      (first | with_reducible exact HXX.out _ hb8 | with_reducible exact HXX.out _ hb7 | with_reducible exact HXX.out _ hD | with_reducible exact HXX.out _ hD0)
      (first
        | (go_at_call 6; refine (HTO.out _ _ (At.kept kept_seg HV6.out hD)).mono ?_; rintro e w7 ⟨B3, rfl, bs3, hO3, hnd3, hge3, hb7'⟩; have hb7 : Below w6.heap.size w6 w7 := bjoin hb7' hD)
        | (go_at_call 9; refine (HEM.out _ _ _ 0 0 (OAt.toAt toAt_seg (OAt.kept keptO_seg HO6.out hb7.size fun d hd => hb7.block d (OAt.lt ltO_seg HO6.out d hd)) fun _ _ => Nat.zero_le _) (OAt.toAt toAt_seg hO3 fun _ _ => Nat.zero_le _)).mono ?_; rintro e w8 ⟨rfl, hb8'⟩; have hb8 : Below w6.heap.size w6 w8 := bjoin hb8' hb7))
    have HC8 := hide (bjoin hb8 HC6.out)
    have HO8 := hide (OAt.kept keptO_seg HOC.out HC8.out.size fun d hd => HC8.out.block d (OAt.lt ltO_seg HOC.out d hd))
    have xx8 : w8.cell? ⟨w4.heap.size, 0, none⟩ = some (.slice (some ⟨B2, 0, none⟩) n n) := (HX0C.out.below HC8.out).cell 0 (by simp)
    clear hO3 hnd3 hge3 hb7' hb8' hb7 hb8 hD hD0 hDe xx6 pp6 HO6 HV6 HXX hz6
    go_wp2_with fail
    refine (HMM.out _ _ _ HND2.out HO8.out).mono ?_
    rintro e w9 ⟨rfl, hon, hO9⟩
    have hcs := HC8.out.size
    have hws : wb.heap.size ≤ wc.heap.size := HBC.out.size
    have hx4 : w4.heap.size < wb.heap.size := HX0.out.lt
    have hw5 : w5.heap.size < wc.heap.size := HG0.out.lt
    have hax : wa.heap.size ≤ w4.heap.size := HB4S
    have hw3 : w3.heap.size < wa.heap.size := HW0.out.lt
    have hn2 : ∀ d, w4.heap.size ≤ d → d ∉ bs2 := fun d h hm => by have := (HGE2.out d hm).2; omega
    have HA9 : Hid (Below wa.heap.size wa w9) := (bjoin HC8.out HYC.out).trans (hon.below (by omega) fun b hb => (HGE2.out b hb).1)
    have HF9 := hide ((HFC.out.below HC8.out).only hon fun b hb => hn2 b (by have := (HFC.out.own b hb).1; omega))
    have HG9 := hide ((HG0.out.below HC8.out).only hon (hn2 _ (by have := HBC.out.size; have : wb.heap.size ≤ w5.heap.size := HB5S; omega)))
    have HW9 := hide (HW0.out.below HA9.out)
    have HU9 := hide (At.kept kept_str HUA.out HA9.out)
    have HS9 : Hid (StrsAt 0 w9 (.slice ag nr cg) rows) := At.mono mono_str (fb_strs HF9.out (by have := HRW.out.1; omega) (fun s hs => Nat.le_trans (HRW.out.2 s hs) (by decide))) (Nat.zero_le _)
    refine rb6 HG9.out ?_
    rintro _ ⟨⟨g0, g1, g2, g3, g4, g5⟩, -⟩
    refine rb6 HW9.out ?_
    rintro _ ⟨⟨q0, q1, q2, q3, q4, q5⟩, -⟩
    clear hon hO9 xx8
    go_wp2_with (first | (go_at_call 8; refine (HEQ.out _ _ _ 0 0 HS9.out HU9.out).mono ?_; rintro e w10 ⟨rfl, hb10⟩; have HG10 := hide (HG9.out.below hb10); refine rb6 HG10.out ?_; rintro _ ⟨⟨r0, r1, r2, r3, r4, r5⟩, -⟩))
    have HA10 := hide (bjoin hb10 HA9.out)
    have HF10 := hide (HF9.out.below hb10)
    obtain ⟨bsg, hOg, hBg⟩ := fb_ostrs HF10.out (by have := HRW.out.1; omega) (fun s hs => Nat.le_trans (HRW.out.2 s hs) (by decide))
    have HOG := hide hOg
    have HBG : Hid (∀ b ∈ bsg, wb.heap.size ≤ b ∧ b < w5.heap.size) := fun b hb => ⟨(HF10.out.own b (hBg b hb)).1, HFL.out b (hBg b hb)⟩
    clear g0 g1 g2 g3 g4 g5 q0 q1 q2 q3 q4 q5 hb10 hOg hBg r0 r1 r2 r3 r4 r5
    refine (HMR.out _ _ _ HOG.out).mono ?_
    rintro e w11 ⟨rfl, hon, hO11⟩
    have h10 := HA10.out.size
    have HA11 : Hid (Below wa.heap.size wa w11) := HA10.out.trans (hon.below (by omega) fun b hb => by have := (HBG.out b hb).1; omega)
    have HG11 := hide (HG10.out.only hon fun hm => by have := (HBG.out _ hm).2; omega)
    have HS11 : Hid (StrsAt 0 w11 (.slice ag nr cg) (mkRep 1 rows)) := OAt.toAt toAt_str hO11 fun _ _ => Nat.zero_le _
    clear hon hO11
    refine rb6 HG11.out ?_
    rintro _ ⟨⟨g0, g1, g2, g3, g4, g5⟩, -⟩
    go_wp2_with fail
    refine (HHR.out _ _ _ HS11.out).mono ?_
    rintro e w12 ⟨rfl, hb12⟩
    have HA12 := hide (bjoin hb12 HA11.out)
    have p12 : w12.cell? ⟨w.heap.size, 0, none⟩ = some v := (HP0.out.below (bjoin HA12.out HXA.out)).cell 0 (by simp)
    clear g0 g1 g2 g3 g4 g5 hb12
    go_wp2_with fail
    refine (HTO.out _ _ (At.kept kept_seg HV0.out (bjoin HA12.out HXA.out))).mono ?_
    rintro e w13 ⟨B4, rfl, bs4, hO4, hnd4, hge4, hb13⟩
    have HA13 := hide (bjoin hb13 HA12.out)
    have HS13 : Hid (SegsAt 0 w13 (.slice (some ⟨B4, 0, none⟩) n n) xs) := OAt.toAt toAt_seg hO4 fun _ _ => Nat.zero_le _
    clear hO4 hnd4 hge4 hb13 p12
    go_wp2_with fail
    refine (HIM.out _ _ 0 HS13.out (HE0.out.kept (bjoin HA13.out HXA.out))).mono ?_
    rintro e w14 ⟨ah, ch, rfl, hFh, hb14⟩
    obtain ⟨wd, hwd⟩ : ∃ wd, w14.alloc (Obj.cells #[.string ack, .string control, .int .i64 code, .string tag, .slice ah nr ch, .string pointer] 28) = wd := ⟨_, rfl⟩
    have hbd : Below w14.heap.size w14 wd := by rw [← hwd]; exact (Below.refl _ _).alloc (Nat.le_refl _) _
    have HH0 : Hid (Box wd w14.heap.size 28 #[.string ack, .string control, .int .i64 code, .string tag, .slice ah nr ch, .string pointer]) := by rw [← hwd]; exact Box.new _ _ _
    have HAD := hide (bjoin hbd (bjoin hb14 HA13.out))
    have HSD : Hid (StrsAt 0 wd (.slice ah nr ch) rows) := At.mono mono_str (fb_strs (hFh.below hbd) (by have := HRW.out.1; omega) (fun s hs => Nat.le_trans (HRW.out.2 s hs) (by decide))) (Nat.zero_le _)
    have HUD := hide (At.kept kept_str HUA.out HAD.out)
    have HWD := hide (HW0.out.below HAD.out)
    refine rb6 HH0.out ?_
    rintro _ ⟨⟨g0, g1, g2, g3, g4, g5⟩, -⟩
    refine rb6 HWD.out ?_
    rintro _ ⟨⟨q0, q1, q2, q3, q4, q5⟩, -⟩
    clear hFh hb14 hbd
    go_wp2_with (first | (go_at_call 8; refine (HEQ.out _ _ _ 0 0 HSD.out HUD.out).mono ?_; rintro e w15 ⟨rfl, hb15⟩))
    go_wp2_with fail
    go_ret
    exact ⟨rfl, bjoin (bjoin (bjoin hb15 HAD.out) HXA.out) HB0.out⟩
  · have HRest : Hid (rest 1048576 (msgSz xs) = -1) := rest_no hsz
    go_enter Tryz.func3, Tryz.ntmps3
    go_wp2_with fail
    refine (szMsg_any xs v 1048576 _ (by omega) (by omega) HV0.out).mono ?_
    rintro e w1 ⟨rfl, hb1⟩
    rw [HRest.out]
    go_wp2_with fail
    go_ret
    exact ⟨rfl, bjoin hb1 HB0.out⟩
end Go.Proofs.YtfcmhnfdbobnlaaGreatDoor.Msg
