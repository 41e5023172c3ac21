import Derived.Test.YtcphfhfockjljaaGreatDoorDrawSizewithDrawEncwithDrawGt
import Derived.Test.YtcphfhfockjljaaGreatDoorDrawPswithWSame
import Derived.Test.YtcphfhfockjljaaGreatDoorImplGetwithImplWrwithImplWrite
import Derived.Test.YtcphfhfockjljaaGreatDoorMsgGet
import Derived.Test.YtcphfhfockjljaaGreatDoorImplMsgLwithImplMsgInwithImplEncode
import Derived.Test.YtcphfhfockjljaaGreatDoorImplTextwithImplParsewithMsgInj
import Derived.Test.YtcphfhfockjljaaGreatDoorParseSpecwithImplWordwithImplHead
import Derived.Test.YtcphfhfockjljaaGreatDoorParseBack
namespace Go.Proofs.YtcphfhfockjljaaGreatDoor.Msg
open Go.ChangeShapes Go.WideShapes Go.ChangeAt Go.RowKit
set_option linter.unusedVariables false
set_option linter.unusedSimpArgs false

/-! the law of FnMessage -/
def okLm (X : Except Nat (List Seg)) : List Seg := match X with
  | .ok xs => xs
  | .error _ => []
def okCm (X : Except Nat (List Seg)) : Int := match X with
  | .ok _ => 0
  | .error n => n
theorem parse_postm {w w' : World} {X : Except Nat (List Seg)} {e : Ending} (h : ParsePost w X e w') : ∃ a c, e = .returned (.tuple #[.agg #[.slice a (okLm X).length c], .int .i64 (okCm X)]) ∧ SegsAt 0 w' (.slice a (okLm X).length c) (okLm X) ∧ Below w.heap.size w w' := by
  obtain ⟨u, c, rfl, h1, h2, h3⟩ := h
  cases X with
  | error n =>
    obtain ⟨rfl, rfl⟩ := h1 n rfl
    exact ⟨_, _, rfl, ⟨by simp [okLm], .inl ⟨none, 0, rfl, rfl⟩⟩, h3⟩
  | ok xs =>
    obtain ⟨rfl, bs, a, b, c⟩ := h2 xs rfl
    have q : SegsAt 0 w' u xs := OAt.toAt toAt_seg a fun _ _ => Nat.zero_le _
    obtain ⟨a', c', rfl, _⟩ := q.form
    exact ⟨a', c', rfl, q, h3⟩
set_option maxRecDepth 100000 in
set_option maxHeartbeats 16000000 in
theorem lawMessage (hps : ∀ s, msgSz (okLm (parseL s)) ≤ 1048576) (cs ds : List UInt8) (v u : Value) (w : World) {lo lo2 : Nat} (hv : CodeAt lo w v cs) (hu : CodeAt lo2 w u ds) (hm : Mx w) :
    Calls Tryz.prog 3 #[v, u] w fun e w' => e = .returned (.bool true) ∧ Below w.heap.size w w' := by
  have HB0 : Hid (Below w.heap.size w w) := Below.refl _ _
  have hvl := hv.1
  have hul := hu.1
  have HV := hide hv
  have HU := hide hu
  obtain ⟨va, vc, rfl, _⟩ := code_form hv
  obtain ⟨ua, uc, rfl, _⟩ := code_form hu
  clear hv hu
  by_cases hl1 : (cs.length : Int) > 1048576
  · go_enter Tryz.func3, Tryz.ntmps3
    go_wp2_with fail
    all_goals
      go_ret
      exact ⟨rfl, HB0.out⟩
  by_cases hl2 : (ds.length : Int) > 1048576
  · go_enter Tryz.func3, Tryz.ntmps3
    go_wp2_with fail
    all_goals
      go_ret
      exact ⟨rfl, HB0.out⟩
  have hcl : cs.length ≤ 1048576 := by omega
  have hdl : ds.length ≤ 1048576 := by omega
  have HM := hide hm
  have HDG := hide (fun W (h : Below w.heap.size w W) => drawGet_any cs (.slice va cs.length vc) W (At.kept kept_code HV.out h) hcl)
  have HDP := hide (fun W (h : Below w.heap.size w W) => drawParse_any ds (.slice ua ds.length uc) W (At.kept kept_code HU.out h) hdl)
  have HPS := hide hps
  have hmz := drEnc_sz cs
  have hf := tk_lt cs (cs.length / 2 + 1) 7 (by decide)
  have hc := tk_lt cs (cs.length / 2 + 1 + 1) 4 (by decide)
  have hnz : (drNameOf (tk cs (cs.length / 2) 8) (drEnc cs)).size ≤ 9223372036854775807 := by
    unfold drNameOf
    split
    · rename_i h
      have h1 : (drEnc cs).length - 1 < (drEnc cs).length := by omega
      rw [List.getD_eq_getElem?_getD, List.getElem?_eq_getElem h1]
      have h2 : segSz ((drEnc cs)[(drEnc cs).length - 1]) ≤ sumOf segSz (drEnc cs) := by
        have := sum_take segSz (drEnc cs) _ h1
        have := sum_le segSz (drEnc cs) ((drEnc cs).length - 1 + 1)
        omega
      show ((drEnc cs)[(drEnc cs).length - 1]).name.size ≤ _
      have h4 : ((drEnc cs)[(drEnc cs).length - 1]).name.size + lenSum fieldSz ((drEnc cs)[(drEnc cs).length - 1]).fields = segSz ((drEnc cs)[(drEnc cs).length - 1]) := rfl
      unfold msgSz lenSum at hmz
      omega
    · have : (drGetNames.getD (tk cs (cs.length / 2) 8) ⟨#[]⟩).size ≤ 3 := by
        rw [List.getD_eq_getElem?_getD]
        by_cases h : tk cs (cs.length / 2) 8 < drGetNames.length
        · rw [List.getElem?_eq_getElem h]
          exact (by decide : ∀ x ∈ drGetNames, x.size ≤ 3) _ (List.getElem_mem h)
        · rw [List.getElem?_eq_none (by omega)]; exact Nat.zero_le _
      omega
  obtain ⟨nm, hnm⟩ : ∃ t, drNameOf (tk cs (cs.length / 2) 8) (drEnc cs) = t := ⟨_, rfl⟩
  obtain ⟨F, hF⟩ : ∃ t, tk cs (cs.length / 2 + 1) 7 = t := ⟨_, rfl⟩
  obtain ⟨C, hC⟩ : ∃ t, tk cs (cs.length / 2 + 1 + 1) 4 = t := ⟨_, rfl⟩
  obtain ⟨m, hmm⟩ : ∃ t, drEnc cs = t := ⟨_, rfl⟩
  rw [hnm] at HDG hnz
  rw [hF] at HDG hf
  rw [hC] at HDG hc
  rw [hmm] at HDG hmz
  obtain ⟨n, hn⟩ : ∃ n, m.length = n := ⟨_, rfl⟩
  have hml : m.length ≤ 100000 := by unfold msgSz lenSum at hmz; omega
  have hfl : ∀ i (h : i < m.length), m[i].fields.length ≤ 1048576 := fun i h => by
    have h1 := sum_take segSz m i h
    have h2 := sum_le segSz m (i + 1)
    have h3 : segSz m[i] ≤ sumOf segSz m := by omega
    have h4 : m[i].name.size + (m[i].fields.length + sumOf fieldSz m[i].fields) = segSz m[i] := rfl
    unfold msgSz lenSum at hmz
    omega
  have HMZ := hide (Nat.le_trans hmz (by decide : 100000 ≤ 1048576))
  have HFL := hide hfl
  have HNZ := hide hnz
  have HMLn := hide hml
  have HN := hide hn
  clear hnm hF hC hmm hmz hnz hm hps hfl hml hn
  go_enter Tryz.func3, Tryz.ntmps3
  go_wp2_with fail
  refine (HDG.out w HB0.out).mono ?_
  rintro e W1 ⟨u1, rfl, hs1, hb1⟩
  obtain ⟨a1, c1, rfl, _⟩ := hs1.form
  rw [HN.out] at hs1
  obtain ⟨X1, hX1⟩ : ∃ x, W1.alloc (Obj.cells #[.slice a1 n c1] 25) = x := ⟨_, rfl⟩
  have bX1 : Below W1.heap.size W1 X1 := by rw [← hX1]; exact (Below.refl _ _).alloc (Nat.le_refl _) _
  have HBX1 := hide (bjoin bX1 hb1)
  have HBOX1 : Hid (Box X1 W1.heap.size 25 #[.slice a1 n c1]) := by rw [← hX1]; exact Box.new _ _ _
  have HS1 := hide (At.kept kept_seg hs1 bX1)
  have HX1 := hide hX1
  rw [HN.out]
  clear hs1 hb1 hX1 bX1
  go_wp2_with fail
  (try rw [HX1.out])
  refine (HDG.out X1 HBX1.out).mono ?_
  rintro e W2 ⟨u2, rfl, hs2, hb2⟩
  obtain ⟨a2, c2, rfl, _⟩ := hs2.form
  rw [HN.out] at hs2
  obtain ⟨X2, hX2⟩ : ∃ x, W2.alloc (Obj.cells #[.slice a2 n c2] 25) = x := ⟨_, rfl⟩
  have bX2 : Below W2.heap.size W2 X2 := by rw [← hX2]; exact (Below.refl _ _).alloc (Nat.le_refl _) _
  have HB12 := hide (bjoin bX2 hb2)
  have HBX2 := hide (bjoin (bjoin bX2 hb2) HBX1.out)
  have HK1 : Hid (∀ X, Below X2.heap.size X2 X → X.cell? ⟨W1.heap.size, 0, none⟩ = some (.slice a1 n c1)) := fun X h => (HBOX1.out.below (bjoin h HB12.out)).cell 0 (by simp)
  have HBOX2 : Hid (Box X2 W2.heap.size 25 #[.slice a2 n c2]) := by rw [← hX2]; exact Box.new _ _ _
  have HK2 : Hid (∀ X, Below X2.heap.size X2 X → X.cell? ⟨W2.heap.size, 0, none⟩ = some (.slice a2 n c2)) := fun X h => (HBOX2.out.below h).cell 0 (by simp)
  have HS2 := hide (At.kept kept_seg hs2 bX2)
  have HS1' := hide (At.kept kept_seg HS1.out HB12.out)
  have HX2 := hide hX2
  have k1 := HK1.out X2 (Below.refl _ _)
  rw [← hX2] at k1
  rw [HN.out]
  clear hs2 hb2 hX2 bX2
  go_wp2_with fail
  (try rw [HX2.out])
  refine (encodeImpl_any m (.slice a1 n c1) X2 HMZ.out HS1'.out).mono ?_
  rintro e W3 ⟨rfl, hb3⟩
  have HENC := hide (encoded_sz m)
  obtain ⟨s, hse⟩ : ∃ s, encoded m = s := ⟨_, rfl⟩
  have HSE := hide hse
  rw [hse]
  have KS : Hid (∀ X, Below X2.heap.size X2 X → X.cell? ⟨W1.heap.size, 0, none⟩ = some (.slice a1 n c1) ∧ X.cell? ⟨W2.heap.size, 0, none⟩ = some (.slice a2 n c2)) := fun X h => ⟨HK1.out X h, HK2.out X h⟩
  have HES := hide (fun X (h : Below X2.heap.size X2 X) => encodeSpec_any m (.slice a2 n c2) X HMZ.out (At.kept kept_seg HS2.out h))
  rw [hse] at HES
  have HGI := hide (fun X (h : Below X2.heap.size X2 X) => getImpl_any m nm (F : Int) (C : Int) (.slice a1 n c1) X HNZ.out (by have := HMLn.out; omega) (by omega) (by omega) (by omega) (by omega) (At.kept kept_seg HS1'.out h) HMZ.out)
  have HGS := hide (fun X (h : Below X2.heap.size X2 X) => getSpec_any m nm (F : Int) (C : Int) (.slice a2 n c2) X HNZ.out (by have := HMLn.out; omega) (by omega) (by omega) (by omega) (by omega) (At.kept kept_seg HS2.out h) HFL.out)
  obtain ⟨gt, hgt⟩ : ∃ g, getFrom m nm (F : Int) (C : Int) = g := ⟨_, rfl⟩
  rw [hgt] at HGI HGS
  obtain ⟨D, hDe⟩ : ∃ D, W3.drew = D := ⟨_, rfl⟩
  have hD0 : Below X2.heap.size X2 W3.drew := hb3.drew
  have hD : Below X2.heap.size X2 D := by rw [← hDe]; exact hD0
  clear hse hgt k1
  go_upto_region 6 with fail
  go_region_held3 (fun X => X.cell? ⟨W1.heap.size, 0, none⟩ = some (.slice a1 n c1) ∧ X.cell? ⟨W2.heap.size, 0, none⟩ = some (.slice a2 n c2))
    (first | with_reducible exact KS.out _ hD0 | with_reducible exact KS.out _ hD | with_reducible exact KS.out _ hB6 | with_reducible exact KS.out _ hB5 | with_reducible exact KS.out _ hB4)
    (first
      | (go_at_call 8; refine (HGS.out _ hB5).mono ?_; rintro e W6 ⟨rfl, hb6⟩; have hB6 : Below X2.heap.size X2 W6 := bjoin hb6 hB5)
      | (go_at_call 7; refine (HGI.out _ hB4).mono ?_; rintro e W5 ⟨rfl, hb5⟩; have hB5 : Below X2.heap.size X2 W5 := bjoin hb5 hB4)
      | (go_at_call 6; refine (HES.out _ hD).mono ?_; rintro e W4 ⟨rfl, hb4⟩; have hB4 : Below X2.heap.size X2 W4 := bjoin hb4 hD))
  have HB6 := hide hB6
  have HNI : Hid (m.length = n) := HN.out
  have HPB : Hid (0 < s.size → parseL s = .ok m) := fun h0 => by
    have hs := HSE.out
    cases hb : msgB m
    · rw [encoded_no hb] at hs; rw [← hs] at h0; exact absurd h0 (by decide)
    · rw [← hs]; exact parse_encoded hb
  have HSS : Hid (s.size ≤ 40000) := by rw [← HSE.out]; exact HENC.out
  clear hb3 hD0 hD hDe hb4 hB4 hb5 hB5 hb6 hB6
  go_upto_if 66 with fail
  go_cut [66] (fun v66 wx => Below X2.heap.size X2 wx)
  case first =>
    by_cases hs0 : (s.size : Int) > 0
    · have hpb := HPB.out (by omega)
      have HPA := hide (parse_any s W6 (by have := HSS.out; omega) (HM.out.kept (bjoin HB6.out HBX2.out)))
      go_wp2_with fail
      refine HPA.out.mono ?_
      intro e W7 hp7
      obtain ⟨a7, c7, rfl, hs7, hb7⟩ := parse_postm hp7
      rw [hpb] at hs7 ⊢
      have hs7' : SegsAt 0 W7 (.slice a7 n c7) m := by rw [← HNI.out]; exact hs7
      have e7 : okCm (.ok m) = 0 := rfl
      have e8 : (okLm (.ok m)).length = n := HNI.out
      rw [e7, e8]
      obtain ⟨X7, hX7⟩ : ∃ x, W7.alloc (Obj.cells #[.slice a7 n c7] 25) = x := ⟨_, rfl⟩
      have bX7 : Below W7.heap.size W7 X7 := by rw [← hX7]; exact (Below.refl _ _).alloc (Nat.le_refl _) _
      have hBX7 : Below X2.heap.size X2 X7 := bjoin bX7 (bjoin hb7 HB6.out)
      have k2 := HK2.out X7 hBX7
      rw [← hX7] at k2
      have HWM := hide (wMsg_yes m (.slice a7 n c7) (.slice a2 n c2) X7 (At.kept kept_seg hs7' bX7) (At.kept kept_seg HS2.out hBX7))
      have HX7 := hide hX7
      have HB7 := hide hBX7
      clear hs7 hs7' hb7 hp7 bX7 hBX7 hX7 e7 e8 hpb
      go_wp2_with fail
      (try rw [HX7.out])
      refine HWM.out.mono ?_
      rintro e W8 ⟨rfl, hb8⟩
      have HB8 := hide (bjoin hb8 HB7.out)
      go_wp2_with fail
      go_meet
      case rel => exact HB8.out
    · go_wp2_with fail
      go_meet
      case rel => exact HB6.out
  case rest =>
    obtain ⟨Z, rfl⟩ : ∃ x, x = wc := ⟨_, rfl⟩
    have HBZ := hide (bjoin hcut HBX2.out)
    clear hcut
    go_wp2_with fail
    refine (HDP.out Z HBZ.out).mono ?_
    rintro e Z1 ⟨t, rfl, ht, hbz1⟩
    have HBZ1 := hide (bjoin hbz1 HBZ.out)
    have HP1 := hide (parseSpec_any t Z1 (by omega))
    clear hbz1
    go_wp2_with fail
    refine HP1.out.mono ?_
    intro e Z2 hp2
    obtain ⟨a3, c3, rfl, hs3, hb3⟩ := parse_postm hp2
    have HXS := hide (HPS.out t)
    have HOK : Hid (okCm (parseL t) = 0 → parseL t = .ok (okLm (parseL t)) ∨ okLm (parseL t) = []) := fun _ => by
      cases parseL t with
      | ok xs => exact .inl rfl
      | error _ => exact .inr rfl
    have hkc : 0 ≤ okCm (parseL t) := by
      cases parseL t with
      | ok xs => exact Int.le_refl _
      | error k => exact Int.natCast_nonneg k
    obtain ⟨xs, hxs⟩ : ∃ x, okLm (parseL t) = x := ⟨_, rfl⟩
    obtain ⟨kc, hkce⟩ : ∃ x, okCm (parseL t) = x := ⟨_, rfl⟩
    have HXE := hide hxs
    have HKE := hide hkce
    obtain ⟨nx, hnx⟩ : ∃ x, xs.length = x := ⟨_, rfl⟩
    rw [hxs] at hs3 HXS ⊢
    rw [hkce] at hkc ⊢
    have HNX := hide hnx
    rw [hnx] at hs3 ⊢
    obtain ⟨X3, hX3⟩ : ∃ x, Z2.alloc (Obj.cells #[.slice a3 nx c3] 25) = x := ⟨_, rfl⟩
    have bX3 : Below Z2.heap.size Z2 X3 := by rw [← hX3]; exact (Below.refl _ _).alloc (Nat.le_refl _) _
    have HBX3 := hide (bjoin bX3 (bjoin hb3 HBZ1.out))
    have HBOX3 : Hid (Box X3 Z2.heap.size 25 #[.slice a3 nx c3]) := by rw [← hX3]; exact Box.new _ _ _
    have HS3 := hide (At.kept kept_seg hs3 bX3)
    have HP2 := hide (parse_any t X3 (by omega) (HM.out.kept HBX3.out))
    have HX3 := hide hX3
    clear hs3 hb3 hp2 bX3 hX3 hnx hxs hkce
    go_wp2_with fail
    (try rw [HX3.out])
    refine HP2.out.mono ?_
    intro e Z3 hp3
    obtain ⟨a4, c4, rfl, hs4, hb4⟩ := parse_postm hp3
    rw [HXE.out] at hs4 ⊢
    rw [HKE.out, HNX.out]
    rw [HNX.out] at hs4
    obtain ⟨X4, hX4⟩ : ∃ x, Z3.alloc (Obj.cells #[.slice a4 nx c4] 25) = x := ⟨_, rfl⟩
    have bX4 : Below Z3.heap.size Z3 X4 := by rw [← hX4]; exact (Below.refl _ _).alloc (Nat.le_refl _) _
    have hB34 := bjoin bX4 hb4
    have HBX4 := hide (bjoin hB34 HBX3.out)
    have HBOX4 : Hid (Box X4 Z3.heap.size 25 #[.slice a4 nx c4]) := by rw [← hX4]; exact Box.new _ _ _
    have HK3 : Hid (∀ X, Below X4.heap.size X4 X → X.cell? ⟨Z2.heap.size, 0, none⟩ = some (.slice a3 nx c3)) := fun X h => (HBOX3.out.below (bjoin h hB34)).cell 0 (by simp)
    have HK4 : Hid (∀ X, Below X4.heap.size X4 X → X.cell? ⟨Z3.heap.size, 0, none⟩ = some (.slice a4 nx c4)) := fun X h => (HBOX4.out.below h).cell 0 (by simp)
    have HS4 := hide (At.kept kept_seg hs4 bX4)
    have HS3' := hide (At.kept kept_seg HS3.out hB34)
    have HW1 := hide (wMsg_yes xs (.slice a4 nx c4) (.slice a3 nx c3) X4 HS4.out HS3'.out)
    have k3 := HK3.out X4 (Below.refl _ _)
    rw [← hX4] at k3
    have HX4 := hide hX4
    clear hs4 hb4 hp3 bX4 hX4 hB34
    go_wp2_with fail
    (try rw [HX4.out])
    refine HW1.out.mono ?_
    rintro e Z4 ⟨rfl, hb4⟩
    have HB4 := hide hb4
    clear hb4 k3
    by_cases hk0 : kc = 0
    · subst hk0
      have k3 := HK3.out Z4 HB4.out
      have HE1 := hide (encodeSpec_any xs (.slice a3 nx c3) Z4 HXS.out (At.kept kept_seg HS3'.out HB4.out))
      have hez := encoded_sz xs
      obtain ⟨s2, hs2e⟩ : ∃ x, encoded xs = x := ⟨_, rfl⟩
      rw [hs2e] at HE1 hez
      have HSE2 := hide hs2e
      clear hs2e
      go_wp2_with fail
      refine HE1.out.mono ?_
      rintro e Z5 ⟨rfl, hb5⟩
      have HB5 := hide (bjoin hb5 HB4.out)
      clear hb5 k3
      by_cases hs0 : (s2.size : Int) = 0
      · have hs0b : ((s2.size : Int) == 0) = true := by simpa using hs0
        have HFB := hide (bjoin HB5.out HBX4.out)
        go_wp2_with fail
        go_ret
        exact ⟨rfl, HFB.out⟩
      · have hs0b : ((s2.size : Int) == 0) = false := by simpa using hs0
        have HPB2 : Hid (parseL s2 = .ok xs) := by
          have hs := HSE2.out
          cases hb : msgB xs
          · rw [encoded_no hb] at hs; exact absurd (by rw [← hs]; exact rfl) hs0
          · rw [← hs]; exact parse_encoded hb
        have k4 := HK4.out Z5 HB5.out
        have HE2 := hide (encodeImpl_any xs (.slice a4 nx c4) Z5 HXS.out (At.kept kept_seg HS4.out HB5.out))
        rw [HSE2.out] at HE2
        go_wp2_with fail
        refine HE2.out.mono ?_
        rintro e Z6 ⟨rfl, hb6⟩
        have HB6' := hide (bjoin hb6 HB5.out)
        have HP3 := hide (parse_any s2 Z6 (by omega) (HM.out.kept (bjoin HB6'.out HBX4.out)))
        clear hb6 k4
        go_wp2_with fail
        refine HP3.out.mono ?_
        intro e Z7 hp7
        obtain ⟨a7, c7, rfl, hs7, hb7⟩ := parse_postm hp7
        rw [HPB2.out] at hs7 ⊢
        have hs7' : SegsAt 0 Z7 (.slice a7 nx c7) xs := by rw [← HNX.out]; exact hs7
        have e7 : okCm (.ok xs) = 0 := rfl
        have e8 : (okLm (.ok xs)).length = nx := HNX.out
        rw [e7, e8]
        obtain ⟨X7, hX7⟩ : ∃ x, Z7.alloc (Obj.cells #[.slice a7 nx c7] 25) = x := ⟨_, rfl⟩
        have bX7 : Below Z7.heap.size Z7 X7 := by rw [← hX7]; exact (Below.refl _ _).alloc (Nat.le_refl _) _
        have hBX7 : Below X4.heap.size X4 X7 := bjoin bX7 (bjoin hb7 HB6'.out)
        have k2 := HK3.out X7 hBX7
        rw [← hX7] at k2
        have HWM := hide (wMsg_yes xs (.slice a7 nx c7) (.slice a3 nx c3) X7 (At.kept kept_seg hs7' bX7) (At.kept kept_seg HS3'.out hBX7))
        have HX7 := hide hX7
        have HB7 := hide hBX7
        clear hs7 hs7' hb7 hp7 bX7 hBX7 hX7 e7 e8
        go_wp2_with fail
        (try rw [HX7.out])
        refine HWM.out.mono ?_
        rintro e W8 ⟨rfl, hb8⟩
        have HB8 := hide (bjoin (bjoin hb8 HB7.out) HBX4.out)
        go_wp2_with fail
        go_ret
        exact ⟨rfl, HB8.out⟩
    · have hk0b : (kc == 0) = false := by simpa using hk0
      have HFB := hide (bjoin HB4.out HBX4.out)
      go_wp2_with fail
      go_ret
      exact ⟨rfl, HFB.out⟩
end Go.Proofs.YtcphfhfockjljaaGreatDoor.Msg
