import Derived.Test.YtcphfhfockjljaaDoorDelWritten
import Derived.Test.YtcphfhfockjljaaDoorDrawSizewithDrawEncwithWSame
import Derived.Test.YtcphfhfockjljaaDoorImplMsgInwithImplEncodewithParsePieces
import Derived.Test.YtcphfhfockjljaaDoorMsgEncodewithMsgInjwithParseData
import Derived.Test.YtcphfhfockjljaaDoorImplTextwithImplParse
import Derived.Test.YtcphfhfockjljaaDoorParseSegswithParseBackwithDelPure
namespace Go.Proofs.YtcphfhfockjljaaDoor.Msg
open Go.ChangeShapes Go.WideShapes Go.ChangeAt Go.RowKit
set_option linter.unusedVariables false
set_option linter.unusedSimpArgs false

/-! the law of FnDelims -/
def pickC (bs : List UInt8) (i : Nat) : Nat := if bs.length = 0 then i else (bs.getD (i % bs.length) 0).toNat
theorem pickC_le (bs : List UInt8) (i : Nat) (h : i ≤ 1000) : pickC bs i ≤ 1000 := by
  unfold pickC
  split
  · exact h
  · have := (bs.getD (i % bs.length) 0).toNat_lt; omega
set_option maxRecDepth 100000 in
set_option maxHeartbeats 1000000 in
theorem pickC_any (xs : List UInt8) (v : Value) (i : Nat) (w : World) {lo : Nat} (hv : CodeAt lo w v xs) (hi : i ≤ 1000) :
    Calls Tryd.prog 7 #[v, .int .i64 (i : Int)] w fun e w' => e = .returned (.int .i64 ((pickC xs i : Nat) : Int)) ∧ w' = w := by
  have hl := hv.1
  obtain ⟨a, cap, rfl, hc⟩ := code_form hv
  clear hv
  by_cases h0 : xs.length = 0
  · have HX : Hid (pickC xs i = i) := by unfold pickC; rw [if_pos h0]; exact rfl
    rw [h0]
    clear hc
    go_enter Tryd.func7, Tryd.ntmps7
    go_wp2_with fail
    go_ret
    exact ⟨by rw [HX.out]; rfl, rfl⟩
  · obtain ⟨q, hq⟩ : ∃ q, i % xs.length = q := ⟨_, rfl⟩
    have hql : q < xs.length := by rw [← hq]; exact Nat.mod_lt _ (by omega)
    have HX : Hid (pickC xs i = (xs.getD q 0).toNat) := by unfold pickC; rw [if_neg h0, hq]; exact rfl
    obtain ⟨b, off, rfl, hb, hcell⟩ := hc q hql
    obtain ⟨c, hcc⟩ : ∃ c : Nat, (xs.getD q 0).toNat = c := ⟨_, rfl⟩
    have hc6 : c ≤ 255 := by have := (xs.getD q 0).toNat_lt; omega
    rw [hcc] at HX hcell
    obtain ⟨n, hn⟩ : ∃ n, xs.length = n := ⟨_, rfl⟩
    rw [hn] at h0 hq hql hl
    rw [hn]
    have h1 : (i : Int).tmod (n : Int) = (q : Int) := by rw [Int.tmod_eq_emod_of_nonneg (by omega), ← hq]; omega
    have h1' : (i : Int) % (n : Int) = (q : Int) := by rw [← hq]; omega
    have h2 : (q : Int) < (n : Int) := by omega
    have h3 : ¬ (n : Int) = 0 := by omega
    have h3b : ((n : Int) == 0) = false := by simpa using h3
    have h4 : (0 : Int) ≤ (c : Int) := by omega
    have h5 : (c : Int) ≤ 255 := by omega
    clear hc hq hcc hn
    go_enter Tryd.func7, Tryd.ntmps7
    go_wp2_with fail
    go_ret
    exact ⟨by rw [HX.out]; rfl, rfl⟩
theorem sign_at : ∀ q, q < 12 → ∀ h : q < (⟨#[33, 35, 124, 36, 94, 126, 42, 38, 95, 61, 43, 123]⟩ : ByteArray).size, (⟨#[33, 35, 124, 36, 94, 126, 42, 38, 95, 61, 43, 123]⟩ : ByteArray)[q]'h = signL.getD q 0
  | 0, _, _ => rfl
  | 1, _, _ => rfl
  | 2, _, _ => rfl
  | 3, _, _ => rfl
  | 4, _, _ => rfl
  | 5, _, _ => rfl
  | 6, _, _ => rfl
  | 7, _, _ => rfl
  | 8, _, _ => rfl
  | 9, _, _ => rfl
  | 10, _, _ => rfl
  | 11, _, _ => rfl
  | n + 12, h, _ => absurd h (by omega)
theorem list_at (d : Dl) : ∀ j (h : j < (txt d.list).size), (txt d.list)[j] = d.at j
  | 0, _ => rfl
  | 1, _ => rfl
  | 2, _ => rfl
  | 3, _ => rfl
  | 4, _ => rfl
  | n + 5, h => absurd h (by rw [txt_size]; simp [Dl.list])
theorem name_three {m : List Seg} (h : msgB m = true) : ∀ k (hk : k < m.length), m[k].name.size = 3 := fun k hk => by
  have h1 := (shape_parts h).2 (m[k], k) (by rw [List.mem_zipIdx_iff_getElem?]; simp [hk])
  obtain ⟨a, b, c, e, _⟩ := nameL (seg_all h1).1
  have : m[k].name.data.toList.length = 3 := by rw [e]; rfl
  simpa using this
set_option maxRecDepth 100000 in
set_option maxHeartbeats 16000000 in
theorem lawDelims (cs ds : List UInt8) (v u : Value) (w : World) {lo lo2 : Nat} (hv : CodeAt lo w v cs) (hu : CodeAt lo2 w u ds) (hm : Mx w) :
    Calls Tryd.prog 3 #[v, u] w fun e w' => e = .returned (.bool true) ∧ Below w.heap.size w w' := by
  have HB0 : Hid (Below w.heap.size w w) := Below.refl _ _
  have hvl := hv.1
  have hul := hu.1
  have HV := hide hv
  have HU := hide hu
  obtain ⟨va, vc, rfl, _⟩ := code_form hv
  obtain ⟨ua, uc, rfl, _⟩ := code_form hu
  clear hv hu
  by_cases hl1 : (cs.length : Int) > 1048576
  · go_enter Tryd.func3, Tryd.ntmps3
    go_wp2_with fail
    all_goals
      go_ret
      exact ⟨rfl, HB0.out⟩
  by_cases hl2 : (ds.length : Int) > 1048576
  · go_enter Tryd.func3, Tryd.ntmps3
    go_wp2_with fail
    all_goals
      go_ret
      exact ⟨rfl, HB0.out⟩
  have hcl : cs.length ≤ 1048576 := by omega
  have hdl : ds.length ≤ 1048576 := by omega
  have HM := hide hm
  have HDE := hide (fun W (h : Below w.heap.size w W) => drawEncode_any cs (.slice va cs.length vc) W (At.kept kept_code HV.out h) hcl)
  have HPK := hide (fun i (hi : i ≤ 1000) W (h : Below w.heap.size w W) => pickC_any ds (.slice ua ds.length uc) i W (At.kept kept_code HU.out h) hi)
  have hmz := drEnc_sz cs
  obtain ⟨m, hmm⟩ : ∃ t, drEnc cs = t := ⟨_, rfl⟩
  rw [hmm] at HDE hmz
  obtain ⟨n, hn⟩ : ∃ n, m.length = n := ⟨_, rfl⟩
  have HMZ := hide (Nat.le_trans hmz (by decide : 100000 ≤ 1048576))
  have HN := hide hn
  clear hmm hmz hm hn
  go_enter Tryd.func3, Tryd.ntmps3
  go_wp2_with fail
  refine (HDE.out w HB0.out).mono ?_
  rintro e W1 ⟨u1, rfl, hs1, hb1⟩
  obtain ⟨a1, c1, rfl, _⟩ := hs1.form
  rw [HN.out] at hs1
  obtain ⟨X1, hX1⟩ : ∃ x, W1.alloc (Obj.cells #[.slice a1 n c1] 25) = x := ⟨_, rfl⟩
  have bX1 : Below W1.heap.size W1 X1 := by rw [← hX1]; exact (Below.refl _ _).alloc (Nat.le_refl _) _
  have HBX1 := hide (bjoin bX1 hb1)
  have HBOX1 : Hid (Box X1 W1.heap.size 25 #[.slice a1 n c1]) := by rw [← hX1]; exact Box.new _ _ _
  have HS1 := hide (At.kept kept_seg hs1 bX1)
  have HX1 := hide hX1
  have HES := hide (encodeSpec_any m (.slice a1 n c1) X1 HMZ.out HS1.out)
  obtain ⟨s, hse⟩ : ∃ s, encoded m = s := ⟨_, rfl⟩
  have HSE := hide hse
  rw [hse] at HES
  rw [HN.out]
  clear hs1 hb1 hX1 bX1 hse
  go_wp2_with fail
  (try rw [HX1.out])
  refine HES.out.mono ?_
  rintro e W2 ⟨rfl, hb2⟩
  have HB2 := hide hb2
  have HBW2 := hide (bjoin hb2 HBX1.out)
  have HK1 : Hid (∀ X, Below W2.heap.size W2 X → X.cell? ⟨W1.heap.size, 0, none⟩ = some (.slice a1 n c1)) := fun X h => (HBOX1.out.below (bjoin h HB2.out)).cell 0 (by simp)
  have HS2 := hide (At.kept kept_seg HS1.out HB2.out)
  clear hb2
  by_cases hs0 : (s.size : Int) = 0
  · have hs0b : ((s.size : Int) == 0) = true := by simpa using hs0
    go_wp2_with fail
    refine (HDE.out W2 HBW2.out).mono ?_
    rintro e W3 ⟨u3, rfl, hs3, hb3⟩
    have HEI := hide (encodeImpl_any m u3 W3 HMZ.out hs3)
    rw [HSE.out] at HEI
    have HB3 := hide (bjoin hb3 HBW2.out)
    clear hs3 hb3
    go_wp2_with fail
    refine HEI.out.mono ?_
    rintro e W4 ⟨rfl, hb4⟩
    have HB4 := hide (bjoin hb4 HB3.out)
    clear hb4
    go_wp2_with fail
    go_ret
    exact ⟨rfl, HB4.out⟩
  have hs0b : ((s.size : Int) == 0) = false := by simpa using hs0
  have HMB : Hid (msgB m = true) := by
    cases hb : msgB m
    · have hs := HSE.out; rw [encoded_no hb] at hs; exact absurd (by rw [← hs]; exact rfl) hs0
    · exact rfl
  have hp0 := pickC_le ds 0 (by omega)
  have hp1 := pickC_le ds 1 (by omega)
  have HP0 := hide (HPK.out 0 (by omega) W2 HBW2.out)
  have HP1 := hide (HPK.out 1 (by omega) W2 HBW2.out)
  obtain ⟨p0, hp0e⟩ : ∃ p, pickC ds 0 = p := ⟨_, rfl⟩
  obtain ⟨p1, hp1e⟩ : ∃ p, pickC ds 1 = p := ⟨_, rfl⟩
  rw [hp0e] at hp0 HP0
  rw [hp1e] at hp1 HP1
  obtain ⟨at_, hat⟩ : ∃ q, p0 % 12 = q := ⟨_, rfl⟩
  obtain ⟨bt, hbt⟩ : ∃ q, p1 % 2 = q := ⟨_, rfl⟩
  have hat12 : at_ < 12 := by omega
  have hbt2 : bt < 2 := by omega
  have ht0 : (p0 : Int).tmod 12 = (at_ : Int) := by rw [Int.tmod_eq_emod_of_nonneg (by omega), ← hat]; omega
  have ht1 : (p1 : Int).tmod 2 = (bt : Int) := by rw [Int.tmod_eq_emod_of_nonneg (by omega), ← hbt]; omega
  have ht0' : (p0 : Int) % 12 = (at_ : Int) := by rw [← hat]; omega
  have ht1' : (p1 : Int) % 2 = (bt : Int) := by rw [← hbt]; omega
  clear hp0e hp1e hat hbt
  go_wp2_with fail
  refine HP0.out.mono ?_
  rintro e W3 ⟨rfl, hW3⟩
  rw [hW3]
  clear hW3 W3
  go_wp2_with fail
  refine HP1.out.mono ?_
  rintro e W3 ⟨rfl, hW3⟩
  rw [hW3]
  clear hW3 W3
  go_wp2_with fail
  obtain ⟨st, hst⟩ : ∃ q, 5 + 2 * bt = q := ⟨_, rfl⟩
  have hsti : (5 : Int) + 2 * (bt : Int) = (st : Int) := by omega
  have hst7 : st ≤ 7 := by omega
  have HOK : Hid ((dlOf at_ st).Ok) := by rw [← hst]; exact dlOf_ok at_ bt hat12 hbt2
  have HBE := hide (Buf.empty_lit W2)
  have HBA : Hid (Below W2.heap.size W2 (W2.alloc (Obj.cells #[] 5))) := (Below.refl _ _).alloc (Nat.le_refl _) _
  (try rw [hsti])
  clear hst ht0 ht1 ht0' ht1'
  go_loopg [10, 11] 5 (fun q v10 j wr => ∃ k : Nat, k ≤ 5 ∧ q = 5 - k ∧ j = .int .i64 (k : Int) ∧ Buf W2.heap.size wr v10 ((dlOf at_ st).list.take k) ∧ Below W2.heap.size W2 wr)
  case atStart => exact ⟨0, Nat.zero_le _, rfl, rfl, HBE.out, HBA.out⟩
  case round =>
    obtain ⟨k, hk, rfl, rfl, hbuf, hb⟩ := hrel
    obtain ⟨Y, rfl⟩ : ∃ x, x = wr := ⟨_, rfl⟩
    obtain ⟨V, rfl⟩ : ∃ x, x = u10 := ⟨_, rfl⟩
    by_cases hk5 : k < 5
    · have hki : (k : Int) < 5 := by omega
      obtain ⟨ks, hks⟩ : ∃ q, k * st = q := ⟨_, rfl⟩
      have hks28 : ks ≤ 28 := by rw [← hks]; exact Nat.mul_le_mul (by omega : k ≤ 4) hst7
      have hksi : (k : Int) * (st : Int) = (ks : Int) := by rw [← hks]; exact (Int.natCast_mul k st).symm
      obtain ⟨q, hq⟩ : ∃ q, (at_ + ks) % 12 = q := ⟨_, rfl⟩
      have hq12 : q < 12 := by omega
      have hqi : (q : Int) < 12 := by omega
      have hqt : ((at_ : Int) + (ks : Int)).tmod 12 = (q : Int) := by rw [Int.tmod_eq_emod_of_nonneg (by omega), ← hq]; omega
      have hqs : q < (⟨#[33, 35, 124, 36, 94, 126, 42, 38, 95, 61, 43, 123]⟩ : ByteArray).size := hq12
      have HSG := hide (sign_at q hq12 hqs)
      have HTK := hide (dlOf_take at_ st k hk5)
      have HSN : Hid (sgn (at_ + k * st) = signL.getD q 0) := by unfold sgn; rw [hks, hq]; exact rfl
      obtain ⟨av, cv, hv2, _, _⟩ := hbuf.form
      obtain ⟨m2, hm2⟩ : ∃ z, ((dlOf at_ st).list.take k).length = z := ⟨_, rfl⟩
      have hm5 : m2 ≤ 5 := by rw [← hm2, List.length_take]; omega
      rw [hm2] at hv2
      subst hv2
      obtain ⟨v', w', hr, hb', hg'⟩ := hbuf.run1 ((⟨#[33, 35, 124, 36, 94, 126, 42, 38, 95, 61, 43, 123]⟩ : ByteArray)[q]'hqs) 22 hb.size (by omega)
      have HF : Hid (Buf W2.heap.size w' v' ((dlOf at_ st).list.take (k + 1)) ∧ Below W2.heap.size W2 w') := ⟨by rw [HTK.out, HSN.out, ← HSG.out]; exact hb', hb.trans (hg'.below hbuf.own hb.size)⟩
      clear hb' hg' hbuf hb hm2 hq hks
      go_wp2_with (first | (at_builtin; refine wpList_app rfl _ _ 22 rfl hr (by first | rfl | simp [Act.eval, Act.put]) (by first | rfl | simp [Act.eval, Act.put]) ?_))
      go_roundg (5 - (k + 1))
      case measure => omega
      case rel => exact ⟨k + 1, by omega, rfl, by go_num, HF.out.1, HF.out.2⟩
    · obtain rfl : k = 5 := by omega
      have hst := hbuf.string
      have e5 : (dlOf at_ st).list.take 5 = (dlOf at_ st).list := rfl
      rw [e5] at hst
      have HBY := hide hb
      have k1 := HK1.out Y hb
      obtain ⟨d, hd⟩ : ∃ d, dlOf at_ st = d := ⟨_, rfl⟩
      rw [hd] at hst HOK
      have HSY := hide (At.kept kept_seg HS2.out hb)
      have HWR := hide (wWritten_any m (.slice a1 n c1) (txt d.list) d Y HOK.out (by rw [txt_size]; rfl) (list_at d) (name_three HMB.out) HMZ.out HSY.out)
      have hst' : Sem.run Tryd.prog (convert 22 9 V) Y = .ok (.string (txt d.list)) Y := hst
      obtain ⟨tx, htx⟩ : ∃ t, txt (msgD d m) = t := ⟨_, rfl⟩
      have HTX := hide htx
      rw [htx] at HWR
      obtain ⟨dt, hdt⟩ : ∃ t, txt d.list = t := ⟨_, rfl⟩
      rw [hdt] at HWR hst'
      have htz : tx.size ≤ 6291456 := by rw [← htx, txt_size]; have := msgD_le d m; have := HMZ.out; omega
      clear hbuf hb hst hd htx hdt e5
      go_wp2_with fail
      refine HWR.out.mono ?_
      rintro e Y2 ⟨rfl, hb3⟩
      have HB3 := hide (bjoin hb3 HBY.out)
      have HBT := hide (bjoin HB3.out HBW2.out)
      clear hb3 k1 hst'
      by_cases htl : (tx.size : Int) > 40000
      · go_wp2_with fail
        go_ret
        exact ⟨rfl, HBT.out⟩
      · have HPB : Hid (parseL tx = .ok m) := by
          rw [← HTX.out]
          have hmb := HMB.out
          unfold msgB at hmb
          simp only [Bool.and_eq_true] at hmb
          exact parse_back HOK.out m hmb.1 (by have h := HTX.out; have : (txt (msgD d m)).size = (msgD d m).length := txt_size _; rw [h] at this; omega)
        have HPA := hide (parse_any tx Y2 (by omega) (HM.out.kept HBT.out))
        go_wp2_with fail
        refine HPA.out.mono ?_
        intro e Y3 hp7
        rw [HPB.out] at hp7
        obtain ⟨u7, c7', rfl, _, h72, h73⟩ := hp7
        obtain ⟨rfl, bs7, ho7, _, _⟩ := h72 m rfl
        have hs7 : SegsAt 0 Y3 u7 m := OAt.toAt toAt_seg ho7 fun _ _ => Nat.zero_le _
        obtain ⟨a7, c7, rfl, _⟩ := hs7.form
        rw [HN.out] at hs7
        obtain ⟨X7, hX7⟩ : ∃ x, Y3.alloc (Obj.cells #[.slice a7 n c7] 25) = x := ⟨_, rfl⟩
        have bX7 : Below Y3.heap.size Y3 X7 := by rw [← hX7]; exact (Below.refl _ _).alloc (Nat.le_refl _) _
        have hBX7 : Below W2.heap.size W2 X7 := bjoin bX7 (bjoin h73 HB3.out)
        have HBOX7 : Hid (Box X7 Y3.heap.size 25 #[.slice a7 n c7]) := by rw [← hX7]; exact Box.new _ _ _
        have HS7 := hide (At.kept kept_seg hs7 bX7)
        have k2 := HK1.out X7 hBX7
        rw [← hX7] at k2
        have HWM := hide (wMsg_yes m (.slice a7 n c7) (.slice a1 n c1) X7 HS7.out (At.kept kept_seg HS2.out hBX7))
        have HX7 := hide hX7
        have HB7 := hide hBX7
        rw [HN.out]
        clear hs7 ho7 h72 h73 bX7 hBX7 hX7
        go_wp2_with fail
        (try rw [HX7.out])
        refine HWM.out.mono ?_
        rintro e Y8 ⟨rfl, hb8⟩
        have HEI := hide (encodeImpl_any m (.slice a7 n c7) Y8 HMZ.out (At.kept kept_seg HS7.out hb8))
        rw [HSE.out] at HEI
        have k7 : Y8.cell? ⟨Y3.heap.size, 0, none⟩ = some (.slice a7 n c7) := (HBOX7.out.below hb8).cell 0 (by simp)
        have HB8 := hide (bjoin hb8 (bjoin HB7.out HBW2.out))
        clear hb8 k2
        go_wp2_with fail
        refine HEI.out.mono ?_
        rintro e Y9 ⟨rfl, hb9⟩
        have HB9 := hide (bjoin hb9 HB8.out)
        clear hb9 k7
        go_wp2_with fail
        go_ret
        exact ⟨rfl, HB9.out⟩
end Go.Proofs.YtcphfhfockjljaaDoor.Msg
