import Derived.Test.YtpmnepalchgcbaaDoorPastI
import Derived.Test.YtpmnepalchgcbaaDoorLogPurewithLogBldwithBldMore
import Derived.Test.YtpmnepalchgcbaaDoorChgEncI
import Derived.Test.YtpmnepalchgcbaaDoorRecImpl2
import Derived.Test.YtpmnepalchgcbaaDoorBkOf
namespace Go.Proofs.YtpmnepalchgcbaaDoor.Msg
open Go.ChangeShapes Go.WideShapes Go.ChangeAt Go.RowKit Go.Shelf
set_option linter.unusedVariables false
set_option linter.unusedSimpArgs false

/-! impl.Snapshot -/
theorem bytes_snoc (l : List UInt8) (s : ByteArray) : Lib.byteCells l ++ Lib.strCells s = Lib.byteCells (l ++ s.data.toList) := by
  simp [Lib.byteCells, Lib.strCells]
set_option maxRecDepth 100000 in
set_option maxHeartbeats 16000000 in
theorem snapI_any (xs : List Sess) (v : Value) (w : World) {lo : Nat} (hv : SesssAt lo w v xs) (hT : TabW w) :
    Calls Tryd.prog 7 #[.agg #[v]] w fun e w' => e = .returned (.string (snapB xs)) ∧ Below w.heap.size w w' := by
  obtain ⟨a, cap, rfl, _⟩ := At.form hv
  obtain ⟨n, hnn⟩ : ∃ n, xs.length = n := ⟨_, rfl⟩
  have HN := hide hnn
  obtain ⟨w1, hw1⟩ : ∃ w1, w.alloc (Obj.cells #[.slice a xs.length cap] 29) = w1 := ⟨_, rfl⟩
  have hb1 : Below w.heap.size w w1 := by rw [← hw1]; exact (Below.refl _ _).alloc (Nat.le_refl _) _
  have HXT : Hid (Box w1 w.heap.size 29 #[.slice a xs.length cap]) := by rw [← hw1]; exact Box.new _ _ _
  have HV : Hid (∀ X, Below w1.heap.size w1 X → SesssAt lo X (.slice a xs.length cap) xs) := fun X hX => At.kept kept_sess hv (bjoin hX hb1)
  have HT : Hid (∀ X, Below w1.heap.size w1 X → TabW X) := fun X hX => hT.kept (bjoin hX hb1)
  have HBO := hide (bookOf_any xs _ w1 (HV.out w1 (Below.refl _ _)))
  have HB1 := hide hb1
  rw [hnn] at HXT HV HBO hw1 ⊢
  have KD : Hid (∀ X, Below w1.heap.size w1 X → X.cell? ⟨w.heap.size, 0, none⟩ = some (.slice a n cap)) := fun X hX => (HXT.out.below hX).cell 0 (by simp)
  have HW1 := hide hw1
  have d0 := KD.out w1 (Below.refl _ _)
  clear hv hb1 hw1 hnn hT
  go_enter Tryd.func7, Tryd.ntmps7
  go_upto_region 1 with fail
  (try rw [HW1.out])
  go_wp2_with fail
  refine HBO.out.mono ?_
  rintro e W1 ⟨hpo, hb⟩
  have HBW := hide hb
  by_cases htb : tblB xs = true
  · rw [if_pos htb] at hpo
    obtain ⟨K, M, ov, nm, ps, bs, rfl, _, _, _⟩ := hpo
    have HX : Hid (snapB xs = ⟨(outL xs).toArray⟩) := by show _ = _; unfold snapB; rw [htb]; rfl
    have HTB := hide (tblB_sess htb)
    have hn16 : n ≤ 16 := by rw [← HN.out]; exact HTB.out.1
    obtain ⟨W2, hW2⟩ : ∃ x, W1.alloc (Obj.cells #[.pointer none, .slice none 0 0] 50) = x := ⟨_, rfl⟩
    have HIB : Hid (Lib.IsBuilder 50 5 W1.heap.size W1.heap.size [] W2) := by rw [← hW2]; exact Lib.fresh_isBuilder _ _ W1
    have HB2 : Hid (Below W1.heap.size W1 W2) := by rw [← hW2]; exact (Below.refl _ _).alloc (Nat.le_refl _) _
    have HW2 := hide hW2
    have HLW : Hid (w1.heap.size ≤ W1.heap.size) := hb.size
    have KW : Hid (∀ X, Below W1.heap.size W1 X → Below w1.heap.size w1 X) := fun X hX => HBW.out.trans (hX.mono HBW.out.size)
    clear d0
    have d0 := KD.out W2 (KW.out W2 HB2.out)
    clear hb hW2 htb
    go_upto_region 4 with fail
    (try rw [HW2.out])
    go_wp2_with fail
    go_loopg [14] n (fun q i wr => ∃ (k : Nat), k ≤ n ∧ q = n - k ∧ i = .int .i64 (k : Int) ∧ Lib.IsBuilder 50 5 W1.heap.size W1.heap.size (Lib.byteCells (outL (xs.take k))) wr ∧ Below W1.heap.size W1 wr)
    case atStart => exact ⟨0, Nat.zero_le _, rfl, rfl, HIB.out, HB2.out⟩
    case round =>
      obtain ⟨k, hk, rfl, rfl, hIB, hbr⟩ := hrel
      obtain ⟨Y, rfl⟩ : ∃ x, x = wr := ⟨_, rfl⟩
      have HIY := hide hIB
      have HBR := hide hbr
      clear hIB hbr d0
      by_cases hlt : k < n
      · have hki : (k : Int) < (n : Int) := by omega
        have hk0 : (0 : Int) ≤ (k : Int) := by omega
        have hk9 : (k : Int) ≤ 100 := by omega
        have hkl : k < xs.length := by rw [HN.out]; exact hlt
        obtain ⟨s, hs⟩ : ∃ s, xs[k] = s := ⟨_, rfl⟩
        have hsB : sessB s = true := by rw [← hs]; exact HTB.out.2 k hkl
        have HSB := hide hsB
        have HSTEP : Hid (outL (xs.take (k + 1)) = outL (xs.take k) ++ snapL (pastS s)) := by show _ = _; rw [outL_step xs k hkl, hs]
        obtain ⟨a', cap', ea, hel⟩ := At.form (HV.out w1 (Below.refl _ _))
        rw [HN.out] at ea
        injection ea with e1 _ e3
        subst e1 e3
        obtain ⟨b, off, rfl, _, hbl, g⟩ := hel k hkl
        rw [hs] at g
        obtain ⟨p, hp⟩ : ∃ p, off + k * 7 = p := ⟨_, rfl⟩
        rw [hp] at g
        obtain ⟨h0, h1, h2, h3, h4, h6, z1, z2, ve, h5, hrows⟩ := g
        have hBY := KW.out Y HBR.out
        have g0 := (hBY.cell (p := ⟨b, p, none⟩) hbl).trans h0
        have g1 := (hBY.cell (p := ⟨b, p + 1, none⟩) hbl).trans h1
        have g2 := (hBY.cell (p := ⟨b, p + 2, none⟩) hbl).trans h2
        have g3 := (hBY.cell (p := ⟨b, p + 3, none⟩) hbl).trans h3
        have g4 := (hBY.cell (p := ⟨b, p + 4, none⟩) hbl).trans h4
        have g5 := (hBY.cell (p := ⟨b, p + 5, none⟩) hbl).trans h5
        have g6 := (hBY.cell (p := ⟨b, p + 6, none⟩) hbl).trans h6
        clear h0 h1 h2 h3 h4 h5 h6 hBY
        obtain ⟨ar, cr, rfl, _⟩ := At.form hrows
        obtain ⟨nr, hnr⟩ : ∃ q, s.rows.length = q := ⟨_, rfl⟩
        rw [hnr] at g5 hrows
        have HRW : Hid (∀ X, Below w1.heap.size w1 X → StrsAt lo X (.slice ar nr cr) s.rows) := fun X hX => At.kept kept_str hrows hX
        obtain ⟨X0, hX0⟩ : ∃ x, Y.alloc (Obj.cells #[.int .i64 s.client, .string s.tag, .string s.query, .int .i64 s.page, .int .i64 s.state, .slice ar nr cr, .int .i64 s.cursor] 38) = x := ⟨_, rfl⟩
        have hbx : Below Y.heap.size Y X0 := by rw [← hX0]; exact (Below.refl _ _).alloc (Nat.le_refl _) _
        have HBX : Hid (Box X0 Y.heap.size 38 #[.int .i64 s.client, .string s.tag, .string s.query, .int .i64 s.page, .int .i64 s.state, .slice ar nr cr, .int .i64 s.cursor]) := by rw [← hX0]; exact Box.new _ _ _
        obtain ⟨k0, k1, k2, k3, k4, k5, k6⟩ := box7s HBX.out
        have HPA := hide (past_any s ar nr cr hnr X0)
        rw [past_same hsB] at HPA
        have HI0 := hide (isb_below HIY.out hbx)
        have HB0 := hide (HBR.out.trans (hbx.mono HBR.out.size))
        have HX0 := hide hX0
        clear hs hel hrows hbx hX0 hsB hnr
        go_upto_region 7 with fail
        (try rw [HX0.out])
        clear g0 g1 g2 g3 g4 g5 g6
        go_wp2_with fail
        refine HPA.out.mono ?_
        rintro e V0 ⟨pv, rfl, hF0, hv0⟩
        obtain ⟨cs, hcs⟩ : ∃ cs, pastS s = cs := ⟨_, rfl⟩
        have HOF : Hid (∀ c ∈ cs, OfS s c) := by rw [← hcs]; exact ofS_past s
        have HP6 : Hid (cs.length ≤ 6) := by rw [← hcs]; exact pastS_len s
        rw [hcs] at hF0 HSTEP
        obtain ⟨a6, c6, e6, _⟩ := hF0.form
        obtain ⟨n6, hn6⟩ : ∃ q, cs.length = q := ⟨_, rfl⟩
        rw [hn6] at e6
        subst e6
        have HN6 := hide hn6
        have HF6 := hide hF0
        have HI6 := hide (isb_below HI0.out hv0)
        have HB6 := hide (HB0.out.trans (hv0.mono HB0.out.size))
        obtain ⟨P, hP⟩ : ∃ P, outL (xs.take k) = P := ⟨_, rfl⟩
        have HPL : Hid (P.length ≤ 5947392) := by
          show _ ≤ _
          rw [← hP]
          have h1 := outL_len (xs.take k)
          have h2 : (xs.take k).length ≤ 16 := by rw [List.length_take]; omega
          omega
        rw [hP] at HSTEP HI6
        clear hcs hP hF0 hv0 hn6 k0 k1 k2 k3 k4 k5 k6
        go_wp2_with fail
        go_loopg [21] n6 (fun q jv wx => ∃ (j : Nat), j ≤ n6 ∧ q = n6 - j ∧ jv = .int .i64 (j : Int) ∧ Lib.IsBuilder 50 5 W1.heap.size W1.heap.size (Lib.byteCells (P ++ snapL (cs.take j))) wx ∧ FB (cgC (.slice ar nr cr)) 7 40 X0.heap.size wx (.slice a6 n6 c6) cs ∧ Below W1.heap.size W1 wx)
        case atStart => exact ⟨0, Nat.zero_le _, rfl, rfl, by simpa [snapL] using HI6.out, HF6.out, HB6.out⟩
        case round =>
          obtain ⟨j, hj, rfl, rfl, hIB, hF, hbr⟩ := hrel
          obtain ⟨Z, rfl⟩ : ∃ x, x = wr := ⟨_, rfl⟩
          have HIZ := hide hIB
          have HFZ := hide hF
          have HBZ := hide hbr
          clear hIB hF hbr
          by_cases hjl : j < n6
          · have hji : (j : Int) < (n6 : Int) := by omega
            have hj0 : (0 : Int) ≤ (j : Int) := by omega
            have hj9 : (j : Int) ≤ 100 := by have := HP6.out; have := HN6.out; omega
            have hjc : j < cs.length := by rw [HN6.out]; exact hjl
            obtain ⟨b6, off6, ea6, hbl6, q0, q1, q2, q3, q4, q5, q6⟩ := cg_cells HFZ.out (by have := HP6.out; omega) j hjc
            subst ea6
            obtain ⟨c, hc⟩ : ∃ c, cs[j] = c := ⟨_, rfl⟩
            have hof : OfS s c := by rw [← hc]; exact HOF.out _ (List.getElem_mem hjc)
            have HTK : Hid (P ++ snapL (cs.take (j + 1)) = P ++ snapL (cs.take j) ++ recC c) := by show _ = _; rw [snapL_step cs j hjc, hc, List.append_assoc]
            rw [hc] at q0 q1 q2 q3 q4 q5 q6
            obtain ⟨av, nv, cv, hcg⟩ : ∃ a n c9, cgR (.slice ar nr cr) c = .slice a n c9 := by unfold cgR; split; exact ⟨_, _, _, rfl⟩; exact ⟨_, _, _, rfl⟩
            obtain ⟨Z1, hZ1⟩ : ∃ x, Z.alloc (Obj.cells #[.int .i64 c.kind, .int .i64 c.client, .string c.tag, .string c.query, .int .i64 c.page, .slice av nv cv, .int .i64 c.n] 40) = x := ⟨_, rfl⟩
            have hbz : Below Z.heap.size Z Z1 := by rw [← hZ1]; exact (Below.refl _ _).alloc (Nat.le_refl _) _
            have HBC : Hid (Box Z1 Z.heap.size 40 #[.int .i64 c.kind, .int .i64 c.client, .string c.tag, .string c.query, .int .i64 c.page, .slice av nv cv, .int .i64 c.n]) := by rw [← hZ1]; exact Box.new _ _ _
            obtain ⟨r0, r1, r2, r3, r4, r5, r6⟩ := box7s HBC.out
            have HBZ1 := hide (HBZ.out.trans (hbz.mono HBZ.out.size))
            have hrw := cg_rows hof (HRW.out Z1 (KW.out Z1 HBZ1.out))
            rw [hcg] at q5 hrw
            have HEN := hide (encI_any c (.slice av nv cv) Z1 (ofS_small HSB.out hof).1 (ofS_small HSB.out hof).2 hrw (HT.out Z1 (KW.out Z1 HBZ1.out)))
            unfold chgV at HEN
            have HIZ1 := hide (isb_below HIZ.out hbz)
            have HFZ1 := hide (HFZ.out.below hbz)
            obtain ⟨E, hE⟩ : ∃ E, encB c = E := ⟨_, rfl⟩
            have HRE := hide (fun W => record_any E W (by rw [← hE]; have := encB_size c; omega))
            have hRL := (recC_len c).2
            rw [hE] at HEN hRL
            obtain ⟨R, hR⟩ : ∃ R, recB E = R := ⟨_, rfl⟩
            rw [hR] at HRE hRL
            have HRC : Hid (recC c = R.data.toList) := by show _ = _; unfold recC; rw [hE, hR]
            obtain ⟨pk, hpk⟩ : ∃ q, off6 + j * 7 = q := ⟨_, rfl⟩
            rw [hpk] at q0 q1 q2 q3 q4 q5 q6
            obtain ⟨PP, hPP⟩ : ∃ q, P ++ snapL (cs.take j) = q := ⟨_, rfl⟩
            have hPPL : PP.length ≤ 6319104 := by
              rw [← hPP, List.length_append]
              have h1 := snapL_len (cs.take j)
              have h2 : (cs.take j).length ≤ 6 := by rw [List.length_take]; have := HP6.out; have := HN6.out; omega
              have h3 := HPL.out
              omega
            have HPPL := hide hPPL
            rw [hPP] at HIZ1 HTK
            have HRL := hide hRL
            have HZ1 := hide hZ1
            clear hc hof hrw hcg hE hR hPP hPPL hRL hbz hZ1
            go_upto_region 10 with fail
            (try rw [HZ1.out])
            clear q0 q1 q2 q3 q4 q5 q6
            go_wp2_with fail
            refine HEN.out.mono ?_
            rintro e V1 ⟨rfl, hv1⟩
            have HV1 := hide hv1
            clear hv1 r0 r1 r2 r3 r4 r5 r6
            go_wp2_with fail
            refine (HRE.out _).mono ?_
            rintro e V2 ⟨rfl, hv2⟩
            have HV2 := hide (bjoin hv2 HV1.out)
            clear hv2
            go_wp2_with fail
            refine (writeStr_more W1.heap.size W1.heap.size _ R V2 (isb_below HIZ1.out HV2.out) (by rw [Lib.byteCells_length]; have := HPPL.out; have := HRL.out; omega) (Nat.le_trans HBZ1.out.size HV2.out.size)).mono ?_
            rintro e V3 ⟨rfl, hI3, hb3, hk3⟩
            rw [bytes_snoc] at hI3
            have HI3 := hide hI3
            have HF3 : Hid (FB (cgC (.slice ar nr cr)) 7 40 X0.heap.size V3 (.slice (some ⟨b6, off6, none⟩) n6 c6) cs) := hk3.fb (HFZ1.out.below HV2.out)
            have HBV : Hid (Below W1.heap.size W1 V3) := (HBZ1.out.trans (HV2.out.mono HBZ1.out.size)).trans hb3
            clear hI3 hb3 hk3
            go_wp2_with fail
            go_roundg (n6 - (j + 1))
            case measure => omega
            case rel => exact ⟨j + 1, by omega, rfl, by go_num, by rw [HTK.out, HRC.out]; exact HI3.out, HF3.out, HBV.out⟩
          · obtain rfl : j = n6 := by omega
            have hji : ¬ (j : Int) < (j : Int) := by omega
            have HFIN : Hid (P ++ snapL (cs.take j) = outL (xs.take (k + 1))) := by show _ = _; rw [HSTEP.out, ← HN6.out, List.take_length]
            rw [HFIN.out] at HIZ
            go_wp2_with fail
            go_roundg (n - (k + 1))
            case measure => omega
            case rel => exact ⟨k + 1, by omega, rfl, by go_num, HIZ.out, HBZ.out⟩
      · obtain rfl : k = n := by omega
        have hki : ¬ (k : Int) < (k : Int) := by omega
        have HAL : Hid (outL (xs.take k) = outL xs) := by show _ = _; rw [← HN.out, List.take_length]
        rw [HAL.out] at HIY
        go_wp2_with fail
        refine (Tryd.Builder_String_any W1.heap.size W1.heap.size _ _ HIY.out HBR.out.size).mono ?_
        rintro e V9 ⟨rfl, hb9⟩
        have HEND := hide (bjoin (KW.out V9 (HBR.out.trans hb9)) HB1.out)
        clear hb9
        go_wp2_with fail
        go_ret
        exact ⟨ret_string HX.out.symm, HEND.out⟩
  · rw [if_neg htb] at hpo
    subst hpo
    have HX : Hid (snapB xs = ⟨#[]⟩) := by show _ = _; unfold snapB; rw [if_neg htb]
    have HEND := hide (bjoin HBW.out HB1.out)
    clear hb
    go_wp2_with fail
    go_ret
    exact ⟨ret_string HX.out.symm, HEND.out⟩
end Go.Proofs.YtpmnepalchgcbaaDoor.Msg
