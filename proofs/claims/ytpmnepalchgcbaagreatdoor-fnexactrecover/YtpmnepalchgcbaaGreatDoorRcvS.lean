import Derived.Test.YtpmnepalchgcbaaGreatDoorRcvPurewithRcvFailwithChgEncS
import Derived.Test.YtpmnepalchgcbaaGreatDoorChgDecS
import Derived.Test.YtpmnepalchgcbaaGreatDoorLogSpecwithLogAllwithLogImpl
namespace Go.Proofs.YtpmnepalchgcbaaGreatDoor.Msg
open Go.ChangeShapes Go.WideShapes Go.ChangeAt Go.RowKit
set_option linter.unusedVariables false
set_option linter.unusedSimpArgs false

/-! spec.Recover -/
theorem chg_sizes {c : Chg} (h : chgB c = true) : c.tag.size ≤ 16 ∧ c.query.size ≤ 200 := by
  refine ⟨tagB_size (chgB_tag h), ?_⟩
  rcases chgB_cases h with ⟨_, h, _⟩ | ⟨_, h, _⟩ | ⟨_, h, _⟩ | ⟨_, h, _⟩ <;> omega
theorem log_small (img : ByteArray) (hI : img.size ≤ 1048576) : (logTexts img).length ≤ 32768 ∧ ∀ t ∈ logTexts img, t.size ≤ 60000 := by
  have h := recsK_len img img.size
  unfold logTexts recsA
  refine ⟨by rw [List.length_map]; omega, fun t ht => ?_⟩
  obtain ⟨p, hp, rfl⟩ := List.mem_map.1 ht
  have := h.2.2.2 p hp
  omega
def RcPost (w : World) (img : ByteArray) (e : Ending) (w' : World) : Prop := ∃ u, e = .returned (.agg #[u]) ∧ (∃ ps, TE w.heap.size w' u ps ∧ ps.map Prod.fst = recovP img) ∧ Below w.heap.size w w'
/-- the end: what drains has failed, and the answer's box is filled -/
theorem rc_fin {w W1 V : World} {img : ByteArray} {u : Value} {ps : List (Sess × Value)} (hR : Box V w.heap.size 24 #[.slice none 0 0]) (ht : TE W1.heap.size V u ps) (he : ps.map Prod.fst = recovP img) (hw : w.heap.size ≤ W1.heap.size) (hb : Below w.heap.size w V) : RcPost w img (.returned (.agg #[u])) (V.setCell ⟨w.heap.size, 0, none⟩ u) :=
  ⟨u, rfl, ⟨ps, (ht.low hw).setBox hR u, he⟩, hb.setCell (p := ⟨w.heap.size, 0, none⟩) (Nat.le_refl _) _⟩
set_option maxRecDepth 100000 in
set_option maxHeartbeats 16000000 in
theorem recovS_any (img : ByteArray) (w : World) (hI : img.size ≤ 1048576) :
    Calls Tryz.prog 4 #[.string img] w (RcPost w img) := by
  have HLS := hide (log_small img hI)
  obtain ⟨x1, hx1⟩ : ∃ x, w.alloc (Obj.cells #[.slice none 0 0] 24) = x := ⟨_, rfl⟩
  have HR1 : Hid (Box x1 w.heap.size 24 #[.slice none 0 0]) := by rw [← hx1]; exact Box.new _ _ _
  have HB1 : Hid (Below w.heap.size w x1) := by rw [← hx1]; exact (Below.refl _ _).alloc (Nat.le_refl _) _
  have HRL := hide (readLogS_any img x1 hI)
  have HRV : Hid (recovP img = failT (recF [] (logTexts img))) := rfl
  have HX1 := hide hx1
  clear hx1 hI
  go_enter Tryz.func4, Tryz.ntmps4
  go_upto_region 1 with fail
  (try rw [HX1.out])
  go_wp2_with fail
  refine HRL.out.mono ?_
  rintro e W1 ⟨tv, rfl, hTB, hb1⟩
  obtain ⟨ts, hts⟩ : ∃ ts, logTexts img = ts := ⟨_, rfl⟩
  rw [hts] at HLS HRV hTB
  obtain ⟨bs, hO, _⟩ := hTB.owned fun x hx => by have := HLS.out.2 x hx; omega
  have HST : Hid (StrsAt 0 W1 tv ts) := OAt.toAt toAt_str hO (fun _ _ => Nat.zero_le _)
  obtain ⟨at0, ct0, rfl, _⟩ := At.form HST.out
  obtain ⟨n, hn⟩ : ∃ n, ts.length = n := ⟨_, rfl⟩
  have HN := hide hn
  have hn9 : n ≤ 32768 := by rw [← hn]; exact HLS.out.1
  rw [hn] at HST ⊢
  have HRW := hide (HR1.out.below hb1)
  have HBW := hide (bjoin hb1 HB1.out)
  have HSW : Hid (w.heap.size < W1.heap.size) := HRW.out.lt
  obtain ⟨X2, hX2⟩ : ∃ x, W1.alloc (Obj.cells #[.slice none 0 0] 24) = x := ⟨_, rfl⟩
  have HT2 : Hid (Box X2 W1.heap.size 24 #[.slice none 0 0]) := by rw [← hX2]; exact Box.new _ _ _
  have HB2 : Hid (Below W1.heap.size W1 X2) := by rw [← hX2]; exact (Below.refl _ _).alloc (Nat.le_refl _) _
  have HX2 := hide hX2
  clear hTB hb1 hO hX2 hn hts
  go_upto_region 3 with fail
  (try rw [HX2.out])
  go_wp2_with fail
  go_loopg [6] n (fun q i wr => ∃ (k m : Nat) (ak : Option Addr) (ck : Nat) (ys : List Sess), k ≤ n ∧ q = n - k ∧ i = .int .i64 (k : Int) ∧ runF [] (ts.take k) = some ys ∧ ys.length = m ∧ Box wr W1.heap.size 24 #[.slice ak m ck] ∧ (∃ ps, TE W1.heap.size wr (.slice ak m ck) ps ∧ ps.map Prod.fst = ys) ∧ Below W1.heap.size W1 wr)
  case atStart => exact ⟨0, 0, none, 0, [], Nat.zero_le _, rfl, rfl, rfl, rfl, HT2.out, ⟨[], TE.nil _ _, rfl⟩, HB2.out⟩
  case round =>
    obtain ⟨k, m, ak, ck, ys, hk, rfl, rfl, hrun, hm, hT, hV, hb⟩ := hrel
    obtain ⟨Y, rfl⟩ : ∃ x, x = wr := ⟨_, rfl⟩
    have HRUN := hide hrun
    have HTB : Hid (tblB ys = true) := runF_tbl _ _ _ tblB_nil hrun
    have hm16 : m ≤ 16 := by rw [← hm]; exact ((tblB_iff ys).1 HTB.out).1
    have HM := hide hm
    have HT := hide hT
    have HV := hide hV
    have HB := hide hb
    have d0 : Y.cell? ⟨W1.heap.size, 0, none⟩ = some (.slice ak m ck) := hT.cell 0 (by simp)
    -- failing and returning, from any later world
    have HEND : Hid (∀ X, Below Y.heap.size Y X → recF [] ts = ys → Calls Tryz.prog 11 #[.agg #[.slice ak m ck]] X fun e w' => ∃ u a' c' m', e = .returned (.agg #[u]) ∧ u = .slice a' m' c' ∧ Box w' w.heap.size 24 #[.slice none 0 0] ∧ RcPost w img (.returned (.agg #[u])) (w'.setCell ⟨w.heap.size, 0, none⟩ u)) := fun X hX hrec => by
      have hWX : Below W1.heap.size W1 X := HB.out.trans (hX.mono HB.out.size)
      refine (fail_all (base := W1.heap.size) ys (.slice ak m ck) X HTB.out (by obtain ⟨ps, h, he⟩ := HV.out; exact ⟨ps, h.below hX, he⟩) hWX.size).mono ?_
      rintro e V ⟨u, rfl, ⟨ps, hte, hps⟩, hbv⟩
      obtain ⟨a', c', e', _⟩ := hte.form
      have hWV : Below W1.heap.size W1 V := bjoin hbv hWX
      have hRV := HRW.out.below hWV
      exact ⟨u, a', c', ps.length, rfl, e', hRV, rc_fin hRV hte (by rw [hps, HRV.out, hrec]) (Nat.le_of_lt HSW.out) (bjoin hWV HBW.out)⟩
    clear hrun hT hV hb hm
    by_cases hlt : k < n
    · have hki : (k : Int) < (n : Int) := by omega
      have hk0 : (0 : Int) ≤ (k : Int) := by omega
      have hk9 : (k : Int) ≤ 100000 := by omega
      have hkt : k < ts.length := by rw [HN.out]; exact hlt
      obtain ⟨t, ht⟩ : ∃ t, ts[k] = t := ⟨_, rfl⟩
      have htz : t.size ≤ 60000 := by rw [← ht]; exact HLS.out.2 _ (List.getElem_mem hkt)
      have HSPL : Hid (ts = ts.take k ++ t :: ts.drop (k + 1)) := by
        show _ = _
        rw [← ht, ← List.drop_eq_getElem_cons hkt, List.take_append_drop]
      have HTK : Hid (ts.take (k + 1) = ts.take k ++ [t]) := by show _ = _; rw [List.take_succ_eq_append_getElem hkt, ht]
      obtain ⟨a', cap', ea, hel⟩ := At.form HST.out
      rw [HN.out] at ea
      injection ea with e1 _ e3
      subst e1 e3
      obtain ⟨b, off, rfl, _, hbl, hcell, _⟩ := hel k hkt
      rw [ht] at hcell
      have t0 : Y.cell? ⟨b, off + k, none⟩ = some (.string t) := by rw [HB.out.cell (p := ⟨b, off + k, none⟩) hbl]; simpa using hcell
      have HDE := hide (decS_any t Y (by omega))
      have HSTOP : Hid (stepR ys t = none → recF [] ts = ys) := fun h => by rw [HSPL.out]; exact recF_stop HRUN.out h
      obtain ⟨o, ho⟩ : ∃ o, decS t = o := ⟨_, rfl⟩
      rw [ho] at HDE
      have HO := hide ho
      clear ht hel hcell htz ho
      cases o with
      | none =>
        have HRET := hide (HSTOP.out (stepR_no HO.out))
        unfold decR at HDE
        dsimp only at HDE
        unfold zeroC chgV at HDE
        dsimp only at HDE
        go_wp2_with fail
        refine HDE.out.mono ?_
        rintro e V1 ⟨u, rfl, hOC, hv1⟩
        obtain ⟨au, cu, rfl⟩ := hOC.form
        have HV1 := hide hv1
        obtain ⟨V2, hV2⟩ : ∃ x, V1.alloc (Obj.cells #[.int .i64 0, .int .i64 0, .string ⟨#[]⟩, .string ⟨#[]⟩, .int .i64 0, .slice au 0 cu, .int .i64 0] 33) = x := ⟨_, rfl⟩
        have hbV : Below V1.heap.size V1 V2 := by rw [← hV2]; exact (Below.refl _ _).alloc (Nat.le_refl _) _
        have HBV := hide (bjoin hbV hv1)
        have d2 : V2.cell? ⟨W1.heap.size, 0, none⟩ = some (.slice ak m ck) := (HT.out.below HBV.out).cell 0 (by simp)
        have HF := hide (HEND.out V2 HBV.out HRET.out)
        have HV2 := hide hV2
        clear hOC hv1 hbV hV2 d0 t0
        go_upto_region 7 with fail
        (try rw [HV2.out])
        go_wp2_with fail
        refine HF.out.mono ?_
        rintro e V3 ⟨u3, a3, c3, m3, rfl, rfl, hR3, hfin⟩
        have HFIN := hide hfin
        have r0 : V3.cell? ⟨w.heap.size, 0, none⟩ = some (.slice none 0 0) := hR3.cell 0 (by simp)
        have rf := hR3.frozen 0
        have rl := hR3.lt
        clear hfin hR3 d2
        go_wp2_with fail
        exact bodyPost_ret (v := .agg #[.slice a3 m3 c3]) (by simp [results, Tryz.results4, go_sem, r0, rl]) rfl HFIN.out
      | some c =>
        have hcB := decS_ok HO.out
        obtain ⟨zt, zq⟩ := chg_sizes hcB
        unfold decR at HDE
        dsimp only at HDE
        have HAP := hide (fun (X : World) (hX : Below Y.heap.size Y X) (au : Option Addr) (cu l9 : Nat) (h : StrsAt l9 X (.slice au c.rows.length cu) c.rows) => applyS_any ys (.slice ak m ck) c au c.rows.length cu X (by obtain ⟨ps, h, he⟩ := HV.out; exact (h.below hX).reads he (by rw [HM.out]; omega)) (by omega) (by omega) h)
        obtain ⟨R, hR⟩ : ∃ R, applyP ys c = R := ⟨_, rfl⟩
        have HGOOD : Hid (R.2 = 0 → runF [] (ts.take (k + 1)) = some R.1) := fun h => by
          rw [HTK.out, runF_snoc _ _ _ _ HRUN.out, stepR_good HO.out (by rw [hR]; exact h), hR]
        have HBAD : Hid (R.2 ≠ 0 → recF [] ts = ys) := fun h => HSTOP.out (stepR_bad HO.out (by rw [hR]; exact h))
        have HR16 : Hid (R.1.length ≤ 16) := by rw [← hR]; exact ((tblB_iff _).1 (applyP_tbl ys c)).1
        rw [hR] at HAP
        unfold ApPost at HAP
        obtain ⟨R1, R2⟩ := R
        dsimp only at HAP HGOOD HBAD HR16
        obtain ⟨kind, client, tag, query, page, rows, n0⟩ := c
        unfold chgV at HDE HAP
        dsimp only at HDE HAP zt zq
        obtain ⟨nu, hnu⟩ : ∃ q, rows.length = q := ⟨_, rfl⟩
        rw [hnu] at HAP
        go_wp2_with fail
        refine HDE.out.mono ?_
        rintro e V1 ⟨u, rfl, hOC, hv1⟩
        obtain ⟨au, cu, hu⟩ := hOC.form
        dsimp only at hu
        rw [hnu] at hu
        subst hu
        obtain ⟨V2, hV2⟩ : ∃ x, V1.alloc (Obj.cells #[.int .i64 kind, .int .i64 client, .string tag, .string query, .int .i64 page, .slice au nu cu, .int .i64 n0] 33) = x := ⟨_, rfl⟩
        have hbV : Below V1.heap.size V1 V2 := by rw [← hV2]; exact (Below.refl _ _).alloc (Nat.le_refl _) _
        have HBV := hide (bjoin hbV hv1)
        have HCX : Hid (Box V2 V1.heap.size 33 #[.int .i64 kind, .int .i64 client, .string tag, .string query, .int .i64 page, .slice au nu cu, .int .i64 n0]) := by rw [← hV2]; exact Box.new _ _ _
        have HAP2 := hide (HAP.out V2 HBV.out au cu _ (At.kept kept_str hOC.strs hbV))
        have d2 : V2.cell? ⟨W1.heap.size, 0, none⟩ = some (.slice ak m ck) := (HT.out.below HBV.out).cell 0 (by simp)
        have q0 : V2.cell? ⟨V1.heap.size, 0, none⟩ = some (.int .i64 kind) := HCX.out.cell 0 (by simp)
        have q1 : V2.cell? ⟨V1.heap.size, 1, none⟩ = some (.int .i64 client) := HCX.out.cell 1 (by simp)
        have q2 : V2.cell? ⟨V1.heap.size, 2, none⟩ = some (.string tag) := HCX.out.cell 2 (by simp)
        have q3 : V2.cell? ⟨V1.heap.size, 3, none⟩ = some (.string query) := HCX.out.cell 3 (by simp)
        have q4 : V2.cell? ⟨V1.heap.size, 4, none⟩ = some (.int .i64 page) := HCX.out.cell 4 (by simp)
        have q5 : V2.cell? ⟨V1.heap.size, 5, none⟩ = some (.slice au nu cu) := HCX.out.cell 5 (by simp)
        have q6 : V2.cell? ⟨V1.heap.size, 6, none⟩ = some (.int .i64 n0) := HCX.out.cell 6 (by simp)
        have HV2 := hide hV2
        clear hOC hv1 hbV hV2 d0 t0 hcB hR zt zq hnu
        go_upto_region 7 with fail
        (try rw [HV2.out])
        go_wp2_with fail
        refine HAP2.out.mono ?_
        rintro e V3 ⟨tn, rfl, ⟨qs, hte, hqs⟩, hb3⟩
        obtain ⟨an, cn, en⟩ := hte.at_form hqs
        obtain ⟨mn, hmn⟩ : ∃ q, R1.length = q := ⟨_, rfl⟩
        rw [hmn] at en
        subst en
        obtain ⟨V4, hV4⟩ : ∃ x, V3.alloc (Obj.cells #[.slice an mn cn] 24) = x := ⟨_, rfl⟩
        have hb4 : Below V3.heap.size V3 V4 := by rw [← hV4]; exact (Below.refl _ _).alloc (Nat.le_refl _) _
        have HNX : Hid (Box V4 V3.heap.size 24 #[.slice an mn cn]) := by rw [← hV4]; exact Box.new _ _ _
        have HB4 := hide (bjoin hb4 (bjoin hb3 HBV.out))
        have HTE : Hid (∃ ps, TE W1.heap.size V4 (.slice an mn cn) ps ∧ ps.map Prod.fst = R1) := ⟨qs, (hte.low (by have := HBV.out.size; have := HB.out.size; omega)).below hb4, hqs⟩
        have HMN := hide hmn
        have HV4 := hide hV4
        have HT4 := hide (HT.out.below HB4.out)
        clear hte hqs hb3 hb4 hV4 hmn q0 q1 q2 q3 q4 q5 q6 d2
        have d4 : V4.cell? ⟨W1.heap.size, 0, none⟩ = some (.slice ak m ck) := HT4.out.cell 0 (by simp)
        have f4 := HT4.out.frozen 0
        have l4 := HT4.out.lt
        have x4 : V4.cell? ⟨V3.heap.size, 0, none⟩ = some (.slice an mn cn) := HNX.out.cell 0 (by simp)
        by_cases hcode : R2 = 0
        · have HG := hide (HGOOD.out hcode)
          have hc0 : (R2 != 0) = false := by simpa using hcode
          have HFIN : Hid (Box (V4.setCell ⟨W1.heap.size, 0, none⟩ (.slice an mn cn)) W1.heap.size 24 #[.slice an mn cn] ∧ (∃ ps, TE W1.heap.size (V4.setCell ⟨W1.heap.size, 0, none⟩ (.slice an mn cn)) (.slice an mn cn) ps ∧ ps.map Prod.fst = R1) ∧ Below W1.heap.size W1 (V4.setCell ⟨W1.heap.size, 0, none⟩ (.slice an mn cn))) := by
            refine ⟨by have := HT4.out.set 0 (.slice an mn cn); simpa using this, ?_, (HB.out.trans (HB4.out.mono HB.out.size)).setCell (p := ⟨W1.heap.size, 0, none⟩) (Nat.le_refl _) _⟩
            obtain ⟨ps, h, he⟩ := HTE.out
            exact ⟨ps, h.setBox HT4.out _, he⟩
          clear hcode
          go_upto_region 10 with fail
          (try rw [HV4.out])
          go_wp2_with fail
          go_roundg (n - (k + 1))
          case measure => omega
          case rel => exact ⟨k + 1, mn, an, cn, R1, by omega, rfl, by go_num, HG.out, HMN.out, HFIN.out.1, HFIN.out.2.1, HFIN.out.2.2⟩
        · have hc0 : (R2 != 0) = true := by simpa using hcode
          have hc1 : ¬ R2 = 0 := hcode
          have HF := hide (HEND.out V4 HB4.out (HBAD.out hcode))
          go_upto_region 10 with fail
          (try rw [HV4.out])
          go_wp2_with fail
          refine HF.out.mono ?_
          rintro e V5 ⟨u5, a5, c5, m5, rfl, rfl, hR5, hfin⟩
          have HFIN := hide hfin
          have r0 : V5.cell? ⟨w.heap.size, 0, none⟩ = some (.slice none 0 0) := hR5.cell 0 (by simp)
          have rf := hR5.frozen 0
          have rl := hR5.lt
          clear hfin hR5 d4 f4 x4
          go_wp2_with fail
          exact bodyPost_ret (v := .agg #[.slice a5 m5 c5]) (by simp [results, Tryz.results4, go_sem, r0, rl]) rfl HFIN.out
    · obtain rfl : k = n := by omega
      have hki : ¬ (k : Int) < (k : Int) := by omega
      have HALL : Hid (recF [] ts = ys) := by
        have := HRUN.out
        rw [← HN.out, List.take_length] at this
        exact recF_all this
      have HF := hide (HEND.out Y (Below.refl _ _) HALL.out)
      go_wp2_with fail
      refine HF.out.mono ?_
      rintro e V5 ⟨u5, a5, c5, m5, rfl, rfl, hR5, hfin⟩
      have HFIN := hide hfin
      have r0 : V5.cell? ⟨w.heap.size, 0, none⟩ = some (.slice none 0 0) := hR5.cell 0 (by simp)
      have rf := hR5.frozen 0
      have rl := hR5.lt
      clear hfin hR5 d0
      go_wp2_with fail
      exact bodyPost_ret (v := .agg #[.slice a5 m5 c5]) (by simp [results, Tryz.results4, go_sem, r0, rl]) rfl HFIN.out
end Go.Proofs.YtpmnepalchgcbaaGreatDoor.Msg
