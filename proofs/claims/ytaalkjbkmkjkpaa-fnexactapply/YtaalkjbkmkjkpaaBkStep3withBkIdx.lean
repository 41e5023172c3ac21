import Derived.Test.YtaalkjbkmkjkpaaBkStepwithBkStep2
import Derived.LaidEqlPtr
namespace Go.Proofs.Ytaalkjbkmkjkpaa.Msg
open Go.ChangeShapes Go.WideShapes Go.ChangeAt Go.RowKit
set_option linter.unusedVariables false
set_option linter.unusedSimpArgs false

/-! the step of the book that adds rows -/
set_option maxRecDepth 100000 in
set_option maxHeartbeats 8000000 in
theorem rows_any {base : Nat} {w : World} {K M : Nat} {ov : Value} {nm : Nat} {ps : List (Sess × Value)} {bs : List Nat} (h : BK base w K M ov nm ps bs) (hbase : base ≤ w.heap.size) (c : Chg) (hk : c.kind = 2) (hc : (Lit.int .i64 c.client).wf = true) (ht : c.tag.size ≤ 9223372036854775807) (au : Option Addr) (nu cu : Nat) {lo : Nat} (hv : StrsAt lo w (.slice au nu cu) c.rows) (hrw : c.rows.length ≤ 200 ∧ ∀ r ∈ c.rows, r.size ≤ 200) :
    Calls Try.prog 53 #[.pointer (some ⟨K, 0, none⟩), chgV c (.slice au nu cu)] w (StPost base w K M (opP (ps.map Prod.fst) c)) := by
  have HH := hide h
  have HV := hide hv
  have HRW := hide hrw
  have HNU : Hid (nu = c.rows.length) := by
    obtain ⟨_, _, e0, _⟩ := At.form hv
    injection e0
  clear hv hrw
  obtain ⟨R, hR⟩ : ∃ R, opP (ps.map Prod.fst) c = R := ⟨_, rfl⟩
  have HR := hide hR
  rw [hR]
  unfold opP at HR
  obtain ⟨x1, hx1⟩ : ∃ x, w.alloc (Obj.cells #[.int .i64 c.kind, .int .i64 c.client, .string c.tag, .string c.query, .int .i64 c.page, .slice au nu cu, .int .i64 c.n] 36) = x := ⟨_, rfl⟩
  have b1 : Below w.heap.size w x1 := by rw [← hx1]; exact (Below.refl _ _).alloc (Nat.le_refl _) _
  have HO1 : Hid (Box x1 w.heap.size 36 #[.int .i64 c.kind, .int .i64 c.client, .string c.tag, .string c.query, .int .i64 c.page, .slice au nu cu, .int .i64 c.n]) := by rw [← hx1]; exact Box.new _ _ _
  have HCK := hide (ckey_any c au nu cu x1)
  obtain ⟨kind, client, tag, query, page, rows, n0⟩ := c
  unfold chgV at HCK ⊢
  dsimp only at hk HR hx1 HO1 HCK hc ht HV HRW HNU ⊢
  subst hk
  have q0 : x1.cell? ⟨w.heap.size, 0, none⟩ = some (.int .i64 2) := HO1.out.cell 0 (by simp)
  have q1 : x1.cell? ⟨w.heap.size, 1, none⟩ = some (.int .i64 client) := HO1.out.cell 1 (by simp)
  have q2 : x1.cell? ⟨w.heap.size, 2, none⟩ = some (.string tag) := HO1.out.cell 2 (by simp)
  have q3 : x1.cell? ⟨w.heap.size, 3, none⟩ = some (.string query) := HO1.out.cell 3 (by simp)
  have q4 : x1.cell? ⟨w.heap.size, 4, none⟩ = some (.int .i64 page) := HO1.out.cell 4 (by simp)
  have q5 : x1.cell? ⟨w.heap.size, 5, none⟩ = some (.slice au nu cu) := HO1.out.cell 5 (by simp)
  have q6 : x1.cell? ⟨w.heap.size, 6, none⟩ = some (.int .i64 n0) := HO1.out.cell 6 (by simp)
  have HB1 := hide b1
  have HX1 := hide hx1
  have HCW := hide hc
  clear h hR hx1 b1
  go_enter Try.func53, Try.ntmps53
  go_upto_region 1 with fail
  (try rw [HX1.out])
  go_wp2_with fail
  refine HCK.out.mono ?_
  rintro e W1 ⟨rfl, hb1⟩
  obtain ⟨X2, hX2⟩ : ∃ x, W1.alloc (Obj.cells #[.int .i64 1] 3) = x := ⟨_, rfl⟩
  have b2 : Below W1.heap.size W1 X2 := by rw [← hX2]; exact (Below.refl _ _).alloc (Nat.le_refl _) _
  have oX2 : Box X2 W1.heap.size 3 #[.int .i64 1] := by rw [← hX2]; exact Box.new _ _ _
  have hbX := bjoin b2 (bjoin hb1 HB1.out)
  have HBK2 := hide (HH.out.below hbX)
  have HB2 := hide hbX
  have HO2 := hide (HO1.out.below (bjoin b2 hb1))
  have hz : IntsIn X2 W1.heap.size [1] := fun i hi => by
    have hi' : i < 1 := hi
    match i, hi' with
    | 0, _ => exact oX2.cell 0 (by simp)
  have HFD := hide (find_any HBK2.out client tag hc ht [1] W1.heap.size 1 hz oX2.lt (by decide))
  unfold keyV at HFD
  have HX2 := hide hX2
  clear hb1 b2 oX2 hbX hz q0 q1 q2 q3 q4 q5 q6 hX2
  unfold keyV
  go_wp2_with fail
  (try rw [HX2.out])
  refine HFD.out.mono ?_
  rintro e W3 ⟨rfl, hb3⟩
  have HBK3 := hide (HBK2.out.below hb3)
  have HB3 := hide (bjoin hb3 HB2.out)
  have HO3 := hide (HO2.out.below hb3)
  have HBB : Hid (Below base w W3) := (bjoin hb3 HB2.out).mono hbase
  clear hb3
  obtain ⟨o, ho⟩ : ∃ o, foundB ps bs client tag [1] = o := ⟨_, rfl⟩
  rw [ho]
  cases o with
  | none =>
    have HRE : Hid (R = (ps.map Prod.fst, 3)) := by
      rcases found_none HH.out.len ho with e | ⟨i, e, hn⟩
      · have := HR.out; rw [e] at this; exact this.symm
      · have := HR.out; rw [e] at this
        dsimp only at this
        rw [show stepS ((ps.map Prod.fst).getD i sess0) ⟨2, client, tag, query, page, rows, n0⟩ = .error 3 from by unfold stepS; rw [if_pos rfl, if_neg (by simpa using hn)]] at this
        exact this.symm
    have HFIN : Hid (StPost base w K M R (.returned (.int .i64 3)) W3) := ⟨3, rfl, ⟨ov, nm, ps, bs, HBK3.out, HRE.out.symm⟩, HBB.out⟩
    unfold outV
    clear ho
    go_wp2_with fail
    go_ret
    exact HFIN.out
  | some b =>
    obtain ⟨i, hib, e1, e2, e3⟩ := found_some ho
    have hip : i < ps.length := by rw [← HH.out.len]; exact hib
    have hBs := HBK3.out.ses i hip hib
    rw [e2] at hBs
    obtain ⟨⟨⟨sc, stag, sq, sp, sst, srows, scur⟩, u⟩, hpk⟩ : ∃ p, ps[i] = p := ⟨_, rfl⟩
    rw [hpk] at hBs
    have hgd : (ps.map Prod.fst).getD i sess0 = ⟨sc, stag, sq, sp, sst, srows, scur⟩ := by rw [map_getD ps i hip, hpk]
    rw [hgd] at e3
    dsimp only at e3
    have HBS : Hid (Box W3 b 50 #[.int .i64 sc, .string stag, .string sq, .int .i64 sp, .int .i64 sst, u, .int .i64 scur]) := hBs
    have hels := HBK3.out.els ps[i] (List.getElem_mem hip)
    rw [hpk] at hels
    have HSS := hide hels.1
    have HFU := hide hels.2
    obtain ⟨ar, cr, hu, _⟩ := hels.2.form
    dsimp only at hu
    have HBB2 : Hid (base ≤ b) := by rw [← e2]; exact HH.out.lob _ (List.getElem_mem hib)
    have HR2 := HR.out
    rw [e1] at HR2
    dsimp only at HR2
    rw [hgd] at HR2
    have HR3 := hide HR2
    have HPK := hide hpk
    have HE2 := hide e2
    have HIP := hide hip
    have HIB := hide hib
    have HE3 := hide e3
    have HU := hide hu
    have d4 : W3.cell? ⟨b, 4, none⟩ = some (.int .i64 sst) := HBS.out.cell 4 (by simp)
    have f4 := HBS.out.frozen 4
    have f6 := HBS.out.frozen 6
    have d6 : W3.cell? ⟨b, 6, none⟩ = some (.int .i64 scur) := HBS.out.cell 6 (by simp)
    have d5 : W3.cell? ⟨b, 5, none⟩ = some (.slice ar srows.length cr) := by rw [← hu]; exact HBS.out.cell 5 (by simp)
    have bl := HBS.out.lt
    have q6 : W3.cell? ⟨w.heap.size, 6, none⟩ = some (.int .i64 n0) := HO3.out.cell 6 (by simp)
    -- the session is turned
    have HPUT : Hid (∀ (Y : World) (s : Sess) (u' : Value), s.client = sc → s.tag = stag → SmS s → (∀ d, d ≠ b → Y.heap[d]? = W3.heap[d]?) → Box Y b 50 (tsC (s, u')).toArray → (u' = u ∧ s.rows = srows ∨ u' = .slice none 0 0 ∧ s.rows = []) → BK base Y K M ov nm (ps.set i (s, u')) bs) := fun Y s u' h1 h2 h3 h4 h5 h6 => by
      refine HBK3.out.put HIP.out HIB.out s u' (by rw [HPK.out]; exact h1) (by rw [HPK.out]; exact h2) h3 (fun d _ hd _ => h4 d (by rw [HE2.out] at hd; exact hd)) (by rw [HE2.out]; exact h5) ?_ ?_
      · rcases h6 with ⟨r1, r2⟩ | ⟨r1, r2⟩
        · rw [r1, r2]
          exact HFU.out.keep fun d hd => h4 d fun e => by
            obtain ⟨cs2, e4⟩ := HFU.out.blk (b := d) (by simpa using hd)
            exact blk_ne e4 (show W3.heap[b]? = some (.cells _ 50 (0, 0)) from HBS.out) (by decide) e
        · rw [r1, r2]
          exact FB.nil _ _ _ _ _
      · intro d hd
        rcases h6 with ⟨r1, _⟩ | ⟨r1, _⟩
        · rw [HPK.out]; rw [r1] at hd; exact .inl hd
        · rw [r1] at hd; simp [Value.ownBlock] at hd
    unfold outV
    clear ho hBs hgd hels HR2 hpk e1 e2 e3 hu
    have hst : sst = 1 := by have := HE3.out; simpa using this
    obtain ⟨nr, hnr⟩ : ∃ q, srows.length = q := ⟨_, rfl⟩
    have HNR := hide hnr
    rw [hnr] at d5
    clear hnr
    have HST := hide hst
    have q5 : W3.cell? ⟨w.heap.size, 5, none⟩ = some (.slice au nu cu) := HO3.out.cell 5 (by simp)
    have hnu : nu ≤ 200 := by have := HNU.out; have := HRW.out.1; omega
    have hnr2 : nr ≤ 100000 := by have := HNR.out; have h9 : srows.length ≤ 100000 := HSS.out.2.2.1; omega
    clear hst d4 f4 d6 f6 q6
    by_cases hlt : 200 < nr + nu
    · have HRE : Hid (R = (ps.map Prod.fst, 4)) := by
        have := HR3.out
        rw [show stepS ⟨sc, stag, sq, sp, sst, srows, scur⟩ ⟨2, client, tag, query, page, rows, n0⟩ = .error 4 from by unfold stepS; rw [if_pos rfl, if_pos HST.out, if_pos (by rw [HNR.out, ← HNU.out]; exact hlt)]] at this
        exact this.symm
      have HFIN : Hid (∀ q, StPost base w K M R (.returned (.int .i64 4)) (W3.drewN q)) := fun q => ⟨4, rfl, ⟨ov, nm, ps, bs, HBK3.out.below (below_drewN (Below.refl _ _) q), HRE.out.symm⟩, below_drewN HBB.out q⟩
      have hd : decide ((nr : Int) + (nu : Int) > 200) = true := decide_eq_true (by omega)
      go_wp2_with fail
      go_quiet (fail)
      go_wp2_with fail
      go_ret
      exact HFIN.out _
    · have HRE : Hid (R = ((ps.map Prod.fst).set i ⟨sc, stag, sq, sp, sst, srows ++ rows, scur⟩, 0)) := by
        have := HR3.out
        rw [show stepS ⟨sc, stag, sq, sp, sst, srows, scur⟩ ⟨2, client, tag, query, page, rows, n0⟩ = .ok ⟨sc, stag, sq, sp, sst, srows ++ rows, scur⟩ from by unfold stepS; rw [if_pos rfl, if_pos HST.out, if_neg (by rw [HNR.out, ← HNU.out]; exact hlt)]] at this
        exact this.symm
      have hd : decide ((nr : Int) + (nu : Int) > 200) = false := decide_eq_false (by omega)
      go_wp2_with fail
      go_quiet (fail)
      go_wp2_with fail
      obtain ⟨D, hDe⟩ : ∃ D, (W3.drewN nq).drew = D := ⟨_, rfl⟩
      have hD : Below W3.heap.size W3 D := by rw [← hDe]; exact (below_drewN (Below.refl _ _) _).drew
      have HDH : Hid (D.heap = W3.heap) := by rw [← hDe]; exact rfl
      have hBD := HBS.out.below hD
      have hOD := HO3.out.below hD
      have HBD := hide hBD
      have hFD : FB tC 1 9 base D (.slice ar nr cr) srows := by have := HFU.out.below hD; (try dsimp only at this); rw [HU.out, HNR.out] at this; exact this
      have hVD : StrsAt lo D (.slice au rows.length cu) rows := by rw [← HNU.out]; exact At.kept kept_str HV.out (bjoin hD HB3.out)
      obtain ⟨a8, c8, w8, hr8', hF8, ho8, hv8⟩ := appRows hFD hVD (by rw [HNR.out, ← HNU.out]; omega) (by have := hD.size; have := HBB.out.size; omega)
      rw [HNR.out, ← HNU.out] at hr8' hF8 hv8
      have hr8 : (Builtin.append_ #[25, 25] 25 #[.slice ar nr cr, .slice au nu cu]).run Try.prog D = .ok (.slice a8 (nr + nu) c8) w8 := hr8'
      have HTY : Hid (∀ (d : Nat) (cs : Array Value) (t : TypeId), D.heap[d]? = some (Obj.cells cs t (0, 0)) → t ≠ 9 → w8.heap[d]? = D.heap[d]?) := fun d cs t hdd ht => ho8.block d (by rcases Nat.lt_or_ge d D.heap.size with h' | h'; exact h'; rw [Array.getElem?_eq_none h'] at hdd; cases hdd) fun hmm => by
        obtain ⟨cs2, e2⟩ := hFD.blk (b := d) (by simpa using hmm)
        exact blk_ne hdd e2 ht rfl
      have hB8 : Box w8 b 50 #[.int .i64 sc, .string stag, .string sq, .int .i64 sp, .int .i64 sst, u, .int .i64 scur] := hBD.keep (HTY.out b _ _ hBD (by decide))
      have hO8 := hOD.keep (HTY.out _ _ _ hOD (by decide))
      have HFIN : Hid (StPost base w K M R (.returned (.int .i64 0)) (w8.setCell ⟨b, 5, none⟩ (.slice a8 (nr + nu) c8))) := by
        have hnew : SmS ⟨sc, stag, sq, sp, sst, srows ++ rows, scur⟩ := by
          refine ⟨HSS.out.1, HSS.out.2.1, ?_, fun r hr => ?_⟩
          · dsimp only
            rw [List.length_append, HNR.out, ← HNU.out]
            omega
          · rcases List.mem_append.1 hr with hr | hr
            · exact HSS.out.2.2.2 r hr
            · have := HRW.out.2 r hr; omega
        have hBY : Box (w8.setCell ⟨b, 5, none⟩ (.slice a8 (nr + nu) c8)) b 50 (tsC (⟨sc, stag, sq, sp, sst, srows ++ rows, scur⟩, .slice a8 (nr + nu) c8)).toArray := by have := hB8.set 5 (.slice a8 (nr + nu) c8); simpa [tsC] using this
        have hown : Value.ownBlock (ps[i]'HIP.out).2 = (Value.slice ar nr cr).ownBlock := by rw [HPK.out]; dsimp only; rw [HU.out, HNR.out]
        have hkeep : ∀ d, d ≠ b → (Value.slice ar nr cr).ownBlock ≠ some d → d < W3.heap.size → (w8.setCell ⟨b, 5, none⟩ (.slice a8 (nr + nu) c8)).heap[d]? = W3.heap[d]? := fun d hdb hdo hdl => by
          rw [Deep.blk_setCell_other _ ⟨b, 5, none⟩ _ d (by dsimp only; exact hdb), ho8.block d (by rw [HDH.out]; exact hdl) (by simp; exact hdo), HDH.out]
        refine ⟨0, rfl, ⟨ov, nm, ps.set i (⟨sc, stag, sq, sp, sst, srows ++ rows, scur⟩, .slice a8 (nr + nu) c8), bs, HBK3.out.put HIP.out HIB.out _ _ (by rw [HPK.out]) (by rw [HPK.out]) hnew (fun d hdl hdb hdo => ?_) (by rw [HE2.out]; exact hBY) ?_ ?_, by rw [HRE.out, List.map_set]⟩, ?_⟩
        · exact hkeep d (by rw [HE2.out] at hdb; exact hdb) (by rw [hown] at hdo; exact hdo) hdl
        · exact hF8.keep fun d hdd => Deep.blk_setCell_other _ ⟨b, 5, none⟩ _ d (by
            dsimp only
            obtain ⟨cs2, e2⟩ := hF8.blk (b := d) (by simpa using hdd)
            exact blk_ne e2 (show w8.heap[b]? = some (.cells _ 50 (0, 0)) from hB8) (by decide))
        · intro d hdd
          rcases hv8 d hdd with h1 | h1
          · exact .inl (by rw [hown]; exact h1)
          · exact .inr (by rw [← HDH.out]; exact h1)
        · have h1 : Below base w D := HBB.out.trans (hD.mono (by have := HBB.out.size; omega))
          exact (h1.trans (ho8.below (by have := h1.size; omega) fun d hdd => (hFD.own d hdd).1)).setCell (p := ⟨b, 5, none⟩) HBB2.out _
      have hSd : (fun U : World => U.cell? ⟨b, 5, none⟩ = some (.slice ar nr cr) ∧ U.cell? ⟨w.heap.size, 5, none⟩ = some (.slice au nu cu)) D := ⟨by rw [show nr = srows.length from HNR.out.symm, ← HU.out]; exact hBD.cell 5 (by simp), hOD.cell 5 (by simp)⟩
      have hS8 : (fun U : World => U.cell? ⟨b, 5, none⟩ = some (.slice ar nr cr) ∧ U.cell? ⟨w.heap.size, 5, none⟩ = some (.slice au nu cu)) w8 := ⟨by rw [show nr = srows.length from HNR.out.symm, ← HU.out]; exact hB8.cell 5 (by simp), hO8.cell 5 (by simp)⟩
      have f5 := hB8.frozen 5
      have l8 := hB8.lt
      have HS8 := hide hS8
      have HDE := hide hDe
      clear hBD hOD hFD hVD hr8' hF8 ho8 hv8 hB8 hO8 hS8 hD d5 q5 bl hDe hlt hd
      refine wp_region_two (fun U : World => U.cell? ⟨b, 5, none⟩ = some (.slice ar nr cr) ∧ U.cell? ⟨w.heap.size, 5, none⟩ = some (.slice au nu cu)) 8 (by kernel_rfl) ?_
      rw [HDE.out]
      refine wpTwo_take (i := 0) (some 23) (v := ?v0_1) rfl rfl (by kernel_rfl) (by kernel_rfl) (by kernel_rfl) (by kernel_rfl) (fun _ _ _ h => h) hSd (Or.inl ⟨by rfl, ?hy0_1⟩) ?rest0_1
      case hy0_1 => (intro w hSw; (try dsimp only at hSw); go_simp; try with_reducible rfl)
      try simp only [Act.put, List.setIfInBounds_toArray, List.set_cons_zero, List.set_cons_succ]
      refine wpTwo_take (i := 1) (some 24) (v := ?v1_1) rfl rfl (by kernel_rfl) (by kernel_rfl) (by kernel_rfl) (by kernel_rfl) (fun _ _ _ h => h) hSd (Or.inl ⟨by rfl, ?hy1_1⟩) ?rest1_1
      case hy1_1 => (intro w hSw; (try dsimp only at hSw); go_simp; try with_reducible rfl)
      try simp only [Act.put, List.setIfInBounds_toArray, List.set_cons_zero, List.set_cons_succ]
      refine wpTwo_take (i := 2) (some 25) (v := ?v2_1) rfl rfl (by kernel_rfl) (by kernel_rfl) (by kernel_rfl) (by kernel_rfl) (fun _ _ _ h => h) hSd (Or.inl ⟨by rfl, ?hy2_1⟩) ?rest2_1
      case hy2_1 => (intro w hSw; (try dsimp only at hSw); go_simp; try with_reducible rfl)
      try simp only [Act.put, List.setIfInBounds_toArray, List.set_cons_zero, List.set_cons_succ]
      refine wpTwo_take (i := 3) (some 26) (v := ?v3_1) rfl rfl (by kernel_rfl) (by kernel_rfl) (by kernel_rfl) (by kernel_rfl) (fun _ _ _ h => h) hSd (Or.inl ⟨by rfl, ?hy3_1⟩) ?rest3_1
      case hy3_1 => (intro w hSw; (try dsimp only at hSw); go_simp; try with_reducible rfl)
      try simp only [Act.put, List.setIfInBounds_toArray, List.set_cons_zero, List.set_cons_succ]
      refine wpTwo_take (i := 4) (some 27) (v := ?v4_1) rfl rfl (by kernel_rfl) (by kernel_rfl) (by kernel_rfl) (by kernel_rfl) (fun _ _ _ h => h) hSd (Or.inl ⟨by rfl, ?hy4_1⟩) ?rest4_1
      case hy4_1 => (intro w hSw; (try dsimp only at hSw); go_simp; try with_reducible rfl)
      try simp only [Act.put, List.setIfInBounds_toArray, List.set_cons_zero, List.set_cons_succ]
      refine wpTwo_take (i := 5) (some 28) (v := ?v5_1) rfl rfl (by kernel_rfl) (by kernel_rfl) (by kernel_rfl) (by kernel_rfl) (fun _ _ _ h => h) hSd (Or.inl ⟨by rfl, ?hy5_1⟩) ?rest5_1
      case hy5_1 => (intro w hSw; (try dsimp only at hSw); go_simp; try with_reducible rfl)
      try simp only [Act.put, List.setIfInBounds_toArray, List.set_cons_zero, List.set_cons_succ]
      refine wpTwo_take (i := 6) (some 29) (v := ?v6_1) rfl rfl (by kernel_rfl) (by kernel_rfl) (by kernel_rfl) (by kernel_rfl) (fun _ _ _ h => h) hSd (Or.inl ⟨by rfl, ?hy6_1⟩) ?rest6_1
      case hy6_1 => (intro w hSw; (try dsimp only at hSw); go_simp; try with_reducible rfl)
      try simp only [Act.put, List.setIfInBounds_toArray, List.set_cons_zero, List.set_cons_succ]
      refine wpTwo_one (j := 7) (by kernel_rfl) rfl (fun K2 hK => ?_)
      refine step_app rfl _ _ 25 rfl hr8 (by first | rfl | simp [Act.eval, Act.put]) (by first | rfl | simp [Act.eval, Act.put]) ?_
      refine hK.out _ _ (fun _ => HS8.out) ?_
      clear hK K2
      try simp only [Act.put, List.setIfInBounds_toArray, List.set_cons_zero, List.set_cons_succ]
      refine wpTwo_one (j := 8) (by kernel_rfl) rfl (fun K2 hK => ?_)
      go_simp
      refine hK.out _ _ (fun h => absurd h (by decide)) ?_
      clear hK K2
      try simp only [Act.put, List.setIfInBounds_toArray, List.set_cons_zero, List.set_cons_succ]
      refine wpTwo_one (j := 9) (by kernel_rfl) rfl (fun K2 hK => ?_)
      go_simp
      refine hK.out _ _ (fun h => absurd h (by decide)) ?_
      clear hK K2
      try simp only [Act.put, List.setIfInBounds_toArray, List.set_cons_zero, List.set_cons_succ]
      have d8 : w8.cell? ⟨b, 5, none⟩ = some (.slice ar nr cr) := HS8.out.1
      refine wpTwo_one (j := 10) (by kernel_rfl) rfl (fun K2 hK => ?_)
      go_simp
      refine hK.out _ _ (fun h => absurd h (by decide)) ?_
      clear hK K2
      refine wpTwo_done (by kernel_rfl) ?_ _
      go_wp2_with fail
      go_ret
      exact HFIN.out
end Go.Proofs.Ytaalkjbkmkjkpaa.Msg

namespace Go.Proofs.Ytaalkjbkmkjkpaa.Msg
open Go.ChangeShapes Go.WideShapes Go.ChangeAt Go.RowKit
set_option linter.unusedVariables false
set_option linter.unusedSimpArgs false

/-! slices.Index of sessions -/
set_option maxRecDepth 100000 in
set_option maxHeartbeats 4000000 in
theorem indexP_any (bs : List Nat) (i : Nat) (g n c : Nat) (w : World) (hv : ∀ j (h : j < bs.length), w.cell? ⟨g, j, none⟩ = some (.pointer (some ⟨bs[j], 0, none⟩))) (hh : ∀ b ∈ bs, ∃ cs, w.heap[b]? = some (.cells cs 50 (0, 0))) (hn : bs.length = n) (hl : n ≤ 1000) (hi : i < bs.length) {b : Nat} (hb : bs[i] = b) (hnd : bs.Nodup) :
    Calls Try.prog 69 #[.slice (some ⟨g, 0, none⟩) n c, .pointer (some ⟨b, 0, none⟩)] w fun e w' => e = .returned (.int .i64 (i : Int)) ∧ w' = w := by
  have HV := hide hv
  have HH := hide hh
  obtain ⟨i0, hi0, _, hz1, _⟩ := info_parts info_Sess
  have HN := hide hn
  have HI := hide hi
  have HND : Hid (∀ j (h : j < bs.length), j < i → bs[i] ≠ bs[j]) := fun j h hji e => List.pairwise_iff_getElem.1 hnd j i h HI.out hji e.symm
  have HBI : Hid (bs[i]'HI.out = b) := hb
  have hin : i < n := by omega
  clear hv hn hb hnd hi hh
  go_enter Try.func69, Try.ntmps69
  go_wp2_with fail
  go_loopg [8] n (fun q v wr => ∃ k : Nat, k ≤ i ∧ q = n - k ∧ v = .int .i64 (k : Int) ∧ wr = w)
  case atStart => exact ⟨0, Nat.zero_le _, rfl, rfl, rfl⟩
  case round =>
    obtain ⟨k, hk, rfl, rfl, rfl⟩ := hrel
    have hki : (k : Int) < (n : Int) := by omega
    have hk0 : (0 : Int) ≤ (k : Int) := by omega
    have hkl : k < bs.length := by rw [HN.out]; omega
    by_cases he : k = i
    · subst he
      have m0 : wr.cell? ⟨g, k, none⟩ = some (.pointer (some ⟨b, 0, none⟩)) := by rw [← HBI.out]; exact HV.out k hkl
      have he : ∀ W : World, (binOp .eql 73 (.pointer (some ⟨b, 0, none⟩)) (.pointer (some ⟨b, 0, none⟩))).run Try.prog W = .ok (.bool true) W := fun W => run_eql_ptr_same W ⟨b, 0, none⟩ Try.underlying73 hi0
      go_wp2_with fail
      go_ret
      exact ⟨rfl, rfl⟩
    · obtain ⟨z, hz⟩ : ∃ z, bs[k] = z := ⟨_, rfl⟩
      have m0 : wr.cell? ⟨g, k, none⟩ = some (.pointer (some ⟨z, 0, none⟩)) := by rw [← hz]; exact HV.out k hkl
      have hne : b ≠ z := by rw [← hz, ← HBI.out]; exact HND.out k hkl (by omega)
      have he : (binOp .eql 73 (.pointer (some ⟨b, 0, none⟩)) (.pointer (some ⟨z, 0, none⟩))).run Try.prog wr = .ok (.bool false) wr := by
        obtain ⟨cb, eb⟩ := HH.out b (by rw [← HBI.out]; exact List.getElem_mem _)
        obtain ⟨cz, ez⟩ := HH.out z (by rw [← hz]; exact List.getElem_mem _)
        exact run_eql_ptr_other wr Try.underlying73 hi0 (by rw [hz1]; decide) (fun e => hne (by injection e)) eb ez
      clear hz
      go_wp2_with fail
      go_roundg (n - (k + 1))
      case measure => omega
      case rel => exact ⟨k + 1, by omega, rfl, by go_num, rfl⟩
end Go.Proofs.Ytaalkjbkmkjkpaa.Msg
