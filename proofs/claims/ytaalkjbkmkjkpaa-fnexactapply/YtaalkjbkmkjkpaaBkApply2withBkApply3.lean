import Derived.Test.YtaalkjbkmkjkpaaBkApply
import Derived.Test.YtaalkjbkmkjkpaaChgImpl
import Derived.Test.YtaalkjbkmkjkpaaTblApplyS
namespace Go.Proofs.Ytaalkjbkmkjkpaa.Msg
open Go.ChangeShapes Go.WideShapes Go.ChangeAt Go.RowKit
set_option linter.unusedVariables false
set_option linter.unusedSimpArgs false

/-! (*book).apply, and impl.Apply -/
def doP (xs : List Sess) (c : Chg) : List Sess × Int := if c.kind = 1 then openP xs c else opP xs c
theorem applyP_do {xs : List Sess} {c : Chg} (h1 : tblB xs = true) (h2 : chgB c = true) : applyP xs c = doP xs c := by
  unfold applyP doP opP
  rw [if_pos ⟨h1, h2⟩]
  by_cases hk : c.kind = 1
  · rw [if_pos hk, if_pos hk]
  · rw [if_neg hk, if_neg hk]
    cases List.findIdx? (keyB c.client c.tag) xs <;> rfl
theorem applyP_not {xs : List Sess} {c : Chg} (h : ¬ (tblB xs = true ∧ chgB c = true)) : applyP xs c = ([], 9) := by
  unfold applyP
  rw [if_neg h]
theorem chg_facts {c : Chg} (h : chgB c = true) : (Lit.int .i64 c.client).wf = true ∧ c.tag.size ≤ 9223372036854775807 := by
  unfold chgB clientB at h
  simp only [Bool.and_eq_true, decide_eq_true_eq] at h
  obtain ⟨⟨⟨h1, h2⟩, h3⟩, _⟩ := h
  refine ⟨?_, ?_⟩
  · simp [Lit.wf, IntKind.min, IntKind.max, IntKind.signed, IntKind.bits]
    omega
  · have := bnd_sz h3
    omega
theorem sessB_st {s : Sess} (h : sessB s = true) : s.state = 1 ∨ s.state = 2 ∨ s.state = 3 ∨ s.state = 4 := by
  unfold sessB stateB at h
  simp only [Bool.and_eq_true] at h
  have h2 := h.2
  by_cases k1 : s.state = 1
  · exact .inl k1
  by_cases k2 : s.state = 2
  · exact .inr (.inl k2)
  by_cases k3 : s.state = 3
  · exact .inr (.inr (.inl k3))
  by_cases k4 : s.state = 4
  · exact .inr (.inr (.inr k4))
  exfalso
  simp [k1, k2, k3, k4] at h2
theorem tv_of {ps : List (Sess × Value)} (h : tblB (ps.map Prod.fst) = true) : TV ps := by
  unfold tblB at h
  simp only [Bool.and_eq_true, decide_eq_true_eq] at h
  obtain ⟨h1, h2⟩ := h
  rw [List.length_map] at h1
  have hat : ∀ p ∈ ps, sessB p.1 = true := fun p hp => by
    obtain ⟨i, hi, rfl⟩ := List.mem_iff_getElem.1 hp
    have := (h2 i (by rw [List.length_map]; exact hi)).1
    rw [List.getElem_map] at this
    exact this
  refine ⟨?_, fun p hp => client_wf (hat p hp), fun p hp => sessB_st (hat p hp), h1⟩
  unfold KU
  rw [List.pairwise_iff_getElem]
  intro i j hi hj hij he
  have := (h2 j (by rw [List.length_map]; exact hj)).2 i hij
  rw [List.getElem_map, List.getElem_map] at this
  unfold sameB at this
  rw [he.1, he.2] at this
  simp at this
theorem apply_any {base : Nat} {w : World} {K M : Nat} {ov : Value} {nm : Nat} {ps : List (Sess × Value)} {bs : List Nat} (h : BK base w K M ov nm ps bs) (hbase : base ≤ w.heap.size) (hV : TV ps) (hnm : nm ≤ 100000) (c : Chg) (hck : chgB c = true) (hq : c.query.size ≤ 9223372036854775807) (au : Option Addr) (nu cu : Nat) {lo : Nat} (hv : StrsAt lo w (.slice au nu cu) c.rows) :
    Calls Try.prog 27 #[.pointer (some ⟨K, 0, none⟩), chgV c (.slice au nu cu)] w (StPost base w K M (doP (ps.map Prod.fst) c)) := by
  obtain ⟨hc, ht⟩ := chg_facts hck
  have hr := chg_rows hck
  have hbD : ∀ D, Below w.heap.size w D → base ≤ D.heap.size := fun D hD => Nat.le_trans hbase hD.size
  have hd1 : c.kind = 1 → doP (ps.map Prod.fst) c = openP (ps.map Prod.fst) c := fun hk => by unfold doP; rw [if_pos hk]
  have hd2 : c.kind ≠ 1 → doP (ps.map Prod.fst) c = opP (ps.map Prod.fst) c := fun hk => by unfold doP; rw [if_neg hk]
  have a1 : c.kind = 1 → ∀ D, Below w.heap.size w D → Calls Try.prog 52 #[.pointer (some ⟨K, 0, none⟩), chgV c (.slice au nu cu)] D (StPost base D K M (doP (ps.map Prod.fst) c)) := fun hk D hD => by rw [hd1 hk]; exact open_any (h.below hD) (hbD D hD) hV hnm c hk hc ht hq au nu cu
  have a2 : c.kind = 2 → ∀ D, Below w.heap.size w D → Calls Try.prog 53 #[.pointer (some ⟨K, 0, none⟩), chgV c (.slice au nu cu)] D (StPost base D K M (doP (ps.map Prod.fst) c)) := fun hk D hD => by rw [hd2 (by omega)]; exact rows_any (h.below hD) (hbD D hD) c hk hc ht au nu cu (At.kept kept_str hv hD) hr
  have a3 : c.kind = 3 → ∀ D, Below w.heap.size w D → Calls Try.prog 54 #[.pointer (some ⟨K, 0, none⟩), chgV c (.slice au nu cu)] D (StPost base D K M (doP (ps.map Prod.fst) c)) := fun hk D hD => by rw [hd2 (by omega)]; exact finish_any (h.below hD) (hbD D hD) c hk hc ht au nu cu
  have a4 : c.kind = 4 → ∀ D, Below w.heap.size w D → Calls Try.prog 55 #[.pointer (some ⟨K, 0, none⟩), chgV c (.slice au nu cu)] D (StPost base D K M (doP (ps.map Prod.fst) c)) := fun hk D hD => by rw [hd2 (by omega)]; exact move_any (h.below hD) (hbD D hD) c hk hc ht au nu cu
  have a5 : c.kind = 5 → ∀ D, Below w.heap.size w D → Calls Try.prog 56 #[.pointer (some ⟨K, 0, none⟩), chgV c (.slice au nu cu)] D (StPost base D K M (doP (ps.map Prod.fst) c)) := fun hk D hD => by rw [hd2 (by omega)]; exact fail_any (h.below hD) (hbD D hD) c hk hc ht au nu cu
  have a6 : c.kind = 6 → ∀ D, Below w.heap.size w D → Calls Try.prog 57 #[.pointer (some ⟨K, 0, none⟩), chgV c (.slice au nu cu)] D (StPost base D K M (doP (ps.map Prod.fst) c)) := fun hk D hD => by rw [hd2 (by omega)]; exact shut_any (h.below hD) (hbD D hD) c hk hc ht au nu cu
  have hks := chg_kinds hck
  obtain ⟨R, hR⟩ : ∃ R, doP (ps.map Prod.fst) c = R := ⟨_, rfl⟩
  rw [hR] at a1 a2 a3 a4 a5 a6 ⊢
  obtain ⟨kind, client, tag, query, page, rows, n0⟩ := c
  unfold chgV at *
  dsimp only at *
  rcases hks with rfl | rfl | rfl | rfl | rfl | rfl
  · exact apply_open hbase client page n0 tag query au nu cu (a1 rfl)
  · exact apply_addRows hbase client page n0 tag query au nu cu (a2 rfl)
  · exact apply_finish hbase client page n0 tag query au nu cu (a3 rfl)
  · exact apply_moveCursor hbase client page n0 tag query au nu cu (a4 rfl)
  · exact apply_fail hbase client page n0 tag query au nu cu (a5 rfl)
  · exact apply_shut hbase client page n0 tag query au nu cu (a6 rfl)
end Go.Proofs.Ytaalkjbkmkjkpaa.Msg

namespace Go.Proofs.Ytaalkjbkmkjkpaa.Msg
open Go.ChangeShapes Go.WideShapes Go.ChangeAt Go.RowKit
set_option linter.unusedVariables false
set_option linter.unusedSimpArgs false

/-! impl.Apply -/
theorem roomP_len (ys : List Sess) : (roomP ys).length ≤ ys.length := by
  unfold roomP
  split
  · exact Nat.le_refl _
  · split
    · exact List.length_eraseIdx_le _ _
    · exact Nat.le_refl _
theorem openFin_len (xs ys : List Sess) (c : Chg) (h : ys.length ≤ xs.length) : (openFin xs ys c).1.length ≤ xs.length + 1 := by
  unfold openFin
  split
  · exact Nat.le_succ _
  · rw [List.length_append, List.length_singleton]
    have := roomP_len ys
    omega
theorem doP_len (xs : List Sess) (c : Chg) : (doP xs c).1.length ≤ xs.length + 1 := by
  unfold doP
  split
  · unfold openP
    split
    · split
      · exact Nat.le_succ _
      · exact openFin_len _ _ _ (List.length_eraseIdx_le _ _)
    · exact openFin_len _ _ _ (Nat.le_refl _)
  · unfold opP
    split
    · unfold atP
      split
      · rw [List.length_set]; exact Nat.le_succ _
      · exact Nat.le_succ _
    · exact Nat.le_succ _
theorem applyP_len (xs : List Sess) (c : Chg) : (applyP xs c).1.length ≤ 17 := by
  by_cases h : tblB xs = true ∧ chgB c = true
  · rw [applyP_do h.1 h.2]
    have := doP_len xs c
    have := (tbl_sm h.1).1
    omega
  · rw [applyP_not h]
    simp
set_option maxRecDepth 100000 in
set_option maxHeartbeats 16000000 in
theorem applyI_any (xs : List Sess) (v : Value) (c : Chg) (au : Option Addr) (nu cu : Nat) (w : World) {lo lo2 : Nat} (hv : SesssAt lo w v xs) (hc1 : c.tag.size ≤ 9223372036854775807) (hc2 : c.query.size ≤ 9223372036854775807) (hr : StrsAt lo2 w (.slice au nu cu) c.rows) :
    Calls Try.prog 9 #[.agg #[v], chgV c (.slice au nu cu)] w (ApPost w (applyP xs c)) := by
  obtain ⟨R, hR⟩ : ∃ R, applyP xs c = R := ⟨_, rfl⟩
  have HRL : Hid (R.1.length ≤ 17) := by rw [← hR]; exact applyP_len xs c
  rw [hR]
  have HBO := hide (fun W (h : Below w.heap.size w W) => bookOf_any xs v W (At.kept kept_sess hv h))
  have HCK := hide (fun W (h : Below w.heap.size w W) => isChange_any c (.slice au nu cu) W hc1 hc2 (At.kept kept_str hr h))
  have HAP := hide (fun (base : Nat) (W : World) (K M : Nat) (ov : Value) (nm : Nat) (ps : List (Sess × Value)) (bs : List Nat) (h : BK base W K M ov nm ps bs) (hbase : base ≤ W.heap.size) (hV : TV ps) (hnm : nm ≤ 100000) (hck : chgB c = true) (hb : Below w.heap.size w W) => apply_any h hbase hV hnm c hck hc2 au nu cu (At.kept kept_str hr hb))
  have HDO := hide (fun (h1 : tblB xs = true) (h2 : chgB c = true) => applyP_do h1 h2)
  have HNO := hide (fun (h : ¬ (tblB xs = true ∧ chgB c = true)) => applyP_not h)
  rw [hR] at HDO HNO
  obtain ⟨chb, hchb⟩ : ∃ b, chgB c = b := ⟨_, rfl⟩
  rw [hchb] at HCK HAP HDO HNO
  obtain ⟨dp, hdp⟩ : ∃ f : List Sess → List Sess × Int, ∀ ys, doP ys c = f ys := ⟨fun ys => doP ys c, fun _ => rfl⟩
  have HAP2 : Hid (∀ (base : Nat) (W : World) (K M : Nat) (ov : Value) (nm : Nat) (ps : List (Sess × Value)) (bs : List Nat) (h : BK base W K M ov nm ps bs) (hbase : base ≤ W.heap.size) (hV : TV ps) (hnm : nm ≤ 100000) (hck : chb = true) (hb : Below w.heap.size w W), Calls Try.prog 27 #[.pointer (some ⟨K, 0, none⟩), chgV c (.slice au nu cu)] W (StPost base W K M (dp (ps.map Prod.fst)))) := fun base W K M ov nm ps bs h hbase hV hnm hck hb => by have := HAP.out base W K M ov nm ps bs h hbase hV hnm hck hb; rw [hdp] at this; exact this
  have HDO2 : Hid (tblB xs = true → chb = true → R = dp xs) := fun h1 h2 => by rw [← hdp]; exact HDO.out h1 h2
  clear HAP HDO
  obtain ⟨kind, client, tag, query, page, rows, n0⟩ := c
  unfold chgV at HCK HAP2 ⊢
  dsimp only at HCK HAP2 ⊢
  obtain ⟨a, cap, rfl, _⟩ := At.form hv
  obtain ⟨n, hnn⟩ : ∃ n, xs.length = n := ⟨_, rfl⟩
  rw [hnn] at HBO ⊢
  obtain ⟨x3, hx3⟩ : ∃ x, ((w.alloc (Obj.cells #[.slice a n cap] 32)).alloc (Obj.cells #[.int .i64 kind, .int .i64 client, .string tag, .string query, .int .i64 page, .slice au nu cu, .int .i64 n0] 36)).alloc (Obj.cells #[.slice none 0 0] 32) = x := ⟨_, rfl⟩
  have s3 : x3.heap.size = w.heap.size + 3 := by rw [← hx3]; simp
  have HO3 : Hid (Box x3 w.heap.size 32 #[.slice a n cap] ∧ Box x3 (w.heap.size + 1) 36 #[.int .i64 kind, .int .i64 client, .string tag, .string query, .int .i64 page, .slice au nu cu, .int .i64 n0] ∧ Box x3 (w.heap.size + 2) 32 #[.slice none 0 0] ∧ Below w.heap.size w x3) := by
    rw [← hx3]
    refine ⟨((Box.new w _ _).alloc _).alloc _, ?_, ?_, ?_⟩
    · have := (Box.new (w.alloc (Obj.cells #[.slice a n cap] 32)) 36 #[.int .i64 kind, .int .i64 client, .string tag, .string query, .int .i64 page, .slice au nu cu, .int .i64 n0]).alloc (Obj.cells #[.slice none 0 0] 32)
      rw [Deep.nblk_alloc] at this
      exact this
    · have := Box.new ((w.alloc (Obj.cells #[.slice a n cap] 32)).alloc (Obj.cells #[.int .i64 kind, .int .i64 client, .string tag, .string query, .int .i64 page, .slice au nu cu, .int .i64 n0] 36)) 32 #[.slice none 0 0]
      rw [Deep.nblk_alloc, Deep.nblk_alloc] at this
      exact this
    · have h1 := (Below.refl w.heap.size w).alloc (Nat.le_refl _) (Obj.cells #[.slice a n cap] 32)
      have h2 := h1.alloc h1.size (Obj.cells #[.int .i64 kind, .int .i64 client, .string tag, .string query, .int .i64 page, .slice au nu cu, .int .i64 n0] 36)
      exact h2.alloc h2.size _
  have HS3 := hide s3
  have HX3 := hide hx3
  have c0 : x3.cell? ⟨w.heap.size, 0, none⟩ = some (.slice a n cap) := HO3.out.1.cell 0 (by simp)
  have HB3 := hide (HBO.out x3 HO3.out.2.2.2)
  clear hv hr hc1 hc2 hR hchb hdp hnn hx3 s3 HBO
  go_enter Try.func9, Try.ntmps9
  go_upto_region 1 with fail
  (try rw [HX3.out])
  go_wp2_with fail
  refine HB3.out.mono ?_
  rintro e W1 ⟨hpo, hb1⟩
  have HB1 := hide hb1
  have HW1 : Hid (Below w.heap.size w W1) := bjoin hb1 HO3.out.2.2.2
  have HO1 := hide (And.intro (HO3.out.2.1.below hb1) (HO3.out.2.2.1.below hb1))
  clear hb1 c0
  have HCL : Hid (∀ U : World, Box U (w.heap.size + 1) 36 #[.int .i64 kind, .int .i64 client, .string tag, .string query, .int .i64 page, .slice au nu cu, .int .i64 n0] → U.cell? ⟨w.heap.size + 1, 0, none⟩ = some (.int .i64 kind) ∧ U.cell? ⟨w.heap.size + 1, 1, none⟩ = some (.int .i64 client) ∧ U.cell? ⟨w.heap.size + 1, 2, none⟩ = some (.string tag) ∧ U.cell? ⟨w.heap.size + 1, 3, none⟩ = some (.string query) ∧ U.cell? ⟨w.heap.size + 1, 4, none⟩ = some (.int .i64 page) ∧ U.cell? ⟨w.heap.size + 1, 5, none⟩ = some (.slice au nu cu) ∧ U.cell? ⟨w.heap.size + 1, 6, none⟩ = some (.int .i64 n0)) := fun U o => ⟨o.cell 0 (by simp), o.cell 1 (by simp), o.cell 2 (by simp), o.cell 3 (by simp), o.cell 4 (by simp), o.cell 5 (by simp), o.cell 6 (by simp)⟩
  -- the empty answer
  have HEMPTY : Hid (R = ([], 9) → ∀ U, Below w.heap.size w U → ApPost w R (.returned (.tuple #[.agg #[.slice none 0 0], .int .i64 9])) (U.setCell ⟨w.heap.size + 2, 0, none⟩ (.slice none 0 0))) := fun he U hU => ⟨.slice none 0 0, by rw [he], ⟨[], TE.nil _ _, by rw [he]; rfl⟩, hU.setCell (p := ⟨w.heap.size + 2, 0, none⟩) (by dsimp only; omega) _⟩
  by_cases ht : tblB xs = true
  · rw [if_pos ht] at hpo
    obtain ⟨K, M, ov, nm, ps, bs, rfl, hbk, hps, hn16⟩ := hpo
    have HBK := hide hbk
    have HPS := hide hps
    have HTV : Hid (TV ps) := tv_of (by rw [hps]; exact ht)
    have HNM := hide hn16
    have HT := hide ht
    have HCK1 := hide (HCK.out W1 HW1.out)
    obtain ⟨q0, q1, q2, q3, q4, q5, q6⟩ := HCL.out W1 HO1.out.1
    clear hbk hps hn16 ht
    cases chb with
    | false =>
      have HE := hide (HEMPTY.out (HNO.out (by simp)))
      clear HEMPTY HNO
      go_wp2_with fail
      refine HCK1.out.mono ?_
      rintro e W2 ⟨rfl, hb2⟩
      have HW2 : Hid (Below w.heap.size w W2) := bjoin hb2 HW1.out
      have HO2 := hide (HO1.out.2.below hb2)
      have z0 : W2.cell? ⟨w.heap.size + 2, 0, none⟩ = some (.slice none 0 0) := HO2.out.cell 0 (by simp)
      have zf := HO2.out.frozen 0
      have zl := HO2.out.lt
      have HFIN := hide (HE.out W2 HW2.out)
      clear hb2 q0 q1 q2 q3 q4 q5 q6
      go_wp2_with fail
      exact bodyPost_ret (v := .tuple #[.agg #[.slice none 0 0], .int .i64 9]) (by simp [results, Try.results9, go_sem, z0, zl]) rfl HFIN.out
    | true =>
      clear HEMPTY HNO
      go_wp2_with fail
      refine HCK1.out.mono ?_
      rintro e W2 ⟨rfl, hb2⟩
      have HW2 : Hid (Below w.heap.size w W2) := bjoin hb2 HW1.out
      have HBK2 := hide (HBK.out.below hb2)
      have HO2 := hide (And.intro (HO1.out.1.below hb2) (HO1.out.2.below hb2))
      have HAP3 := hide (HAP2.out _ _ _ _ _ _ _ _ HBK2.out (by have := HBK2.out.own (.inl rfl); omega) HTV.out (by have := HNM.out; omega) (by first | rfl | trivial) HW2.out)
      rw [HPS.out, ← HDO2.out HT.out (by first | rfl | trivial)] at HAP3
      clear q0 q1 q2 q3 q4 q5 q6 hb2
      obtain ⟨q0, q1, q2, q3, q4, q5, q6⟩ := HCL.out W2 HO2.out.1
      go_wp2_with fail
      refine HAP3.out.mono ?_
      rintro e W3 ⟨code, rfl, ⟨ov3, nm3, ps3, bs3, hbk3, hps3⟩, hb3⟩
      have HBK3 := hide hbk3
      have HPS3 := hide hps3
      have hkl := (HBK2.out.own (.inl rfl))
      have HO3' : Hid (Box W3 (w.heap.size + 2) 32 #[.slice none 0 0]) := HO2.out.2.keep (hb3.block _ (by have := HS3.out; omega))
      have HW3 : Hid (Below w.heap.size w W3) := HW2.out.trans (hb3.mono (by have := HS3.out; omega))
      have HLEN : Hid (ps3.length ≤ 1000) := by
        show _ ≤ _
        have e1 : (ps3.map Prod.fst).length = R.1.length := by rw [← hps3]
        rw [List.length_map] at e1
        rw [e1]
        have := HRL.out; omega
      have HTB := hide (table_any HBK3.out (by have := HBK3.out.own (.inl rfl); omega) HLEN.out)
      clear q0 q1 q2 q3 q4 q5 q6 hbk3 hps3 hb3 hkl
      go_wp2_with fail
      refine HTB.out.mono ?_
      rintro e W4 ⟨t, rfl, hte, hb4⟩
      have HTE := hide hte
      have HO4 := hide (HO3'.out.below hb4)
      have HW4 : Hid (Below w.heap.size w W4) := bjoin hb4 HW3.out
      have z0 : W4.cell? ⟨w.heap.size + 2, 0, none⟩ = some (.slice none 0 0) := HO4.out.cell 0 (by simp)
      have zf := HO4.out.frozen 0
      have zl := HO4.out.lt
      have HFIN : Hid (ApPost w R (.returned (.tuple #[.agg #[t], .int .i64 code])) (W4.setCell ⟨w.heap.size + 2, 0, none⟩ t)) := ⟨t, by rw [← HPS3.out], ⟨ps3, (HTE.out.low (by have := HS3.out; omega)).setBox HO4.out t, by rw [← HPS3.out]⟩, HW4.out.setCell (p := ⟨w.heap.size + 2, 0, none⟩) (by dsimp only; omega) _⟩
      obtain ⟨at4, ct4, hform, _⟩ := hte.form
      obtain ⟨n4, hn4⟩ : ∃ q, ps3.length = q := ⟨_, rfl⟩
      rw [hn4] at hform
      subst hform
      clear hte hb4 hn4
      go_wp2_with fail
      exact bodyPost_ret (v := .tuple #[.agg #[.slice at4 n4 ct4], .int .i64 code]) (by simp [results, Try.results9, go_sem, z0, zl]) rfl HFIN.out
  · rw [if_neg ht] at hpo
    subst hpo
    have HE := hide (HEMPTY.out (HNO.out (fun h => ht h.1)))
    have z0 : W1.cell? ⟨w.heap.size + 2, 0, none⟩ = some (.slice none 0 0) := HO1.out.2.cell 0 (by simp)
    have zf := HO1.out.2.frozen 0
    have zl := HO1.out.2.lt
    have HFIN := hide (HE.out W1 HW1.out)
    clear HEMPTY HNO
    go_wp2_with fail
    exact bodyPost_ret (v := .tuple #[.agg #[.slice none 0 0], .int .i64 9]) (by simp [results, Try.results9, go_sem, z0, zl]) rfl HFIN.out
end Go.Proofs.Ytaalkjbkmkjkpaa.Msg
