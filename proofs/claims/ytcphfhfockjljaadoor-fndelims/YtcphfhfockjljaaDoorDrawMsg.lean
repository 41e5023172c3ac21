import Derived.Test.YtcphfhfockjljaaDoorImplPartswithDrawRowwithSegRow
import Derived.Test.YtcphfhfockjljaaDoorTrim
import Derived.Deep.LoopGhost
namespace Go.Proofs.YtcphfhfockjljaaDoor.Msg
open Go.ChangeShapes Go.WideShapes Go.ChangeAt Go.RowKit
set_option linter.unusedVariables false
set_option linter.unusedSimpArgs false

set_option maxHeartbeats 1000000 in
theorem count_any (L : Nat) (a : Option Addr) (cap per lo hi : Nat) (w : World) (hl : L ≤ 1048576) (hp : 1 ≤ per) (hlo : lo ≤ 1000) (hhi : hi ≤ 1000) (hper : per ≤ 1000) :
    Calls Tryd.prog 23 #[.slice a L cap, .int .i64 (per : Int), .int .i64 (lo : Int), .int .i64 (hi : Int)] w fun e w' => e = .returned (.int .i64 ((drCount L per lo hi : Nat) : Int)) ∧ w' = w := by
  obtain ⟨q, hq⟩ : ∃ q, L / per = q := ⟨_, rfl⟩
  have hql : q ≤ L := by rw [← hq]; exact Nat.div_le_self _ _
  have m1 : (L : Int).tdiv (per : Int) = (q : Int) := by rw [Int.tdiv_eq_ediv_of_nonneg (by omega), ← hq]; exact (Int.natCast_ediv _ _).symm
  have m2 : (L : Int) / (per : Int) = (q : Int) := by rw [← hq]; exact (Int.natCast_ediv _ _).symm
  have h0 : ¬ (per : Int) = 0 := by omega
  have h0b : ((per : Int) == 0) = false := by simpa using h0
  by_cases hh : (hi : Int) < (lo : Int) + (q : Int)
  · have HX : Hid (drCount L per lo hi = hi) := by unfold drCount; rw [hq, if_pos (by omega)]; exact rfl
    clear hq
    go_enter Tryd.func23, Tryd.ntmps23
    go_wp2_with fail
    go_ret
    exact ⟨by rw [HX.out]; rfl, rfl⟩
  · have HX : Hid (((drCount L per lo hi : Nat) : Int) = (lo : Int) + (q : Int)) := by unfold drCount; rw [hq, if_neg (by omega)]; show ((lo + q : Nat) : Int) = _; omega
    clear hq
    go_enter Tryd.func23, Tryd.ntmps23
    go_wp2_with fail
    go_ret
    exact ⟨by rw [HX.out]; rfl, rfl⟩
theorem drComps_sz (cs : List UInt8) (p n : Nat) : ∀ s ∈ (List.range n).map (fun x => drComp cs (p + 2 * x)), s.size ≤ 9223372036854775807 := fun s hs => by
  rw [List.mem_map] at hs
  obtain ⟨x, _, rfl⟩ := hs
  exact Nat.le_trans (drComp_sz cs _) (by decide)
theorem one_box {W : World} {b : Nat} {t : TypeId} {y : Value} (h : Box W b t #[y]) {G : Prop} (k : Box W b t #[y] → W.cell? ⟨b, 0, none⟩ = some y → W.frozen? ⟨b, 0, none⟩ = false → b < W.heap.size → G) : G := k h (h.cell 0 (by simp)) (h.frozen 0) h.lt
theorem Box.put1 {W : World} {b : Nat} {t : TypeId} {y : Value} (h : Box W b t #[y]) (x : Value) : Box (W.setCell ⟨b, 0, none⟩ x) b t #[x] := by
  have := h.set 0 x
  simpa using this

theorem Only.set1 {M o : Nat} {w w' : World} (h : Only [M] w w') {x : Value} : Only [M] w (w'.setCell ⟨M, o, none⟩ x) :=
  ⟨h.os, h.tape, h.output, by rw [Deep.nblk_setCell]; exact h.size, fun b h1 h2 => by rw [Deep.blk_setCell_other _ ⟨M, o, none⟩ _ b (fun e => h2 (by rw [e]; simp))]; exact h.block b h1 h2⟩
theorem SgRow.weaken {base base' : Nat} {bad bad' : Nat → Prop} {w : World} {v : Value} {ps : List SgE} (h : SgRow base bad w v ps) (hb : base' ≤ base) (hbad : ∀ b, bad' b → bad b) : SgRow base' bad' w v ps :=
  ⟨own_mono h.row hb, fun b e hb' => h.own b e (hbad b hb'), h.nm, fun p hp => by
    obtain ⟨bs, hO, hbs⟩ := h.el p hp
    exact ⟨bs, hO, fun b hb' => ⟨(hbs b hb').1, fun h1 => (hbs b hb').2.1 (hbad b h1), (hbs b hb').2.2⟩⟩⟩
theorem drFields_el (cs : List UInt8) (p : Nat) : ∀ n, ∀ f ∈ (drFields cs p n).1, f.length ≤ 1048576
  | 0, f, h => by cases h
  | n + 1, f, h => by
    have h' : f ∈ (drFields cs p n).1 ++ [(drField cs (drFields cs p n).2).1] := h
    rcases List.mem_append.1 h' with h' | h'
    · exact drFields_el cs p n f h'
    · rw [List.mem_singleton.1 h']
      unfold drField
      rw [drReps_len]
      exact Nat.le_trans (tk_le cs _ 3 2 (by decide)) (by decide)
set_option maxRecDepth 100000 in
set_option maxHeartbeats 16000000 in
theorem drawMsg_any (cs : List UInt8) (v : Value) (p : Nat) (w : World) {lo : Nat} (hv : CodeAt lo w v cs) (hl : cs.length ≤ 1048576) (hp : p ≤ 2000000) :
    Calls Tryd.prog 12 #[v, .int .i64 (p : Int)] w fun e w' => ∃ a c ps, e = .returned (.tuple #[.agg #[.slice a (drMsg cs p).1.length c], .int .i64 (((drMsg cs p).2 : Nat) : Int)]) ∧ SgRow w.heap.size (fun b => b < w.heap.size) w' (.slice a (drMsg cs p).1.length c) ps ∧ ps.map Prod.fst = (drMsg cs p).1 ∧ Below w.heap.size w w' := by
  have HV := hide hv
  obtain ⟨va, vc, rfl, _⟩ := code_form hv
  have HTK := hide (fun (W : World) (q n : Nat) (h : Below w.heap.size w W) (hq : q ≤ 4000000) (hn : n ≤ 100) => take_any cs (.slice va cs.length vc) q n W (At.kept kept_code HV.out h) hl (by omega) (by omega))
  have HDC := hide (fun (W : World) (q : Nat) (h : Below w.heap.size w W) (hq : q ≤ 3000000) => drawComp_any cs (.slice va cs.length vc) q W (At.kept kept_code HV.out h) hl (by omega))
  have HCT := hide (fun W => count_any cs.length va vc 12 1 8 W hl (by decide) (by decide) (by decide) (by decide))
  unfold drMsg
  obtain ⟨N, hN⟩ : ∃ N, drCount cs.length 12 1 8 = N := ⟨_, rfl⟩
  have hN8 : N ≤ 8 := by rw [← hN]; unfold drCount; split <;> omega
  rw [hN] at HCT ⊢
  clear hN hv
  obtain ⟨x1, hx1⟩ : ∃ x, w.alloc (Obj.cells #[.slice none 0 0] 25) = x := ⟨_, rfl⟩
  obtain ⟨x2, hx2⟩ : ∃ x, x1.alloc (Obj.cells #[.slice none 0 0] 25) = x := ⟨_, rfl⟩
  obtain ⟨W0, hW0⟩ : ∃ x, x2.alloc (Obj.cells #[.string ⟨#[77, 83, 65]⟩, .string ⟨#[81, 80, 68]⟩, .string ⟨#[90, 90, 49]⟩, .string ⟨#[81, 65, 75]⟩, .string ⟨#[82, 68, 84]⟩, .string ⟨#[65, 48, 48]⟩] 9) = x := ⟨_, rfl⟩
  have sx1 : x1.heap.size = w.heap.size + 1 := by rw [← hx1]; simp
  have sx2 : x2.heap.size = w.heap.size + 1 + 1 := by rw [← hx2]; simp [sx1]
  have sW0 : W0.heap.size = w.heap.size + 3 := by rw [← hW0]; simp [sx2]
  have bx1 : Below w.heap.size w x1 := by rw [← hx1]; exact (Below.refl _ _).alloc (Nat.le_refl _) _
  have bx2 : Below x1.heap.size x1 x2 := by rw [← hx2]; exact (Below.refl _ _).alloc (Nat.le_refl _) _
  have bW0 : Below x2.heap.size x2 W0 := by rw [← hW0]; exact (Below.refl _ _).alloc (Nat.le_refl _) _
  have HRES : Hid (Box W0 w.heap.size 25 #[.slice none 0 0]) := by
    have : Box x1 w.heap.size 25 #[.slice none 0 0] := by rw [← hx1]; exact Box.new _ _ _
    exact (this.below bx2).below bW0
  have HM0 : Hid (Box W0 (w.heap.size + 1) 25 #[.slice none 0 0]) := by
    have : Box x2 (w.heap.size + 1) 25 #[.slice none 0 0] := by rw [← hx2, ← sx1]; exact Box.new _ _ _
    exact this.below bW0
  have HNM : Hid (Box W0 (w.heap.size + 1 + 1) 9 #[.string ⟨#[77, 83, 65]⟩, .string ⟨#[81, 80, 68]⟩, .string ⟨#[90, 90, 49]⟩, .string ⟨#[81, 65, 75]⟩, .string ⟨#[82, 68, 84]⟩, .string ⟨#[65, 48, 48]⟩]) := by rw [← hW0, ← sx2]; exact Box.new _ _ _
  have HB0 := hide (bjoin bW0 (bjoin bx2 bx1))
  have HX1 := hide hx1
  have HW0 : Hid ((x1.alloc (Obj.cells #[.slice none 0 0] 25)).alloc (Obj.cells #[.string ⟨#[77, 83, 65]⟩, .string ⟨#[81, 80, 68]⟩, .string ⟨#[90, 90, 49]⟩, .string ⟨#[81, 65, 75]⟩, .string ⟨#[82, 68, 84]⟩, .string ⟨#[65, 48, 48]⟩] 9) = W0) := by rw [hx2]; exact hW0
  have HSX := hide sx1
  have HSW := hide sW0
  clear hx2 hW0 sx2 bx1 bx2 bW0 sW0
  obtain ⟨xs9, hxs9⟩ : ∃ x, drSegs cs p N = x := ⟨_, rfl⟩
  have HXS := hide hxs9
  rw [hxs9]
  clear hxs9
  go_enter Tryd.func12, Tryd.ntmps12
  go_wp2_with fail
  refine (HCT.out _).mono ?_
  rintro e y ⟨rfl, hy⟩
  (try rw [hy])
  clear hy y
  have sx1 := HSX.out
  go_wp2_with fail
  rw [HW0.out]
  clear sx1
  go_loopg [1, 13] N (fun q v1 i wr => ∃ (k : Nat) (ps : List SgE) (am : Option Addr) (cm : Nat), k ≤ N ∧ q = N - k ∧ i = .int .i64 (k : Int) ∧ v1 = .int .i64 (((drSegs cs p k).2 : Nat) : Int) ∧ Box wr (w.heap.size + 1) 25 #[.slice am k cm] ∧ SgRow W0.heap.size (fun b => b < W0.heap.size) wr (.slice am k cm) ps ∧ ps.map Prod.fst = (drSegs cs p k).1 ∧ Only [w.heap.size + 1] W0 wr)
  case atStart => exact ⟨0, [], none, 0, Nat.zero_le _, rfl, rfl, rfl, HM0.out, SgRow.nil _ _ _, rfl, Only.refl _ _⟩
  case round =>
    obtain ⟨k, ps, am, cm, hk, rfl, rfl, rfl, hBM, hRow, hps, hOnly⟩ := hrel
    obtain ⟨Y, rfl⟩ : ∃ x, x = wr := ⟨_, rfl⟩
    have HBM := hide hBM
    have HRW := hide hRow
    have HPS := hide hps
    have HON := hide hOnly
    have HBY : Hid (Below w.heap.size w Y) := HB0.out.trans (hOnly.below (by have := HSW.out; omega) fun b hb => by rw [List.mem_singleton.1 hb]; omega)
    have hYs : W0.heap.size ≤ Y.heap.size := hOnly.size
    obtain ⟨pk, hpk⟩ : ∃ q, (drSegs cs p k).2 = q := ⟨_, rfl⟩
    have HPK := hide hpk
    have hpkl : pk ≤ 2000500 := by rw [← hpk]; have := drSegs_p cs p k; omega
    rw [hpk]
    clear hBM hRow hps hOnly hpk
    by_cases hlt : k < N
    · have hki : (k : Int) < (N : Int) := by omega
      have HST : Hid (drSegs cs p (k + 1) = ((drSegs cs p k).1 ++ [(drSeg cs k pk).1], (drSeg cs k pk).2)) := by rw [← HPK.out]; exact rfl
      obtain ⟨sg, hsg⟩ : ∃ x, drSeg cs k pk = x := ⟨_, rfl⟩
      rw [hsg] at HST
      have HSG := hide hsg
      unfold drSeg at HSG
      clear hsg
      have ha6 := tk_lt cs pk 6 (by decide)
      have hb5 := tk_lt cs (pk + 1) 5 (by decide)
      have HT1 := hide (HTK.out Y pk 6 HBY.out (by omega) (by decide))
      obtain ⟨a, hae⟩ : ∃ a, tk cs pk 6 = a := ⟨_, rfl⟩
      rw [hae] at HT1 HSG ha6
      obtain ⟨nf, hnf⟩ : ∃ a, tk cs (pk + 1) 5 = a := ⟨_, rfl⟩
      have HNF := hide hnf
      rw [hnf] at HSG hb5
      obtain ⟨nm, hnm⟩ : ∃ x, drNames.getD a ⟨#[]⟩ = x := ⟨_, rfl⟩
      have HNMB := hide (HNM.out.only HON.out (by simp))
      have hna : Y.cell? ⟨w.heap.size + 1 + 1, a, none⟩ = some (.string nm) := by
        have h6 : a < 6 := ha6
        rw [← hnm]
        match a, h6 with
        | 0, _ => exact HNMB.out.cell 0 (by simp)
        | 1, _ => exact HNMB.out.cell 1 (by simp)
        | 2, _ => exact HNMB.out.cell 2 (by simp)
        | 3, _ => exact HNMB.out.cell 3 (by simp)
        | 4, _ => exact HNMB.out.cell 4 (by simp)
        | 5, _ => exact HNMB.out.cell 5 (by simp)
      rw [hnm] at HSG
      have hnms : nm.size ≤ 3 := by
        have h6 : a < 6 := ha6
        rw [← hnm]
        match a, h6 with
        | 0, _ => decide
        | 1, _ => decide
        | 2, _ => decide
        | 3, _ => decide
        | 4, _ => decide
        | 5, _ => decide
      have hai : (a : Int) < 6 := by omega
      clear hae hnf hnm
      obtain ⟨pk1, hpk1⟩ : ∃ q, pk + 1 = q := ⟨_, rfl⟩
      rw [hpk1] at HT1 HSG HNF
      have hpk1l : pk1 ≤ 2000501 := by omega
      clear hpk1
      go_wp2_with fail
      refine HT1.out.mono ?_
      rintro e y ⟨rfl, hy⟩
      (try rw [hy])
      clear hy y
      obtain ⟨Z0, hZ0⟩ : ∃ x, Y.alloc (Obj.cells #[.string nm, .slice none 0 0] 44) = x := ⟨_, rfl⟩
      have hbZ0 : Below Y.heap.size Y Z0 := by rw [← hZ0]; exact (Below.refl _ _).alloc (Nat.le_refl _) _
      have HSB0 : Hid (Box Z0 Y.heap.size 44 #[.string nm, .slice none 0 0]) := by rw [← hZ0]; exact Box.new _ _ _
      have HBZ0 := hide hbZ0
      have HZ0 := hide hZ0
      clear hbZ0 hZ0
      obtain ⟨nm2, hnm2⟩ : ∃ x : ByteArray, (if k = 0 then (⟨#[77, 83, 72]⟩ : ByteArray) else nm) = x := ⟨_, rfl⟩
      rw [hnm2] at HSG
      have hn2s : nm2.size ≤ 3 := by rw [← hnm2]; split; decide; exact hnms
      go_upto_if 44 with fail
      rw [HZ0.out]
      have z0 : Z0.cell? ⟨Y.heap.size, 0, none⟩ = some (.string nm) := HSB0.out.cell 0 (by simp)
      have z1 : Z0.frozen? ⟨Y.heap.size, 0, none⟩ = false := HSB0.out.frozen 0
      go_cut [44] (fun v44 wx => Box wx Y.heap.size 44 #[.string nm2, .slice none 0 0] ∧ Below Y.heap.size Y wx)
      case first =>
        by_cases hk0 : (k : Int) = 0
        · have hk0b : ((k : Int) == 0) = true := by simpa using hk0
          have HE : Hid (nm2 = ⟨#[77, 83, 72]⟩) := by rw [← hnm2, if_pos (by omega)]; exact rfl
          have hk00 : k = 0 := by omega
          clear hnm2
          go_wp2_with fail
          go_meet
          case rel => exact ⟨by rw [HE.out]; have := HSB0.out.set 0 (.string ⟨#[77, 83, 72]⟩); simpa using this, HBZ0.out.setCell (p := ⟨Y.heap.size, 0, none⟩) (Nat.le_refl _) _⟩
        · have hk0b : ((k : Int) == 0) = false := by simpa using hk0
          have HE : Hid (nm2 = nm) := by rw [← hnm2, if_neg (by omega)]; exact rfl
          clear hnm2
          go_wp2_with fail
          go_meet
          case rel => exact ⟨by rw [HE.out]; exact HSB0.out, HBZ0.out⟩
      case rest =>
        obtain ⟨hSB, hbZ⟩ := hcut
        obtain ⟨Z, rfl⟩ : ∃ x, x = wc := ⟨_, rfl⟩
        have HSB := hide hSB
        have HBZ := hide hbZ
        have HWZ := hide (bjoin hbZ HBY.out)
        have hYZ : Y.heap.size < Z.heap.size := hSB.lt
        clear hSB hbZ z0 z1 hnm2 hna
        have HT2 := hide (HTK.out Z pk1 5 HWZ.out (by omega) (by decide))
        rw [HNF.out] at HT2
        obtain ⟨pf, hpf⟩ : ∃ q, pk1 + 1 = q := ⟨_, rfl⟩
        rw [hpf] at HT2 HSG
        have hpfl : pf ≤ 2000502 := by omega
        clear hpf
        go_wp2_with fail
        refine HT2.out.mono ?_
        rintro e y ⟨rfl, hy⟩
        (try rw [hy])
        clear hy y
        go_wp2_with fail
        go_loopg [1, 15, 16] nf (fun q v1 v15 j wr => ∃ (kf : Nat) (p2 : List (AE Rep)), kf ≤ nf ∧ q = nf - kf ∧ j = .int .i64 (kf : Int) ∧ v1 = .int .i64 (((drFields cs pf kf).2 : Nat) : Int) ∧ ARow RepsC 47 Z.heap.size (fun b => b < Z.heap.size) wr v15 p2 ∧ p2.map Prod.fst = (drFields cs pf kf).1 ∧ Below Z.heap.size Z wr)
        case atStart => exact ⟨0, [], Nat.zero_le _, rfl, rfl, rfl, ARow.lit RepsC 47 _ Z (by simp), rfl, (Below.refl _ _).alloc (Nat.le_refl _) _⟩
        case round =>
          obtain ⟨kf, p2, hkf, rfl, rfl, rfl, hA2, hp2, hb2⟩ := hrel
          obtain ⟨X2, rfl⟩ : ∃ x, x = wr := ⟨_, rfl⟩
          obtain ⟨V2, rfl⟩ : ∃ x, x = u15 := ⟨_, rfl⟩
          obtain ⟨a2, c2, rfl, _, _⟩ := hA2.form
          have hl2 : p2.length = kf := by have := congrArg List.length hp2; rw [List.length_map, drFields_len] at this; exact this
          have HA2 := hide hA2
          have HP2 := hide hp2
          have HB2 := hide hb2
          have HL2 := hide hl2
          rw [hl2] at HA2 ⊢
          have hW2 : Z.heap.size ≤ X2.heap.size := hb2.size
          have HW2 := hide (bjoin hb2 HWZ.out)
          obtain ⟨pq, hpq⟩ : ∃ q, (drFields cs pf kf).2 = q := ⟨_, rfl⟩
          have HPQ := hide hpq
          have hpql : pq ≤ 2000600 := by rw [← hpq]; have := drFields_p cs pf kf; omega
          rw [hpq]
          clear hA2 hp2 hb2 hpq hl2
          by_cases hlt2 : kf < nf
          · have hkfi : (kf : Int) < (nf : Int) := by omega
            have HST2 : Hid (drFields cs pf (kf + 1) = ((drFields cs pf kf).1 ++ [(drField cs pq).1], (drField cs pq).2)) := by rw [← HPQ.out]; exact rfl
            have hn3 := tk_lt cs pq 3 (by decide)
            obtain ⟨X2b, hX2b⟩ : ∃ x, X2.alloc (Obj.cells #[.slice none 0 0] 47) = x := ⟨_, rfl⟩
            have hb2b : Below X2.heap.size X2 X2b := by rw [← hX2b]; exact (Below.refl _ _).alloc (Nat.le_refl _) _
            have HFB0 : Hid (Box X2b X2.heap.size 47 #[.slice none 0 0]) := by rw [← hX2b]; exact Box.new _ _ _
            have HB2B := hide hb2b
            have HT3 := hide (HTK.out X2b pq 3 (bjoin hb2b HW2.out) (by omega) (by decide))
            have HDF : Hid (drField cs pq = drReps cs (pq + 1) (tk cs pq 3)) := rfl
            obtain ⟨nr, hnr⟩ : ∃ a, tk cs pq 3 = a := ⟨_, rfl⟩
            rw [hnr] at HT3 hn3 HDF
            obtain ⟨pr, hpr⟩ : ∃ q, pq + 1 = q := ⟨_, rfl⟩
            rw [hpr] at HT3 HDF
            have hprl : pr ≤ 2000601 := by omega
            rw [HDF.out] at HST2
            have HX2B := hide hX2b
            clear hnr hpr hb2b HDF hX2b
            go_wp2_with fail
            rw [HX2B.out]
            refine HT3.out.mono ?_
            rintro e y ⟨rfl, hy⟩
            (try rw [hy])
            clear hy y
            go_wp2_with fail
            go_loopg [1, 18] nr (fun q v1 j wr => ∃ (kr : Nat) (p3 : List (AE ByteArray)) (af : Option Addr) (cf : Nat), kr ≤ nr ∧ q = nr - kr ∧ j = .int .i64 (kr : Int) ∧ v1 = .int .i64 (((drReps cs pr kr).2 : Nat) : Int) ∧ Box wr X2.heap.size 47 #[.slice af kr cf] ∧ ARow StrsC 50 (X2.heap.size + 1) (fun b => b < X2.heap.size + 1) wr (.slice af kr cf) p3 ∧ p3.map Prod.fst = (drReps cs pr kr).1 ∧ Below X2.heap.size X2 wr)
            case atStart => exact ⟨0, [], none, 0, Nat.zero_le _, rfl, rfl, rfl, HFB0.out, ARow.nil _ _ _ _ _, rfl, HB2B.out⟩
            case round =>
              obtain ⟨kr, p3, af, cf, hkr, rfl, rfl, rfl, hBF, hA3, hp3, hb3⟩ := hrel
              obtain ⟨X3, rfl⟩ : ∃ x, x = wr := ⟨_, rfl⟩
              have HBF := hide hBF
              have HA3 := hide hA3
              have HP3 := hide hp3
              have HB3 := hide hb3
              have hX23 : X2.heap.size < X3.heap.size := hBF.lt
              have hl3 : p3.length = kr := by have := congrArg List.length hp3; rw [List.length_map, drReps_len] at this; exact this
              have HL3 := hide hl3
              have HW3 := hide (bjoin hb3 HW2.out)
              obtain ⟨pz, hpz⟩ : ∃ q, (drReps cs pr kr).2 = q := ⟨_, rfl⟩
              have HPZ := hide hpz
              have hpzl : pz ≤ 2000700 := by rw [← hpz]; have := drReps_p cs pr kr; omega
              rw [hpz]
              clear hBF hA3 hp3 hb3 hpz hl3
              by_cases hlt3 : kr < nr
              · have hkri : (kr : Int) < (nr : Int) := by omega
                have HST3 : Hid (drReps cs pr (kr + 1) = ((drReps cs pr kr).1 ++ [drRep cs pz], drRepP cs pz)) := by rw [← HPZ.out]; exact rfl
                have hn4 := tk_lt cs pz 4 (by decide)
                obtain ⟨X3b, hX3b⟩ : ∃ x, X3.alloc (Obj.cells #[.slice none 0 0] 50) = x := ⟨_, rfl⟩
                have hb3b : Below X3.heap.size X3 X3b := by rw [← hX3b]; exact (Below.refl _ _).alloc (Nat.le_refl _) _
                have HRB0 : Hid (Box X3b X3.heap.size 50 #[.slice none 0 0]) := by rw [← hX3b]; exact Box.new _ _ _
                have HB3B := hide hb3b
                have HT4 := hide (HTK.out X3b pz 4 (bjoin hb3b HW3.out) (by omega) (by decide))
                have HDR : Hid (drRep cs pz = (List.range (tk cs pz 4)).map (fun x => drComp cs (pz + 1 + 2 * x)) ∧ drRepP cs pz = pz + 1 + 2 * tk cs pz 4) := ⟨rfl, rfl⟩
                obtain ⟨nc, hnc⟩ : ∃ a, tk cs pz 4 = a := ⟨_, rfl⟩
                rw [hnc] at HT4 hn4 HDR
                obtain ⟨pc, hpc⟩ : ∃ q, pz + 1 = q := ⟨_, rfl⟩
                rw [hpc] at HT4 HDR
                have hpcl : pc ≤ 2000701 := by omega
                rw [HDR.out.1, HDR.out.2] at HST3
                have HX3B := hide hX3b
                clear hnc hpc hb3b HDR hX3b
                go_wp2_with fail
                rw [HX3B.out]
                refine HT4.out.mono ?_
                rintro e y ⟨rfl, hy⟩
                (try rw [hy])
                clear hy y
                go_wp2_with fail
                go_loopg [1, 20] nc (fun q v1 j wr => ∃ (kc : Nat) (ar : Option Addr) (cr : Nat), kc ≤ nc ∧ q = nc - kc ∧ j = .int .i64 (kc : Int) ∧ v1 = .int .i64 ((pc + 2 * kc : Nat) : Int) ∧ Box wr X3.heap.size 50 #[.slice ar kc cr] ∧ FB tC 1 9 (X3.heap.size + 1) wr (.slice ar kc cr) ((List.range kc).map fun x => drComp cs (pc + 2 * x)) ∧ Below X3.heap.size X3 wr)
                case atStart => exact ⟨0, none, 0, Nat.zero_le _, rfl, rfl, rfl, HRB0.out, FB.nil _ _ _ _ _, HB3B.out⟩
                case round =>
                  obtain ⟨kc, ar, cr, hkc, rfl, rfl, rfl, hBR, hF4, hb4⟩ := hrel
                  obtain ⟨X4, rfl⟩ : ∃ x, x = wr := ⟨_, rfl⟩
                  have HBR := hide hBR
                  have HF4 := hide hF4
                  have HB4 := hide hb4
                  have hX34 : X3.heap.size < X4.heap.size := hBR.lt
                  have HW4 := hide (bjoin hb4 HW3.out)
                  obtain ⟨cl, hcl⟩ : ∃ l, (List.range kc).map (fun x => drComp cs (pc + 2 * x)) = l := ⟨_, rfl⟩
                  have HCL : Hid (cl.length = kc) := by show _ = _; rw [← hcl]; simp
                  have HCE := hide hcl
                  rw [hcl] at HF4
                  clear hBR hF4 hb4 hcl
                  by_cases hlt4 : kc < nc
                  · have hkci : (kc : Int) < (nc : Int) := by omega
                    obtain ⟨px, hpx⟩ : ∃ q, pc + 2 * kc = q := ⟨_, rfl⟩
                    have HPX := hide hpx
                    have hpxl : px ≤ 2000800 := by omega
                    have HD := hide (HDC.out X4 px HW4.out (by omega))
                    obtain ⟨cc, hcc⟩ : ∃ c, drComp cs px = c := ⟨_, rfl⟩
                    have HCC := hide hcc
                    rw [hcc] at HD
                    have HEND : Hid (((px + 2 : Nat) : Int) = ((pc + 2 * (kc + 1) : Nat) : Int)) := by show _ = _; omega
                    rw [HEND.out] at HD
                    rw [hpx]
                    clear hpx hcc
                    go_wp2_with fail
                    refine HD.out.mono ?_
                    rintro e V4 ⟨rfl, hbV⟩
                    have HBRV := hide (HBR.out.below hbV)
                    have hFV := HF4.out.below hbV
                    obtain ⟨v5, V5, hr5, hF5, hOn5, _⟩ := app1 (C := tC) (c := 1) (bytes := 16) (z := .string ByteArray.empty) Tryd.underlying48 info_string rfl (by decide) (fun _ => rfl) tC_one hFV 48 cc (by have := hbV.size; omega) (by rw [HCL.out]; omega) (by decide)
                    obtain ⟨a5, c5, e5, _, _⟩ := hF5.form
                    rw [List.length_append, List.length_singleton, HCL.out] at e5
                    subst e5
                    have hownV := hFV.own
                    have hRn : X3.heap.size ∉ (Value.slice ar kc cr).ownBlock.toList := fun hm => by have := (hownV _ hm).1; omega
                    have HBR5 := hide (HBRV.out.only hOn5 hRn)
                    have r0 : V4.cell? ⟨X3.heap.size, 0, none⟩ = some (.slice ar kc cr) := HBRV.out.cell 0 (by simp)
                    have r5 : V5.cell? ⟨X3.heap.size, 0, none⟩ = some (.slice ar kc cr) := HBR5.out.cell 0 (by simp)
                    have rf5 : V5.frozen? ⟨X3.heap.size, 0, none⟩ = false := HBR5.out.frozen 0
                    have HNF5 : Hid (FB tC 1 9 (X3.heap.size + 1) (V5.setCell ⟨X3.heap.size, 0, none⟩ (.slice a5 (kc + 1) c5)) (.slice a5 (kc + 1) c5) ((List.range (kc + 1)).map fun x => drComp cs (pc + 2 * x))) := by
                      have eN : (List.range (kc + 1)).map (fun x => drComp cs (pc + 2 * x)) = cl ++ [cc] := by rw [List.range_succ, List.map_append, HCE.out, ← HCC.out, ← HPX.out]; rfl
                      show FB _ _ _ _ _ _ _
                      rw [eN]
                      exact hF5.keep fun b hb => Deep.blk_setCell_other _ ⟨X3.heap.size, 0, none⟩ _ b (by have := (hF5.own b hb).1; dsimp only; omega)
                    have HNB5 := hide (HBR5.out.put1 (.slice a5 (kc + 1) c5))
                    have HBL5 : Hid (Below X3.heap.size X3 (V5.setCell ⟨X3.heap.size, 0, none⟩ (.slice a5 (kc + 1) c5))) := by
                      have q1 := bjoin hbV HB4.out
                      exact (q1.trans (hOn5.below q1.size fun d hd => by have := (hownV d hd).1; omega)).setCell (p := ⟨X3.heap.size, 0, none⟩) (Nat.le_refl _) _
                    clear hF5 hOn5 hownV hRn hFV hbV
                    go_wp2_with (first | (at_builtin; refine wpList_app rfl _ _ 48 rfl hr5 (by first | rfl | simp [Act.eval, Act.put]) (by first | rfl | simp [Act.eval, Act.put]) ?_))
                    go_roundg (nc - (kc + 1))
                    case measure => omega
                    case rel => exact ⟨kc + 1, a5, c5, by omega, rfl, by go_num, rfl, HNB5.out, HNF5.out, HBL5.out⟩
                  · have hkci : ¬ (kc : Int) < (nc : Int) := by omega
                    obtain rfl : kc = nc := by omega
                    have HPE : Hid (((pc + 2 * kc : Nat) : Int) = (((drReps cs pr (kr + 1)).2 : Nat) : Int)) := by rw [HST3.out]; exact rfl
                    rw [HPE.out]
                    have hA4 := HA3.out.below keepO_strsC HB4.out
                    have HBF4 := hide (HBF.out.below HB4.out)
                    obtain ⟨bsr, hOr, hbr⟩ := tC_strs HF4.out (by rw [HCL.out]; omega) (by rw [← HCE.out]; exact drComps_sz cs pc kc)
                    have hownr := HF4.out.own
                    obtain ⟨v6, V6, hr6, hA6, hOn6⟩ := hA4.push keepO_strsC Tryd.underlying45 info_Rep rfl (by decide) (by omega) (by rw [HL3.out]; omega) (fun b hb => by show ¬ b < _; omega) (cl, ar, cr) (bs := bsr) (by show StrsC X4 (.slice ar cl.length cr) cl bsr; rw [HCL.out]; exact hOr) (fun b hb => by
                      have h1 := hownr b (hbr b hb)
                      refine ⟨h1.2, by show ¬ b < _; omega, fun e => ?_⟩
                      have h2 := (HA3.out.row.own b (by rw [e]; simp)).2
                      omega) 45
                    dsimp only at hr6
                    rw [HCL.out] at hr6
                    obtain ⟨a6, c6, e6, _, _⟩ := hA6.form
                    rw [List.length_append, List.length_singleton, HL3.out] at e6
                    subst e6
                    have hown6 := hA4.row.own
                    have hFn : X2.heap.size ∉ (Value.slice af kr cf).ownBlock.toList := fun hm => by have := (hown6 _ hm).1; omega
                    have HBF6 := hide (HBF4.out.only hOn6 hFn)
                    have f0 : X4.cell? ⟨X2.heap.size, 0, none⟩ = some (.slice af kr cf) := HBF4.out.cell 0 (by simp)
                    have q0 : X4.cell? ⟨X3.heap.size, 0, none⟩ = some (.slice ar kc cr) := HBR.out.cell 0 (by simp)
                    have f6 : V6.cell? ⟨X2.heap.size, 0, none⟩ = some (.slice af kr cf) := HBF6.out.cell 0 (by simp)
                    have ff6 : V6.frozen? ⟨X2.heap.size, 0, none⟩ = false := HBF6.out.frozen 0
                    have HNA6 := hide (hA6.set keepO_strsC (b := X2.heap.size) (o := 0) (by show _ < _; omega) (.slice a6 (kr + 1) c6))
                    have HNB6 := hide (HBF6.out.put1 (.slice a6 (kr + 1) c6))
                    have HBL6 : Hid (Below X2.heap.size X2 (V6.setCell ⟨X2.heap.size, 0, none⟩ (.slice a6 (kr + 1) c6))) := by
                      have q1 := bjoin HB4.out HB3.out
                      exact (q1.trans (hOn6.below q1.size fun d hd => by have := (hown6 d hd).1; omega)).setCell (p := ⟨X2.heap.size, 0, none⟩) (Nat.le_refl _) _
                    have HNP6 : Hid ((p3 ++ [(cl, ar, cr)]).map Prod.fst = (drReps cs pr (kr + 1)).1) := by show _ = _; rw [HST3.out, List.map_append, HP3.out, ← HCE.out]; rfl
                    clear hA6 hOn6 hown6 hFn hA4 hOr hbr hownr
                    go_wp2_with (first | (at_builtin; refine wpList_app rfl _ _ 45 rfl hr6 (by first | rfl | simp [Act.eval, Act.put]) (by first | rfl | simp [Act.eval, Act.put]) ?_))
                    go_roundg (nr - (kr + 1))
                    case measure => omega
                    case rel => exact ⟨kr + 1, _, a6, c6, by omega, rfl, by go_num, rfl, HNB6.out, HNA6.out, HNP6.out, HBL6.out⟩
              · have hkri : ¬ (kr : Int) < (nr : Int) := by omega
                obtain rfl : kr = nr := by omega
                have HPE : Hid ((pz : Int) = (((drFields cs pf (kf + 1)).2 : Nat) : Int)) := by rw [HST2.out]; show _ = ((((drReps cs pr kr).2) : Nat) : Int); rw [HPZ.out]
                rw [HPE.out]
                have hA4 := HA2.out.below keepO_repsC HB3.out
                obtain ⟨bsf, hOf, hbf⟩ := HA3.out.all (R := RepC) (fun w b off x bs v h1 h2 => ⟨v, h1, h2⟩) (by rw [HL3.out]; omega)
                obtain ⟨fl, hfl⟩ : ∃ l, p3.map Prod.fst = l := ⟨_, rfl⟩
                have hfll : fl.length = kr := by rw [← hfl, List.length_map]; exact HL3.out
                rw [hfl] at hOf
                obtain ⟨v6, V6, hr6, hA6, hOn6⟩ := hA4.push keepO_repsC Tryd.underlying42 info_Field rfl (by decide) (by omega) (by rw [HL2.out]; omega) (fun b hb => by show ¬ b < _; omega) (fl, af, cf) (bs := bsf) (by show RepsC X3 (.slice af fl.length cf) fl bsf; rw [hfll]; exact hOf) (fun b hb => by
                  have h1 := hbf b hb
                  have h3 : ¬ b < X2.heap.size + 1 := h1.2
                  refine ⟨h1.1, by show ¬ b < _; omega, fun e => ?_⟩
                  have h2 := (HA2.out.row.own b (by rw [e]; simp)).2
                  omega) 42
                dsimp only at hr6
                rw [hfll] at hr6
                have hown6 := hA4.row.own
                have f0 : X3.cell? ⟨X2.heap.size, 0, none⟩ = some (.slice af kr cf) := HBF.out.cell 0 (by simp)
                have HNA6 := hide hA6
                have HBL6 : Hid (Below Z.heap.size Z V6) := by
                  have q1 := bjoin HB3.out HB2.out
                  exact q1.trans (hOn6.below q1.size fun d hd => (hown6 d hd).1)
                have HNP6 : Hid ((p2 ++ [(fl, af, cf)]).map Prod.fst = (drFields cs pf (kf + 1)).1) := by show _ = _; rw [HST2.out, List.map_append, HP2.out, ← hfl, HP3.out]; rfl
                clear hA6 hOn6 hown6 hA4 hOf hbf hfl
                go_wp2_with (first | (at_builtin; refine wpList_app rfl _ _ 42 rfl hr6 (by first | rfl | simp [Act.eval, Act.put]) (by first | rfl | simp [Act.eval, Act.put]) ?_))
                go_roundg (nf - (kf + 1))
                case measure => omega
                case rel => exact ⟨kf + 1, _, by omega, rfl, by go_num, rfl, HNA6.out, HNP6.out, HBL6.out⟩
          · have hkfi : ¬ (kf : Int) < (nf : Int) := by omega
            obtain rfl : kf = nf := by omega
            obtain ⟨bst, hOt, hbt⟩ := HA2.out.all (R := FieldC) (fun w b off x bs v h1 h2 => ⟨v, h1, h2⟩) (by rw [HL2.out]; omega)
            obtain ⟨fl, hfl⟩ : ∃ l, p2.map Prod.fst = l := ⟨_, rfl⟩
            have hfll : fl.length = kf := by rw [← hfl, List.length_map]; exact HL2.out
            have HFE : Hid (fl = (drFields cs pf kf).1) := by rw [← hfl]; exact HP2.out
            rw [hfl] at hOt
            have hflf : ∀ f ∈ fl, f.length ≤ 1048576 := fun f hf => by rw [HFE.out] at hf; exact drFields_el cs pf kf f hf
            have HTR := hide (trim_any (fun d => Z.heap.size ≤ d) fl (.slice a2 kf c2) bst X2 (fun d hd => by have h1 : ¬ d < Z.heap.size := (hbt d hd).2; omega) (fun d hd => by omega) (by omega) hflf hOt)
            have htl : (trimF fl).length ≤ 100 := by unfold trimF trimE; rw [List.length_take, List.length_map]; omega
            have HSEG : Hid (sg = (⟨nm2, trimF fl⟩, pq)) := by rw [← HSG.out, HFE.out, ← HPQ.out]; exact rfl
            obtain ⟨tf, htf⟩ : ∃ l, trimF fl = l := ⟨_, rfl⟩
            rw [htf] at HTR htl HSEG
            have HPE : Hid ((pq : Int) = (((drSegs cs p (k + 1)).2 : Nat) : Int)) := by rw [HST.out, HSEG.out]; exact rfl
            rw [HPE.out]
            clear hOt hbt hfl hflf htf
            go_wp2_with fail
            refine HTR.out.mono ?_
            rintro e V ⟨u, rfl, hRB, hbV⟩
            obtain ⟨at2, ct2, bs2, rfl, hOF, hbs2⟩ := trim_el hRB (by omega)
            have HBV := hide (bjoin hbV HB2.out)
            have HWV := hide (bjoin HBV.out HBZ.out)
            have HSBV := hide (HSB.out.below HBV.out)
            have s0 : V.cell? ⟨Y.heap.size, 0, none⟩ = some (.string nm2) := HSBV.out.cell 0 (by simp)
            have s1 : V.cell? ⟨Y.heap.size, 1, none⟩ = some (.slice none 0 0) := HSBV.out.cell 1 (by simp)
            have sf1 : V.frozen? ⟨Y.heap.size, 1, none⟩ = false := HSBV.out.frozen 1
            obtain ⟨V1, hV1⟩ : ∃ x, V.setCell ⟨Y.heap.size, 1, none⟩ (.slice at2 tf.length ct2) = x := ⟨_, rfl⟩
            have HSB1 : Hid (Box V1 Y.heap.size 44 #[.string nm2, .slice at2 tf.length ct2]) := by
              rw [← hV1]
              have := HSBV.out.set 1 (.slice at2 tf.length ct2)
              show Box _ _ _ _
              simpa using this
            have HWV1 : Hid (Below Y.heap.size Y V1) := by rw [← hV1]; exact HWV.out.setCell (p := ⟨Y.heap.size, 1, none⟩) (Nat.le_refl _) _
            have hge2 : ∀ b ∈ bs2, Z.heap.size ≤ b := fun b hb => by
              rcases (hbs2 b hb).2 with h | h
              · exact h
              · omega
            have HOF1 : Hid (OFields V1 (.slice at2 tf.length ct2) tf bs2) := by
              rw [← hV1]
              exact OAt.kept keptO_field hOF (by rw [Deep.nblk_setCell]; exact Nat.le_refl _) fun d hd => Deep.blk_setCell_other _ ⟨Y.heap.size, 1, none⟩ _ d (by have := hge2 d hd; dsimp only; omega)
            have hV1s : V1.heap.size = V.heap.size := by rw [← hV1, Deep.nblk_setCell]
            have hYV : Y.heap.size ≤ V.heap.size := HWV.out.size
            have hR1 := HRW.out.below HWV1.out
            have hpl : ps.length = k := by have := congrArg List.length HPS.out; rw [List.length_map, drSegs_len] at this; exact this
            obtain ⟨v7, V7, hr7, hR7, hOn7⟩ := hR1.push (by omega) (by omega) (fun b hb => by show ¬ b < _; omega) (⟨nm2, tf⟩, at2, ct2) (by show nm2.size ≤ _; omega) (bs := bs2) HOF1.out (fun b hb => by
              refine ⟨by rw [hV1s]; exact (hbs2 b hb).1, by have := hge2 b hb; show ¬ b < _; omega, fun e => ?_⟩
              have h2 := (HRW.out.row.own b (by rw [e]; simp)).2
              have := hge2 b hb
              omega) 23
            dsimp only at hr7
            obtain ⟨a7, c7, e7, _, _⟩ := hR7.form
            rw [List.length_append, List.length_singleton, hpl] at e7
            subst e7
            have hown7 := hR1.row.own
            have hsw := HSW.out
            have hMn : w.heap.size + 1 ∉ (Value.slice am k cm).ownBlock.toList := fun hm => by have := (hown7 _ hm).1; omega
            have HBM1 := hide (HBM.out.below HWV1.out)
            have HBM7 := hide (HBM1.out.only hOn7 hMn)
            have m1 : V1.cell? ⟨w.heap.size + 1, 0, none⟩ = some (.slice am k cm) := HBM1.out.cell 0 (by simp)
            have t0 : V1.cell? ⟨Y.heap.size, 0, none⟩ = some (.string nm2) := HSB1.out.cell 0 (by simp)
            have t1 : V1.cell? ⟨Y.heap.size, 1, none⟩ = some (.slice at2 tf.length ct2) := HSB1.out.cell 1 (by simp)
            have m7 : V7.cell? ⟨w.heap.size + 1, 0, none⟩ = some (.slice am k cm) := HBM7.out.cell 0 (by simp)
            have mf7 : V7.frozen? ⟨w.heap.size + 1, 0, none⟩ = false := HBM7.out.frozen 0
            have HNB7 := hide (HBM7.out.put1 (.slice a7 (k + 1) c7))
            have HNR7 := hide (hR7.set (b := w.heap.size + 1) (o := 0) (by show _ < _; omega) (.slice a7 (k + 1) c7))
            have HNP7 : Hid ((ps ++ [((⟨nm2, tf⟩ : Seg), at2, ct2)]).map Prod.fst = (drSegs cs p (k + 1)).1) := by show _ = _; rw [HST.out, HSEG.out, List.map_append, HPS.out]; rfl
            have HNO7 : Hid (Only [w.heap.size + 1] W0 (V7.setCell ⟨w.heap.size + 1, 0, none⟩ (.slice a7 (k + 1) c7))) := by
              have q1 : Only [w.heap.size + 1] W0 V1 := HON.out.trans (Only.of_below HWV1.out)
              have q2 : Only [w.heap.size + 1] W0 V7 := ⟨hOn7.os.trans q1.os, hOn7.tape.trans q1.tape, hOn7.output.trans q1.output, Nat.le_trans q1.size hOn7.size, fun b h1 h2 => (hOn7.block b (Nat.lt_of_lt_of_le h1 q1.size) (fun hm => by have := (hown7 b hm).1; omega)).trans (q1.block b h1 h2)⟩
              exact q2.set1
            clear hR7 hOn7 hown7 hMn hR1 hOF hbs2 hge2 hbV hRB
            go_wp2_with (first | (at_builtin; refine wpList_app rfl _ _ 23 rfl hr7 (by first | rfl | simp [Act.eval, Act.put]) (by first | rfl | simp [Act.eval, Act.put]) ?_))
            go_roundg (N - (k + 1))
            case measure => omega
            case rel => exact ⟨k + 1, _, a7, c7, by omega, rfl, by go_num, rfl, HNB7.out, HNR7.out, HNP7.out, HNO7.out⟩
    · have hki : ¬ (k : Int) < (N : Int) := by omega
      obtain rfl : k = N := by omega
      have hXE := HXS.out
      have hl9 : xs9.1.length = k := by rw [← hXE]; exact drSegs_len cs p k
      have hp9 : xs9.2 = pk := by rw [← hXE]; exact HPK.out
      rw [hXE] at HPS
      have hsw := HSW.out
      have HRESY := hide (HRES.out.only HON.out (by simp))
      have r0 : Y.cell? ⟨w.heap.size, 0, none⟩ = some (.slice none 0 0) := HRESY.out.cell 0 (by simp)
      have rf : Y.frozen? ⟨w.heap.size, 0, none⟩ = false := HRESY.out.frozen 0
      have rl : w.heap.size < Y.heap.size := HRESY.out.lt
      have m1 : Y.cell? ⟨w.heap.size + 1, 0, none⟩ = some (.slice am k cm) := HBM.out.cell 0 (by simp)
      have HNR : Hid (∀ x, SgRow w.heap.size (fun b => b < w.heap.size) (Y.setCell ⟨w.heap.size, 0, none⟩ x) (.slice am k cm) ps) := fun x => (HRW.out.set (b := w.heap.size) (o := 0) (by show _ < _; omega) x).weaken (by omega) (fun b h => by show _ < _; omega)
      have HBF : Hid (∀ x, Below w.heap.size w (Y.setCell ⟨w.heap.size, 0, none⟩ x)) := fun x => HBY.out.setCell (p := ⟨w.heap.size, 0, none⟩) (Nat.le_refl _) x
      have HE9 : Hid (xs9.1.length = k ∧ xs9.2 = pk) := ⟨hl9, hp9⟩
      clear hl9 hp9 hXE
      go_wp2_with fail
      refine bodyPost_ret (v := .tuple #[.agg #[.slice am k cm], .int .i64 (pk : Int)]) (by simp [results, Tryd.results12, go_sem, r0, rl]) rfl ?_
      rw [HE9.out.1, HE9.out.2]
      exact ⟨am, cm, rfl, ps, HNR.out _, HPS.out, HBF.out _⟩
end Go.Proofs.YtcphfhfockjljaaDoor.Msg
