import Derived.Test.YtcphfhfockjljaaDoorImplShort3withImplNewwithImplWord3
import Derived.Test.YtcphfhfockjljaaDoorParseFields
import Derived.Deep.DeepCutAuto
namespace Go.Proofs.YtcphfhfockjljaaDoor.Msg
open Go.ChangeShapes Go.WideShapes Go.ChangeAt Go.RowKit
set_option linter.unusedVariables false
set_option linter.unusedSimpArgs false

theorem lens_str {e : TypeId} {base : Nat} {w : World} {xs : List Rep} {vs : List Value} {bss : List (List Nat)} (h1 : vs.length = xs.length) (h2 : bss.length = xs.length) (h : ∀ i (h : i < xs.length) (h1 : i < vs.length) (h2 : i < bss.length), OStrs w vs[i] xs[i] bss[i]) : Lens vs xs :=
  ⟨h1, fun i h3 h4 => by
    obtain ⟨a, c, e, _⟩ := (OAt.toAt toAt_str (h i h4 h3 (by omega)) (lo := 0) (fun _ _ => Nat.zero_le _)).form
    exact ⟨a, c, e⟩⟩
theorem lens_rep {e : TypeId} {base : Nat} {w : World} {xs : List Field} {vs : List Value} {bss : List (List Nat)} (h1 : vs.length = xs.length) (h2 : bss.length = xs.length) (h : ∀ i (h : i < xs.length) (h1 : i < vs.length) (h2 : i < bss.length), OReps w vs[i] xs[i] bss[i]) : Lens vs xs :=
  ⟨h1, fun i h3 h4 => by
    obtain ⟨a, c, e, _⟩ := (OAt.toAt toAt_rep (h i h4 h3 (by omega)) (lo := 0) (fun _ _ => Nat.zero_le _)).form
    exact ⟨a, c, e⟩⟩
/-- the first k elements of a list that was built, in a new row -/
theorem lbuf_moved {α : Type} {O : World → Value → α → List Nat → Prop} (hkeep : ∀ w w' v x bs, O w v x bs → w.heap.size ≤ w'.heap.size → (∀ d ∈ bs, w'.heap[d]? = w.heap[d]?) → O w' v x bs)
    {e : TypeId} {base : Nat} {w w' : World} {v u : Value} {xs : List α} {vs : List Value} {bss : List (List Nat)} (h1 : vs.length = xs.length) (h2 : bss.length = xs.length) (h4 : bss.flatten.Nodup)
    (h5 : ∀ i (h : i < xs.length) (h1 : i < vs.length) (h2 : i < bss.length), O w vs[i] xs[i] bss[i] ∧ ∀ b ∈ bss[i], base ≤ b ∧ b < w.heap.size ∧ v.ownBlock ≠ some b)
    (hbase : base ≤ w.heap.size) {k : Nat} (hk : k ≤ xs.length) (hu : w'.ownsRow w.heap.size e 1 u k (vs.take k)) (hb : Below w.heap.size w w') : LBuf O e base w' u (xs.take k) := by
  have hl : (xs.take k).length = k := by rw [List.length_take]; omega
  refine ⟨vs.take k, bss.take k, by rw [List.length_take, List.length_take, h1], by rw [List.length_take, List.length_take, h2], by rw [hl]; exact own_mono hu hbase, ?_, fun i hi g1 g2 => ?_⟩
  · have hsub : bss.flatten = (bss.take k).flatten ++ (bss.drop k).flatten := by rw [← List.flatten_append, List.take_append_drop]
    rw [hsub, List.nodup_append] at h4
    exact h4.1
  · rw [hl] at hi
    rw [List.getElem_take, List.getElem_take, List.getElem_take]
    obtain ⟨k1, k2⟩ := h5 i (by omega) (by omega) (by omega)
    refine ⟨hkeep _ _ _ _ _ k1 hb.size fun d hd => hb.block d (k2 d hd).2.1, fun b hb' => ⟨(k2 b hb').1, Nat.lt_of_lt_of_le (k2 b hb').2.1 hb.size, fun e => ?_⟩⟩
    have := (own_lt hu e).1
    have := (k2 b hb').2.1
    omega

theorem lens_of {α β : Type} {f : List α → List β} (hf : ∀ x, (f x).length = x.length) {vs : List Value} {ys : List (List α)} (h : Lens vs (ys.map f)) : Lens vs ys :=
  ⟨by have := h.1; rwa [List.length_map] at this, fun i h1 h2 => by
    obtain ⟨a, c, e⟩ := h.2 i h1 (by rw [List.length_map]; exact h2)
    rw [List.getElem_map, hf] at e
    exact ⟨a, c, e⟩⟩
/-- the fields of what stands behind a name, cut as the program does: what stands ahead of the first delimiter is no field -/
def fieldsI (d0 d1 d2 : UInt8) (l : List UInt8) : List (List (List (List UInt8))) := trimE List.isEmpty (((cutL d0 l).drop 1).map (repsL d1 d2))

set_option maxRecDepth 100000 in
set_option maxHeartbeats 8000000 in
theorem cutSegment_any (name r d : ByteArray) (w : World) (hr : r.size ≤ 40000) (hd : d.size = 5) (hm : Mx w) :
    Calls Tryd.prog 37 #[.string name, .string r, .string d] w fun e w' => ∃ u, e = .returned (.agg #[.string name, u]) ∧ ∃ bs, OFields w' u ((fieldsI d[0] d[1] d[2] r.data.toList).map fieldT) bs ∧ bs.Nodup ∧ (∀ b ∈ bs, w.heap.size ≤ b) ∧ Below w.heap.size w w' := by
  obtain ⟨i1, hi1, hy0, hy1, hy2⟩ := info_facts info_Rep
  obtain ⟨i2, hi2, hx0, hx1, hx2⟩ := info_facts info_Field
  have hd0 : (0 : Int) < (d.size : Int) := by omega
  have hd1 : (1 : Int) < (d.size : Int) := by omega
  have hd2 : (2 : Int) < (d.size : Int) := by omega
  have hb0 := (Below.refl w.heap.size w).alloc (Nat.le_refl _) (Obj.cells #[.string ByteArray.empty, .slice none 0 0] 44)
  have HB0 := hide hb0
  have hm0 := hm.kept hb0
  have HMX := hide hm0
  clear hb0 hm
  have hsl : r.data.toList.length = r.size := by simp
  have hlen : (cutL d[0] r.data.toList).length ≤ 40001 := by have := cutL_len d[0] r.data.toList; omega
  have hpos := cutL_pos d[0] r.data.toList
  have HSZ : Hid (∀ p ∈ cutL d[0] r.data.toList, p.length ≤ 40000) := fun p hp => by have := cutL_sz d[0] r.data.toList p hp; omega
  obtain ⟨ps, hps⟩ : ∃ ps, cutL d[0] r.data.toList = ps := ⟨_, rfl⟩
  have HPS := hide hps
  rw [hps] at hlen hpos HSZ
  clear hsl hm0 hps
  go_enter Tryd.func37, Tryd.ntmps37
  go_upto_region 2 with fail
  go_cut [17, 18, 19] (fun s17 s18 s19 wx => ∃ (g : Nat) (A : Option Addr) (c : Nat), s17 = .slice A (ps.length - 1) c ∧ (1 < ps.length → A = some ⟨g, 1, none⟩) ∧ s18 = .int .i64 ((ps.length - 1 : Nat) : Int) ∧ s19 = .int .i64 0 ∧ g < wx.heap.size ∧ (∀ i (hi : i < ps.length), wx.cell? ⟨g, i, none⟩ = some (.string (txt ps[i]))) ∧ Below (w.heap.size + 1) (w.alloc (Obj.cells #[.string ByteArray.empty, .slice none 0 0] 44)) wx)
  case first =>
    go_wp2_with fail
    refine (implCut_any r d[0] _ (by omega) HMX.out).mono ?_
    rintro e Wb ⟨u, rfl, hu, hb1⟩
    rw [HPS.out] at hu
    obtain ⟨g, cap, rfl, hg, hgl, hcap, hcm, hcell⟩ := pieces_form hu hpos
    have HC := hide hcell
    have HBW : Hid (Below (w.heap.size + 1) (w.alloc (Obj.cells #[.string ByteArray.empty, .slice none 0 0] 44)) Wb) := by have := hb1; simp at this; exact this
    have HCAP := hide hcap
    clear hu hcell hb1
    go_wp2_with fail
    · go_meet
      case rel => exact ⟨g, _, _, rfl, fun h => by have := HCAP.out; omega, rfl, rfl, hgl, fun i hi => (HC.out i hi).1, HBW.out⟩
    · go_meet
      case rel => exact ⟨g, _, _, rfl, fun h => rfl, rfl, rfl, hgl, fun i hi => (HC.out i hi).1, HBW.out⟩
  case rest =>
    obtain ⟨g, A, c, rfl, hA, rfl, rfl, hgl, hcell, hbx⟩ := hcut
    obtain ⟨Wb, rfl⟩ : ∃ x, x = wc := ⟨_, rfl⟩
    have HA := hide hA
    have HC := hide hcell
    have HBX := hide hbx
    have HMB := hide (HMX.out.below (B := w.heap.size + 1) (by omega) hbx)
    have hsb : w.heap.size < Wb.heap.size := by have := hbx.size; simp at this; omega
    clear hA hcell hbx
    have hln : ps.length - 1 ≤ 40000 := by omega
    obtain ⟨N, hN⟩ : ∃ N, ps.length - 1 = N := ⟨_, rfl⟩
    have HN := hide hN
    rw [hN] at hln ⊢
    clear hN
    have HP1 : Hid (∀ k (h : k < N), Wb.cell? ⟨g, 1 + k, none⟩ = some (.string (txt (ps[1 + k]'(by have := HN.out; omega)))) ∧ A = some ⟨g, 1, none⟩ ∧ (ps[1 + k]'(by have := HN.out; omega)).length ≤ 40000) := fun k h => by
      have hN := HN.out
      exact ⟨HC.out (1 + k) (by omega), HA.out (by omega), HSZ.out _ (List.getElem_mem _)⟩
    have HLN : Hid ((ps.drop 1).length = N) := by rw [List.length_drop]; exact HN.out
    have HDR : Hid (∀ k (h : k < N), (ps.drop 1)[k]'(by rw [HLN.out]; exact h) = ps[1 + k]'(by have := HN.out; omega)) := fun k h => List.getElem_drop
    clear HA HC HSZ
    go_wp2_with fail
    go_loopg [7, 19] N (fun n v i wr => ∃ k : Nat, k ≤ N ∧ n = N - k ∧ i = .int .i64 k ∧ LBuf OReps 47 Wb.heap.size wr v (((ps.drop 1).take k).map (fun p => fieldT (repsL d[1] d[2] p))) ∧ Below Wb.heap.size Wb wr ∧ (k = 0 → v = .slice none 0 0))
    case atStart => exact ⟨0, Nat.zero_le _, by simp, rfl, by simpa using LBuf.nil OReps 47 Wb.heap.size Wb, Below.refl _ _, fun _ => rfl⟩
    case round =>
      obtain ⟨k, hk, rfl, rfl, hL, hb, hnil⟩ := hrel
      obtain ⟨W1, rfl⟩ : ∃ x, x = wr := ⟨_, rfl⟩
      obtain ⟨V1, rfl⟩ : ∃ x, x = u7 := ⟨_, rfl⟩
      have HL := hide hL
      have HB := hide hb
      have HNIL := hide hnil
      have HM1 := hide (HMB.out.kept hb)
      have hbs1 := hb.size
      clear hL hb hnil
      by_cases hlt : k < N
      · obtain ⟨hc0, rfl, hp0⟩ := HP1.out k hlt
        obtain ⟨p, hp⟩ : ∃ p, ps[1 + k]'(by have := HN.out; omega) = p := ⟨_, rfl⟩
        have HPK : Hid ((ps.drop 1)[k]'(by rw [HLN.out]; exact hlt) = p) := by rw [HDR.out k hlt, hp]; trivial
        rw [hp] at hc0 hp0
        clear hp
        have hc1 : W1.cell? ⟨g, 1 + k, none⟩ = some (.string (txt p)) := by rw [HB.out.cell (p := ⟨g, 1 + k, none⟩) hgl]; exact hc0
        have hpsz : (txt p).size ≤ 40000 := by rw [txt_size]; exact hp0
        obtain ⟨qs, hqs⟩ : ∃ qs, cutL d[2] p = qs := ⟨_, rfl⟩
        have HQS := hide hqs
        have hqpos : 0 < qs.length := by rw [← hqs]; exact cutL_pos d[2] p
        have hqlen : qs.length ≤ 40001 := by rw [← hqs]; have := cutL_len d[2] p; omega
        have HQZ : Hid (∀ x ∈ qs, x.length ≤ 40000) := fun x hx => by rw [← hqs] at hx; have := cutL_sz d[2] p x hx; omega
        clear hqs hc0
        go_wp2_with fail
        refine (implCut_any (txt p) d[2] _ (by omega) HM1.out).mono ?_
        rintro e W2 ⟨u2, rfl, hu2, hb2⟩
        rw [txt_data, HQS.out] at hu2
        obtain ⟨g2, cap2, rfl, hg2, hgl2, hcap2, hcm2, hcell2⟩ := pieces_form hu2 hqpos
        have HC2 := hide hcell2
        have HB2 := hide hb2
        have HM2 := hide (HM1.out.kept hb2)
        have hbs2 := hb2.size
        clear hu2 hcell2 hb2 hc1
        go_wp2_with fail
        go_loopg [10, 28] qs.length (fun n v i wr => ∃ q : Nat, q ≤ qs.length ∧ n = qs.length - q ∧ i = .int .i64 q ∧ LBuf OStrs 50 W2.heap.size wr v ((qs.take q).map (fun x => repT (compsL d[1] x))) ∧ Below W2.heap.size W2 wr)
        case atStart => exact ⟨0, Nat.zero_le _, by simp, rfl, by simpa using LBuf.nil OStrs 50 W2.heap.size W2, Below.refl _ _⟩
        case round =>
          obtain ⟨q, hq, rfl, rfl, hL2, hb3⟩ := hrel
          obtain ⟨W3, rfl⟩ : ∃ x, x = wr := ⟨_, rfl⟩
          obtain ⟨V3, rfl⟩ : ∃ x, x = u10 := ⟨_, rfl⟩
          have HL2 := hide hL2
          have HB3 := hide hb3
          have HM3 := hide (HM2.out.kept hb3)
          have hbs3 := hb3.size
          clear hL2 hb3
          by_cases hq2 : q < qs.length
          · have hc3 : W3.cell? ⟨g2, q, none⟩ = some (.string (txt qs[q])) := by rw [HB3.out.cell (p := ⟨g2, q, none⟩) hgl2]; exact (HC2.out q hq2).1
            have hqz := HQZ.out qs[q] (List.getElem_mem hq2)
            have hqsz : (txt qs[q]).size ≤ 40000 := by rw [txt_size]; exact hqz
            have htpos := cutL_pos d[1] qs[q]
            have htlen : (cutL d[1] qs[q]).length ≤ 40001 := by have := cutL_len d[1] qs[q]; omega
            have HTZ : Hid (∀ x ∈ cutL d[1] qs[q], x.length ≤ 1048576) := fun x hx => by have := cutL_sz d[1] qs[q] x hx; omega
            go_wp2_with fail
            refine (implCut_any (txt qs[q]) d[1] _ (by omega) HM3.out).mono ?_
            rintro e W4 ⟨u4, rfl, hu4, hb4⟩
            rw [txt_data] at hu4
            have hbs4 := hb4.size
            go_wp2_with fail
            refine (newRep_any (cutL d[1] qs[q]) _ _ _ hu4 htpos htlen HTZ.out).mono ?_
            rintro e W5 ⟨u5, rfl, hu5, hb5⟩
            have hbs5 := hb5.size
            have hcl : (compsL d[1] qs[q]).length ≤ 40001 := by
              have h1 : compsL d[1] qs[q] = trimE List.isEmpty (cutL d[1] qs[q]) := rfl
              rw [h1]; unfold trimE; rw [List.length_take]; omega
            obtain ⟨a5, cap5, hform5, bs5, hO5, hnd5, hfr5⟩ := SBuf.strs (xs := repT (compsL d[1] qs[q])) hu5 (by unfold repT; rw [List.length_map]; omega) (fun c hc => by
              unfold repT at hc
              rw [List.mem_map] at hc
              obtain ⟨x, hx, rfl⟩ := hc
              rw [txt_size]
              have := HTZ.out x (trimE_mem hx)
              omega)
            subst hform5
            obtain ⟨vs, bss, hv1, hv2, hv3, hv4, hv5⟩ := HL2.out
            have hb35 : Below W3.heap.size W3 W5 := bjoin' hb5 hb4
            have hbA : Below W3.heap.size W3 (W5.alloc (Obj.cells #[.slice a5 (repT (compsL d[1] qs[q])).length cap5] 50)) := hb35.alloc hb35.size _
            have hOA := OAt.kept keptO_str hO5 (w' := W5.alloc (Obj.cells #[.slice a5 (repT (compsL d[1] qs[q])).length cap5] 50)) (by simp) (fun c hc => Deep.blk_alloc_lt _ _ _ (OAt.lt ltO_str hO5 c hc))
            have hownA := own_below hv3 hbA
            have hvl : ((qs.take q).map (fun x => repT (compsL d[1] x))).length = q := by rw [List.length_map, List.length_take]; omega
            have HVL := hide hvl
            have HV3 := hide hv3
            have HBA := hide hbA
            have HOA := hide hOA
            have HND := hide hnd5
            have HFR : Hid (∀ b ∈ bs5, W3.heap.size ≤ b) := fun b hb => by have := hfr5 b hb; omega
            rw [hvl] at hownA
            clear hv1 hv2 hv3 hv4 hv5 hbA hOA hnd5 hfr5 hO5 hu4 hu5 hb4 hb5 hc3 hvl
            go_wp2_with (first
              | (at_builtin; refine wpList_append_own_at _ rfl _ _ 45 rfl W2.heap.size 50 i1 (.agg #[.slice none 0 0]) 1 24 Tryd.underlying45 hi1 hy0 hy1 hy2 rfl (by decide) _ _ _ rfl hownA ⟨W5.heap.size, 0, none⟩ 1 1 [.slice a5 (repT (compsL d[1] qs[q])).length cap5] rfl rfl ?c1 ?c2 ?c3 ?c4 ?c5 ?_)
              | fail)
            case c1 => exact new_cell _ _ _
            case c2 => exact one_slice _ _ _
            case c3 => unfold maxLen; omega
            case c4 => omega
            case c5 => simp; omega
            intro v' w6 hown' hgrow hnil hat
            have HPU := hide (LBuf.push (O := OStrs) (fun _ _ _ _ _ h s d => OAt.kept keptO_str h s d) (fun _ _ _ _ h => OAt.lt ltO_str h) HL2.out hbs3 HBA.out HOA.out HFR.out HND.out HV3.out HVL.out.symm hown' hgrow (by simpa using hat))
            have HBW6 : Hid (Below W2.heap.size W2 w6) := (HB3.out.trans (HBA.out.mono hbs3)).grown hgrow (by simp; omega) (fun b hb' => (own_lt hownA hb').1)
            have HSN : Hid ((qs.take q).map (fun x => repT (compsL d[1] x)) ++ [repT (compsL d[1] qs[q])] = (qs.take (q + 1)).map (fun x => repT (compsL d[1] x))) := by rw [List.take_succ_eq_append_getElem hq2, List.map_append]; rfl
            clear hown' hgrow hnil hat hownA
            go_wp2_with fail
            go_roundg (qs.length - (q + 1))
            case measure => omega
            case rel => exact ⟨q + 1, by omega, rfl, by go_num, by rw [← HSN.out]; exact HPU.out, HBW6.out⟩
          · obtain rfl : q = qs.length := by omega
            obtain ⟨vs, bss, hv1, hv2, hv3, hv4, hv5⟩ := HL2.out
            have HXE : Hid ((qs.take qs.length).map (fun x => repT (compsL d[1] x)) = (qs.map (compsL d[1])).map repT) := by rw [List.take_length, List.map_map]; rfl
            have hvl : vs.length = qs.length := by rw [hv1, List.length_map, List.length_take]; omega
            have hlens : Lens vs (qs.map (compsL d[1])) := lens_of (f := repT) (fun x => by unfold repT; rw [List.length_map]) (by
              have := lens_str (e := 50) (base := 0) hv1 hv2 (fun i h h1 h2 => (hv5 i h h1 h2).1)
              rwa [HXE.out] at this)
            have hKle := keepN_le List.isEmpty (qs.map (compsL d[1]))
            rw [List.length_map] at hKle
            have hrow : W3.ownsRow W2.heap.size 50 1 V3 vs.length vs := by rw [hv1]; exact hv3
            have HRE : Hid (fieldT (repsL d[1] d[2] p) = ((qs.take qs.length).map (fun x => repT (compsL d[1] x))).take (keepN List.isEmpty (qs.map (compsL d[1])))) := by
              rw [HXE.out]
              show (repsL d[1] d[2] p).map repT = _
              have h1 : repsL d[1] d[2] p = trimE List.isEmpty ((cutL d[2] p).map (compsL d[1])) := rfl
              rw [h1, HQS.out]
              unfold trimE
              rw [List.map_take]
            have HMV := hide (fun (w' : World) (u : Value) (hu : w'.ownsRow W3.heap.size 50 1 u (keepN List.isEmpty (qs.map (compsL d[1]))) (vs.take (keepN List.isEmpty (qs.map (compsL d[1]))))) (hb : Below W3.heap.size W3 w') =>
              lbuf_moved (O := OStrs) (e := 50) (base := W2.heap.size) (v := V3) (fun _ _ _ _ _ h s d => OAt.kept keptO_str h s d) hv1 hv2 hv4 hv5 hbs3 (by rw [List.length_map, List.length_take]; omega) hu hb)
            clear hv1 hv2 hv3 hv4 hv5
            go_wp2_with fail
            refine (newField_any (qs.map (compsL d[1])) vs W2.heap.size V3 _ hrow hlens (by omega) (by omega) (fun x hx => by
              rw [List.mem_map] at hx
              obtain ⟨y, hy, rfl⟩ := hx
              have h1 : compsL d[1] y = trimE List.isEmpty (cutL d[1] y) := rfl
              have h2 := cutL_len d[1] y
              have h3 := HQZ.out y hy
              rw [h1]; unfold trimE; rw [List.length_take]; omega)).mono ?_
            rintro e W4 ⟨u4, rfl, hu4, hb4⟩
            have hbs4 := hb4.size
            have hLM := HMV.out W4 u4 hu4 hb4
            rw [← HRE.out] at hLM
            have hfl : (fieldT (repsL d[1] d[2] p)).length ≤ 40001 := by rw [HRE.out, List.length_take, List.length_map, List.length_take]; omega
            obtain ⟨a5, cap5, hform5, _, _, bs5, hO5, hnd5, hfr5⟩ := LBuf.take (R := RepO) (fun w b off x bs v h1 h2 => ⟨v, h1, h2⟩) hLM (by omega) (n := (fieldT (repsL d[1] d[2] p)).length) (Nat.le_refl _)
            rw [List.take_length] at hO5
            subst hform5
            obtain ⟨vs1, bss1, hw1, hw2, hw3, hw4, hw5⟩ := HL.out
            have hb14 : Below W1.heap.size W1 W4 := bjoin' hb4 (bjoin' HB3.out HB2.out)
            have hbA : Below W1.heap.size W1 (W4.alloc (Obj.cells #[.slice a5 (fieldT (repsL d[1] d[2] p)).length cap5] 47)) := hb14.alloc hb14.size _
            have hOA := OAt.kept keptO_rep hO5 (w' := W4.alloc (Obj.cells #[.slice a5 (fieldT (repsL d[1] d[2] p)).length cap5] 47)) (by simp) (fun c hc => Deep.blk_alloc_lt _ _ _ (OAt.lt ltO_rep hO5 c hc))
            have hownA := own_below hw3 hbA
            have hvl1 : (((ps.drop 1).take k).map (fun p => fieldT (repsL d[1] d[2] p))).length = k := by rw [List.length_map, List.length_take, HLN.out]; omega
            have HVL := hide hvl1
            have HV3 := hide hw3
            have HBA := hide hbA
            have HOA := hide hOA
            have HND := hide hnd5
            have HFR : Hid (∀ b ∈ bs5, W1.heap.size ≤ b) := fun b hb => by have := hfr5 b hb; omega
            rw [hvl1] at hownA
            clear hw1 hw2 hw3 hw4 hw5 hbA hOA hnd5 hfr5 hO5 hu4 hb4 hLM hvl1 hrow hlens
            go_wp2_with (first
              | (at_builtin; refine wpList_append_own_at _ rfl _ _ 42 rfl Wb.heap.size 47 i2 (.agg #[.slice none 0 0]) 1 24 Tryd.underlying42 hi2 hx0 hx1 hx2 rfl (by decide) _ _ _ rfl hownA ⟨W4.heap.size, 0, none⟩ 1 1 [.slice a5 (fieldT (repsL d[1] d[2] p)).length cap5] rfl rfl ?c1 ?c2 ?c3 ?c4 ?c5 ?_)
              | fail)
            case c1 => exact new_cell _ _ _
            case c2 => exact one_slice _ _ _
            case c3 => unfold maxLen; omega
            case c4 => omega
            case c5 => simp; omega
            intro v' w6 hown' hgrow hnil hat
            have HPU := hide (LBuf.push (O := OReps) (fun _ _ _ _ _ h s d => OAt.kept keptO_rep h s d) (fun _ _ _ _ h => OAt.lt ltO_rep h) HL.out hbs1 HBA.out HOA.out HFR.out HND.out HV3.out HVL.out.symm hown' hgrow (by simpa using hat))
            have HBW6 : Hid (Below Wb.heap.size Wb w6) := (HB.out.trans (HBA.out.mono hbs1)).grown hgrow (by simp; omega) (fun b hb' => (own_lt hownA hb').1)
            have HSN : Hid (((ps.drop 1).take k).map (fun p => fieldT (repsL d[1] d[2] p)) ++ [fieldT (repsL d[1] d[2] p)] = ((ps.drop 1).take (k + 1)).map (fun p => fieldT (repsL d[1] d[2] p))) := by
              rw [List.take_succ_eq_append_getElem (by rw [HLN.out]; exact hlt), List.map_append, List.map_cons, HPK.out]; rfl
            clear hown' hgrow hnil hat hownA
            go_wp2_with fail
            go_roundg (N - (k + 1))
            case measure => omega
            case rel => exact ⟨k + 1, by omega, rfl, by go_num, by rw [← HSN.out]; exact HPU.out, HBW6.out, fun h => absurd h (by omega)⟩
      · obtain rfl : k = N := by omega
        obtain ⟨vs, bss, hv1, hv2, hv3, hv4, hv5⟩ := HL.out
        have HXE : Hid (((ps.drop 1).take k).map (fun p => fieldT (repsL d[1] d[2] p)) = ((ps.drop 1).map (repsL d[1] d[2])).map fieldT) := by rw [List.take_of_length_le (by rw [HLN.out]; omega), List.map_map]; rfl
        have hvl : vs.length = k := by rw [hv1, List.length_map, List.length_take, HLN.out]; omega
        have hlens : Lens vs ((ps.drop 1).map (repsL d[1] d[2])) := lens_of (f := fieldT) (fun x => by unfold fieldT; rw [List.length_map]) (by
          have := lens_rep (e := 47) (base := 0) hv1 hv2 (fun i h h1 h2 => (hv5 i h h1 h2).1)
          rwa [HXE.out] at this)
        have hKle := keepN_le List.isEmpty ((ps.drop 1).map (repsL d[1] d[2]))
        rw [List.length_map, HLN.out] at hKle
        have hrow : W1.ownsRow Wb.heap.size 47 1 V1 vs.length vs := by rw [hv1]; exact hv3
        have HRE : Hid ((fieldsI d[0] d[1] d[2] r.data.toList).map fieldT = (((ps.drop 1).take k).map (fun p => fieldT (repsL d[1] d[2] p))).take (keepN List.isEmpty ((ps.drop 1).map (repsL d[1] d[2])))) := by
          rw [HXE.out]
          unfold fieldsI
          rw [HPS.out]
          unfold trimE
          rw [List.map_take]; trivial
        have HMV := hide (fun (w' : World) (u : Value) (hu : w'.ownsRow W1.heap.size 47 1 u (keepN List.isEmpty ((ps.drop 1).map (repsL d[1] d[2]))) (vs.take (keepN List.isEmpty ((ps.drop 1).map (repsL d[1] d[2]))))) (hb : Below W1.heap.size W1 w') =>
          lbuf_moved (O := OReps) (e := 47) (base := Wb.heap.size) (v := V1) (fun _ _ _ _ _ h s d => OAt.kept keptO_rep h s d) hv1 hv2 hv4 hv5 hbs1 (by rw [List.length_map, List.length_take, HLN.out]; omega) hu hb)
        clear hv1 hv2 hv3 hv4 hv5
        go_wp2_with fail
        refine (newSegment_any name ((ps.drop 1).map (repsL d[1] d[2])) vs Wb.heap.size V1 _ hrow hlens (fun h => HNIL.out (by omega)) (by omega) (fun x hx => by
          rw [List.mem_map] at hx
          obtain ⟨y, hy, rfl⟩ := hx
          have h1 : repsL d[1] d[2] y = trimE List.isEmpty ((cutL d[2] y).map (compsL d[1])) := rfl
          have h2 := cutL_len d[2] y
          obtain ⟨i, hi, rfl⟩ := List.getElem_of_mem hy
          have hik : i < k := by rw [HLN.out] at hi; exact hi
          have h3 := (HP1.out i hik).2.2
          rw [HDR.out i hik] at h2 h1
          rw [HDR.out i hik, h1]; unfold trimE; rw [List.length_take, List.length_map]; omega)).mono ?_
        rintro e W4 ⟨u4, rfl, hu4, hb4⟩
        have hLM := HMV.out W4 u4 hu4 hb4
        rw [← HRE.out] at hLM
        have hfl : ((fieldsI d[0] d[1] d[2] r.data.toList).map fieldT).length ≤ 40001 := by rw [HRE.out, List.length_take, List.length_map, List.length_take]; omega
        obtain ⟨a5, cap5, hform5, _, _, bs5, hO5, hnd5, hfr5⟩ := LBuf.take (R := FieldO) (fun w b off x bs v h1 h2 => ⟨v, h1, h2⟩) hLM (by omega) (n := ((fieldsI d[0] d[1] d[2] r.data.toList).map fieldT).length) (Nat.le_refl _)
        rw [List.take_length] at hO5
        subst hform5
        have hbox : Below (w.heap.size + 1) (w.alloc (Obj.cells #[.string ByteArray.empty, .slice none 0 0] 44)) W4 := HBX.out.trans ((HB.out.trans (hb4.mono hbs1)).mono (by omega))
        have hs4 : w.heap.size < W4.heap.size := by have := hbox.size; simp at this; omega
        have hc2 : W4.cell? ⟨w.heap.size, 0, none⟩ = some (.string ByteArray.empty) := by rw [hbox.cell (p := ⟨w.heap.size, 0, none⟩) (by simp)]; simp
        have hf2 : W4.frozen? ⟨w.heap.size, 0, none⟩ = false := by rw [hbox.frozen (p := ⟨w.heap.size, 0, none⟩) (by simp)]; simp
        have hc3 : W4.cell? ⟨w.heap.size, 1, none⟩ = some (.slice none 0 0) := by rw [hbox.cell (p := ⟨w.heap.size, 1, none⟩) (by simp)]; simp
        have hf3 : W4.frozen? ⟨w.heap.size, 1, none⟩ = false := by rw [hbox.frozen (p := ⟨w.heap.size, 1, none⟩) (by simp)]; simp
        have HBF : Hid (∀ x y, Below w.heap.size w ((W4.setCell ⟨w.heap.size, 0, none⟩ x).setCell ⟨w.heap.size, 1, none⟩ y)) := fun x y => ((HB0.out.trans (hbox.mono (by omega))).setCell (p := ⟨w.heap.size, 0, none⟩) (by simp) x).setCell (p := ⟨w.heap.size, 1, none⟩) (by simp) y
        have HOF : Hid (∀ x y, OFields ((W4.setCell ⟨w.heap.size, 0, none⟩ x).setCell ⟨w.heap.size, 1, none⟩ y) (.slice a5 ((fieldsI d[0] d[1] d[2] r.data.toList).map fieldT).length cap5) ((fieldsI d[0] d[1] d[2] r.data.toList).map fieldT) bs5) := fun x y =>
          OAt.kept keptO_field hO5 (by rw [Deep.nblk_setCell, Deep.nblk_setCell]; exact Nat.le_refl _) (fun c hc => by
            have := hfr5 c hc
            rw [Deep.blk_setCell_other _ _ _ _ (by simp; omega), Deep.blk_setCell_other _ _ _ _ (by simp; omega)])
        have HFR : Hid (∀ b ∈ bs5, w.heap.size ≤ b) := fun b hb => by have := hfr5 b hb; omega
        have HND := hide hnd5
        clear hLM hO5 hnd5 hfr5 hu4 hb4 hbox hrow hlens
        go_wp2_with fail
        exact bodyPost_ret (v := .agg #[.string name, .slice a5 ((fieldsI d[0] d[1] d[2] r.data.toList).map fieldT).length cap5]) (by simp [results, Tryd.results37, go_sem, hc2, hf2, hs4, hc3, hf3]) rfl ⟨_, rfl, bs5, HOF.out _ _, HND.out, HFR.out, HBF.out _ _⟩
end Go.Proofs.YtcphfhfockjljaaDoor.Msg
