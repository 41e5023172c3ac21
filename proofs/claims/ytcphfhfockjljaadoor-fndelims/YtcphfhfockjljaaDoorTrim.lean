import Derived.Test.YtcphfhfockjljaaDoorDrawKitwithTrimBufwithDrawComp
import Derived.Deep.CutBlock
import Derived.Deep.DeepCutAuto
namespace Go.Proofs.YtcphfhfockjljaaDoor.Msg
open Go.ChangeShapes Go.WideShapes Go.ChangeAt Go.RowKit
set_option linter.unusedVariables false
set_option linter.unusedSimpArgs false

theorem keepE (b : ByteArray) : emptyB b = (b.size == 0) := rfl

set_option maxRecDepth 100000 in
set_option maxHeartbeats 4000000 in
theorem trim_any (P : Nat → Prop) (fs : List Field) (v : Value) (bs : List Nat) (w : World) (hP1 : ∀ d ∈ bs, P d) (hP2 : ∀ d, w.heap.size ≤ d → P d) (hl : fs.length ≤ 1048576) (hlf : ∀ f ∈ fs, f.length ≤ 1048576) (hv : FieldsC w v fs bs) :
    Calls Tryd.prog 25 #[v] w fun e w' => ∃ u, e = .returned u ∧ RBuf OReps P 47 w.heap.size w' u (trimF fs) ∧ Below w.heap.size w w' := by
  obtain ⟨i0, hi, hz0, hz1, hz2⟩ := info_facts info_Field
  obtain ⟨i1, hi1, hy0, hy1, hy2⟩ := info_facts info_Rep
  obtain ⟨a, cap, rfl, hc⟩ := OAt.form hv
  have HC : Hid (∀ i (hi : i < fs.length), ∃ b off cs vf, a = some ⟨b, off, none⟩ ∧ b < w.heap.size ∧ w.cell? ⟨b, off + i, none⟩ = some vf ∧ RepsC w vf fs[i] cs ∧ ∀ c ∈ cs, P c) := fun i hi => by
    obtain ⟨b, off, cs, e, h1, _, ⟨vf, h3, h4⟩, h5⟩ := hc i hi
    exact ⟨b, off, cs, vf, e, h1, by simpa using h3, h4, fun c hc => hP1 c (h5 c hc)⟩
  have HLF := hide hlf
  have HTF : Hid (trimF fs = (fs.map trimR).take (keepN List.isEmpty (fs.map trimR))) := rfl
  have HP2 := hide hP2
  clear hc hv hlf hP1 hP2
  go_enter Tryd.func25, Tryd.ntmps25
  go_wp2_with fail
  go_loopg [3, 4, 5] fs.length (fun n v3 n4 i wr => ∃ k : Nat, k ≤ fs.length ∧ n = fs.length - k ∧ i = .int .i64 k ∧ n4 = .int .i64 ((keepN List.isEmpty ((fs.map trimR).take k) : Nat) : Int) ∧ RBuf OReps P 47 w.heap.size wr v3 ((fs.map trimR).take k) ∧ Below w.heap.size w wr)
  case atStart => exact ⟨0, Nat.zero_le _, by simp, rfl, by simp [keepN], by simpa using RBuf.empty OReps P 47 w.heap.size w (Nat.le_refl _), (Below.refl _ _).alloc (Nat.le_refl _) _⟩
  case round =>
    obtain ⟨k, hk, rfl, rfl, rfl, hL, hb⟩ := hrel
    obtain ⟨W1, rfl⟩ : ∃ x, x = wr := ⟨_, rfl⟩
    obtain ⟨V1, rfl⟩ : ∃ x, x = u3 := ⟨_, rfl⟩
    have HL := hide hL
    have HB := hide hb
    have hbs1 := hb.size
    clear hL hb
    by_cases hlt : k < fs.length
    · obtain ⟨b, off, cs, vf, rfl, hbl, hcell, hO, hPcs⟩ := HC.out k hlt
      have hfl := HLF.out fs[k] (List.getElem_mem hlt)
      have hkm : k < (fs.map trimR).length := by rw [List.length_map]; exact hlt
      have hge : (fs.map trimR)[k] = trimR fs[k] := by rw [List.getElem_map]
      have HGE := hide hge
      obtain ⟨f, hf⟩ : ∃ f, fs[k] = f := ⟨_, rfl⟩
      rw [hf] at hO hfl hge
      have HGE : Hid ((fs.map trimR)[k] = trimR f) := hge
      obtain ⟨a2, cap2, rfl, hc2⟩ := OAt.form hO
      have HC2 : Hid (∀ j (hj : j < f.length), ∃ b2 off2 vr cs2, a2 = some ⟨b2, off2, none⟩ ∧ b2 < w.heap.size ∧ w.cell? ⟨b2, off2 + j, none⟩ = some vr ∧ StrsC w vr f[j] cs2 ∧ ∀ c ∈ cs2, P c) := fun j hj => by
        obtain ⟨b2, off2, cs2, e, h1, _, ⟨vr, h3, h4⟩, h5⟩ := hc2 j hj
        exact ⟨b2, off2, vr, cs2, e, h1, by simpa using h3, h4, fun c hc => hPcs c (h5 c hc)⟩
      have HCELL : Hid (∀ w', Below w.heap.size w w' → w'.cell? ⟨b, off + k, none⟩ = some (.slice a2 f.length cap2)) := fun w' h => by rw [h.cell (p := ⟨b, off + k, none⟩) hbl]; exact hcell
      have hki : (k : Int) < (fs.length : Int) := by omega
      have HTR : Hid (trimR f = (f.map trimC).take (keepN List.isEmpty (f.map trimC))) := rfl
      clear hc2 hO hcell hf hge hPcs
      go_wp2_with fail
      go_loopg [6, 7, 8] f.length (fun n v6 n7 j wr => ∃ q : Nat, q ≤ f.length ∧ n = f.length - q ∧ j = .int .i64 q ∧ n7 = .int .i64 ((keepN List.isEmpty ((f.map trimC).take q) : Nat) : Int) ∧ RBuf OStrs (fun d => P d ∧ d < w.heap.size) 50 W1.heap.size wr v6 ((f.map trimC).take q) ∧ Below W1.heap.size W1 wr)
      case atStart => exact ⟨0, Nat.zero_le _, by simp, rfl, by simp [keepN], by simpa using RBuf.empty OStrs (fun d => P d ∧ d < w.heap.size) 50 W1.heap.size W1 (Nat.le_refl _), (Below.refl _ _).alloc (Nat.le_refl _) _⟩
      case round =>
        obtain ⟨q, hq, rfl, rfl, rfl, hL2, hb3⟩ := hrel
        obtain ⟨W3, rfl⟩ : ∃ x, x = wr := ⟨_, rfl⟩
        obtain ⟨V3, rfl⟩ : ∃ x, x = u6 := ⟨_, rfl⟩
        have HL2 := hide hL2
        have HB3 := hide hb3
        have hbs3 := hb3.size
        have HBW := hide (HB.out.trans (hb3.mono hbs1))
        have hcf := HCELL.out W3 HBW.out
        clear hL2 hb3
        by_cases hq2 : q < f.length
        · obtain ⟨b2, off2, vr, cs2, rfl, hbl2, hcell2, hO2, hPc2⟩ := HC2.out q hq2
          obtain ⟨r, hr⟩ : ∃ r, f[q] = r := ⟨_, rfl⟩
          have hqm : q < (f.map trimC).length := by rw [List.length_map]; exact hq2
          have hge2 : (f.map trimC)[q] = trimC f[q] := by rw [List.getElem_map]
          rw [hr] at hO2 hge2
          have HGE2 : Hid ((f.map trimC)[q] = trimC r) := hge2
          obtain ⟨hO2, a3, cap3, rfl, hcap3, hcm3⟩ := hO2
          have hO3 := OAt.kept keptO_str hO2 (w' := W3) HBW.out.size (fun c hc => HBW.out.block c (OAt.lt ltO_str hO2 c hc))
          have HLT2 : Hid (∀ c ∈ cs2, P c ∧ c < w.heap.size) := fun c hc => ⟨hPc2 c hc, OAt.lt ltO_str hO2 c hc⟩
          have hc3' := OAt.form hO3
          have HC3 : Hid (∀ j (hj : j < r.length), ∃ b3 off3, a3 = some ⟨b3, off3, none⟩ ∧ W3.cell? ⟨b3, off3 + j, none⟩ = some (.string r[j]) ∧ r[j].size ≤ 9223372036854775807) := fun j hj => by
            obtain ⟨a', c', e', hc3⟩ := hc3'
            injection e' with e1 _ e3
            subst e1 e3
            obtain ⟨b3, off3, cs3, e, _, _, h3, _⟩ := hc3 j hj
            exact ⟨b3, off3, e, by simpa using h3.1, h3.2.2.1⟩
          have HO3 : Hid (OStrs W3 (.slice a3 r.length cap3) r cs2) := hO3
          have hcr : W3.cell? ⟨b2, off2 + q, none⟩ = some (.slice a3 r.length cap3) := by rw [HBW.out.cell (p := ⟨b2, off2 + q, none⟩) hbl2]; exact hcell2
          have hqi : (q : Int) < (f.length : Int) := by omega
          clear hO2 hO3 hc3' hcell2 hge2 hr hPc2
          go_upto_block 4 with fail
          go_cut [10] (fun c wx => c = .int .i64 ((keepN emptyB r : Nat) : Int) ∧ W3 = wx)
          case first =>
            go_wp2_with fail
            go_loopg [10] r.length (fun n c wr => ∃ p : Nat, p ≤ r.length ∧ p = n ∧ c = .int .i64 (p : Int) ∧ (∀ j (h : j < r.length), p ≤ j → emptyB r[j] = true) ∧ W3 = wr)
            case atStart => exact ⟨r.length, Nat.le_refl _, rfl, rfl, fun j h1 h2 => absurd h2 (by omega), rfl⟩
            case round =>
              obtain ⟨p, hp, rfl, rfl, hall, rfl⟩ := hrel
              have HA := hide hall
              clear hall
              by_cases hp0 : 0 < p
              · have hp1 : p - 1 < r.length := by omega
                have hpi : (0 : Int) < (p : Int) := by omega
                obtain ⟨b3, off3, rfl, hc3, hs3⟩ := HC3.out (p - 1) hp1
                have htn : ((p : Int) - 1).toNat = p - 1 := by omega
                have hpl : (p : Int) - 1 < (r.length : Int) := by omega
                cases hem : emptyB (r[p - 1]'hp1)
                · have hne : (((r[p - 1]'hp1).size : Int) == 0) = false := by
                    rw [keepE, beq_eq_false_iff_ne] at hem
                    rw [beq_eq_false_iff_ne]; omega
                  have HK := hide (keepN_is emptyB r p hp HA.out (fun _ _ => hem))
                  clear hem
                  go_wp2_with fail
                  go_meet
                  case rel => exact ⟨by rw [HK.out], rfl⟩
                · have hne : (((r[p - 1]'hp1).size : Int) == 0) = true := by
                    rw [keepE, beq_iff_eq] at hem
                    rw [beq_iff_eq]; omega
                  have HA2 : Hid (∀ j (h : j < r.length), p - 1 ≤ j → emptyB r[j] = true) := fun j hj h => by
                    by_cases e : j = p - 1
                    · subst e; exact hem
                    · exact HA.out j hj (by omega)
                  clear hem
                  go_wp2_with fail
                  go_roundg (p - 1)
                  case measure => omega
                  case rel => exact ⟨p - 1, by omega, rfl, by go_num, HA2.out, rfl⟩
              · obtain rfl : p = 0 := by omega
                have HK := hide (keepN_is emptyB r 0 (Nat.zero_le _) HA.out (fun _ h => absurd h (by omega)))
                go_wp2_with fail
                go_meet
                case rel => exact ⟨by rw [HK.out], rfl⟩
          case rest =>
            obtain ⟨rfl, rfl⟩ := hcut
            obtain ⟨c, hcn⟩ : ∃ c, keepN emptyB r = c := ⟨_, rfl⟩
            have HCN := hide hcn
            have hcl : c ≤ r.length := by rw [← hcn]; exact keepN_le _ _
            have HTC : Hid (trimC r = r.take c) := by rw [← hcn]; exact rfl
            have hrl : (trimC r).length = c := by rw [HTC.out, List.length_take]; omega
            have HRL := hide hrl
            rw [hcn]
            clear hcn hrl
            obtain ⟨cs4, hO4, hsub4⟩ := OStrs.first HO3.out hcl
            rw [← HTC.out] at hO4
            obtain ⟨vs, bss, hv1, hv2, hv3, hv5⟩ := HL2.out
            have hvl : ((f.map trimC).take q).length = q := by rw [List.length_take]; omega
            have HVL := hide hvl
            have hbA : Below W3.heap.size W3 (W3.alloc (Obj.cells #[.slice a3 c cap3] 50)) := (Below.refl _ _).alloc (Nat.le_refl _) _
            have hOA := OAt.kept keptO_str hO4 (w' := W3.alloc (Obj.cells #[.slice a3 c cap3] 50)) (by simp) (fun d hd => Deep.blk_alloc_lt _ _ _ (OAt.lt ltO_str hO4 d hd))
            have hownA := own_below hv3 hbA
            have HV1 := hide hv1
            have HV2 := hide hv2
            have HV3 := hide hv3
            have HV5 := hide hv5
            have HBA := hide hbA
            have HOA := hide hOA
            have HFR : Hid (∀ d ∈ cs4, (P d ∧ d < w.heap.size) ∧ V3.ownBlock ≠ some d) := fun d hd => by
              have h1 := HLT2.out d (hsub4 d hd)
              exact ⟨h1, fun e => by have := (own_lt HV3.out e).1; have := h1.2; omega⟩
            rw [hvl] at hownA
            clear hv1 hv2 hv3 hv5 hbA hOA hO4 hvl hcr hcf
            go_wp2_with (first
              | (at_builtin; refine wpList_append_own_at _ rfl _ _ 45 rfl W1.heap.size 50 i1 (.agg #[.slice none 0 0]) 1 24 Tryd.underlying45 hi1 hy0 hy1 hy2 rfl (by decide) _ _ _ rfl hownA ⟨W3.heap.size, 0, none⟩ 1 1 [.slice a3 c cap3] rfl rfl (new_cell _ _ _) (one_slice _ _ _) (by unfold maxLen; omega) (by omega) (by rw [Deep.nblk_alloc]; omega) ?_)
              | fail)
            intro v' w6 hown' hgrow hnil hat
            have HPU := hide (RBuf.push (O := OStrs) (fun _ _ _ _ _ h s d => OAt.kept keptO_str h s d) (fun _ _ _ _ h => OAt.lt ltO_str h) HV1.out HV2.out HV3.out HV5.out HBA.out HOA.out HFR.out HVL.out.symm hown' hgrow (by simpa using hat))
            have HBW6 : Hid (Below W1.heap.size W1 w6) := (HB3.out.trans (HBA.out.mono hbs3)).grown hgrow (by simp; omega) (fun b hb' => (own_lt hownA hb').1)
            have HSN : Hid ((f.map trimC).take q ++ [trimC r] = (f.map trimC).take (q + 1)) := by rw [List.take_succ_eq_append_getElem hqm, HGE2.out]; trivial
            have HKS := hide (keepN_snoc List.isEmpty (f.map trimC) q hqm)
            clear hown' hgrow hnil hat hownA
            by_cases hc0 : c = 0
            · have HEM : Hid ((trimC r).isEmpty = true) := List.isEmpty_iff.2 (List.length_eq_zero_iff.1 (HRL.out.trans hc0))
              have hcz : ¬ (0 : Int) < (c : Int) := by omega
              have HNN : Hid (keepN List.isEmpty ((f.map trimC).take (q + 1)) = keepN List.isEmpty ((f.map trimC).take q)) := by rw [HKS.out, HGE2.out, if_pos HEM.out]; exact rfl
              clear hc0
              go_wp2_with fail
              go_roundg (f.length - (q + 1))
              case measure => omega
              case rel => exact ⟨q + 1, by omega, rfl, by go_num, by rw [HNN.out], by rw [← HSN.out]; exact HPU.out, HBW6.out⟩
            · have HEM : Hid (¬ (trimC r).isEmpty = true) := by
                intro h
                rw [List.isEmpty_iff] at h
                have := HRL.out
                rw [h] at this
                exact hc0 this.symm
              have hcz : (0 : Int) < (c : Int) := by omega
              have HNN : Hid (keepN List.isEmpty ((f.map trimC).take (q + 1)) = q + 1) := by rw [HKS.out, HGE2.out, if_neg HEM.out]; exact rfl
              clear hc0
              go_wp2_with fail
              go_roundg (f.length - (q + 1))
              case measure => omega
              case rel => exact ⟨q + 1, by omega, rfl, by go_num, by rw [HNN.out]; go_num, by rw [← HSN.out]; exact HPU.out, HBW6.out⟩
        · obtain rfl : q = f.length := by omega
          have hall : (f.map trimC).take f.length = f.map trimC := by rw [← List.length_map (f := trimC), List.take_length]
          have hkn := keepN_le List.isEmpty (f.map trimC)
          rw [List.length_map] at hkn
          have hL2 := HL2.out
          rw [hall] at hL2 ⊢
          obtain ⟨c, hcn⟩ : ∃ c, keepN List.isEmpty (f.map trimC) = c := ⟨_, rfl⟩
          rw [hcn] at hkn ⊢
          have HTC : Hid (trimR f = (f.map trimC).take c) := by rw [← hcn]; exact rfl
          have hrl : (trimR f).length = c := by rw [HTC.out, List.length_take, List.length_map]; omega
          have HRL := hide hrl
          clear hcn hrl hall
          obtain ⟨a4, cap4, rfl, hcl4, hcm4, hRB, cs4, hO4, hin4⟩ := RBuf.first (R := RepO) (fun w b off x bs v h1 h2 => ⟨v, h1, h2⟩) hL2 (by rw [List.length_map]; omega) (n := c) (by rw [List.length_map]; omega)
          rw [← HTC.out] at hO4
          rw [List.length_map] at hcl4 ⊢
          obtain ⟨vs, bss, hv1, hv2, hv3, hv5⟩ := HL.out
          have hvl : ((fs.map trimR).take k).length = k := by rw [List.length_take]; omega
          have HVL := hide hvl
          have hb13 := HB3.out
          have hbA : Below W1.heap.size W1 (W3.alloc (Obj.cells #[.slice a4 c cap4] 47)) := hb13.alloc hb13.size _
          have hOA := OAt.kept keptO_rep hO4 (w' := W3.alloc (Obj.cells #[.slice a4 c cap4] 47)) (by simp) (fun d hd => Deep.blk_alloc_lt _ _ _ (OAt.lt ltO_rep hO4 d hd))
          have hownA := own_below hv3 hbA
          have HV1 := hide hv1
          have HV2 := hide hv2
          have HV3 := hide hv3
          have HV5 := hide hv5
          have HBA := hide hbA
          have HOA := hide hOA
          have HFR : Hid (∀ d ∈ cs4, P d ∧ V1.ownBlock ≠ some d) := fun d hd => by
            rcases (hin4 d hd).2 with h2 | h2
            · exact ⟨h2.1, fun e => by have h1 := own_lt HV3.out e; have := h2.2; omega⟩
            · exact ⟨HP2.out d (by omega), fun e => by have h1 := own_lt HV3.out e; omega⟩
          rw [hvl] at hownA
          clear hv1 hv2 hv3 hv5 hbA hOA hO4 hvl hL2 hRB hin4 hb13
          go_wp2_with (first
            | (at_builtin; refine wpList_append_own_at _ rfl _ _ 42 rfl w.heap.size 47 i0 (.agg #[.slice none 0 0]) 1 24 Tryd.underlying42 hi hz0 hz1 hz2 rfl (by decide) _ _ _ rfl hownA ⟨W3.heap.size, 0, none⟩ 1 1 [.slice a4 c cap4] rfl rfl (new_cell _ _ _) (one_slice _ _ _) (by unfold maxLen; omega) (by omega) (by rw [Deep.nblk_alloc]; omega) ?_)
            | fail)
          intro v' w6 hown' hgrow hnil hat
          have HPU := hide (RBuf.push (O := OReps) (fun _ _ _ _ _ h s d => OAt.kept keptO_rep h s d) (fun _ _ _ _ h => OAt.lt ltO_rep h) HV1.out HV2.out HV3.out HV5.out HBA.out HOA.out HFR.out HVL.out.symm hown' hgrow (by simpa using hat))
          have HBW6 : Hid (Below w.heap.size w w6) := (HB.out.trans (HBA.out.mono hbs1)).grown hgrow (by simp; omega) (fun b hb' => (own_lt hownA hb').1)
          have HSN : Hid ((fs.map trimR).take k ++ [trimR f] = (fs.map trimR).take (k + 1)) := by rw [List.take_succ_eq_append_getElem hkm, HGE.out]; trivial
          have HKS := hide (keepN_snoc List.isEmpty (fs.map trimR) k hkm)
          clear hown' hgrow hnil hat hownA
          by_cases hc0 : c = 0
          · have HEM : Hid ((trimR f).isEmpty = true) := List.isEmpty_iff.2 (List.length_eq_zero_iff.1 (HRL.out.trans hc0))
            have hcz : ¬ (0 : Int) < (c : Int) := by omega
            have HNN : Hid (keepN List.isEmpty ((fs.map trimR).take (k + 1)) = keepN List.isEmpty ((fs.map trimR).take k)) := by rw [HKS.out, HGE.out, if_pos HEM.out]; exact rfl
            clear hc0
            go_wp2_with fail
            go_roundg (fs.length - (k + 1))
            case measure => omega
            case rel => exact ⟨k + 1, by omega, rfl, by go_num, by rw [HNN.out], by rw [← HSN.out]; exact HPU.out, HBW6.out⟩
          · have HEM : Hid (¬ (trimR f).isEmpty = true) := by
              intro h
              rw [List.isEmpty_iff] at h
              have := HRL.out
              rw [h] at this
              exact hc0 this.symm
            have hcz : (0 : Int) < (c : Int) := by omega
            have HNN : Hid (keepN List.isEmpty ((fs.map trimR).take (k + 1)) = k + 1) := by rw [HKS.out, HGE.out, if_neg HEM.out]; exact rfl
            clear hc0
            go_wp2_with fail
            go_roundg (fs.length - (k + 1))
            case measure => omega
            case rel => exact ⟨k + 1, by omega, rfl, by go_num, by rw [HNN.out]; go_num, by rw [← HSN.out]; exact HPU.out, HBW6.out⟩
    · obtain rfl : k = fs.length := by omega
      have hall : (fs.map trimR).take fs.length = fs.map trimR := by rw [← List.length_map (f := trimR), List.take_length]
      have hkn := keepN_le List.isEmpty (fs.map trimR)
      rw [List.length_map] at hkn
      have hL := HL.out
      rw [hall] at hL ⊢
      obtain ⟨a4, cap4, rfl, hcl4, hcm4, hRB, cs4, hO4, hin4⟩ := RBuf.first (R := FieldO) (fun w b off x bs v h1 h2 => ⟨v, h1, h2⟩) hL (by rw [List.length_map]; omega) (n := keepN List.isEmpty (fs.map trimR)) (by rw [List.length_map]; omega)
      rw [← HTF.out] at hRB
      rw [List.length_map] at hcl4 ⊢
      have HRB := hide hRB
      generalize keepN List.isEmpty (fs.map trimR) = N at *
      clear hL hO4 hall hRB hin4
      go_wp2_with fail
      go_ret
      exact ⟨_, rfl, HRB.out, HB.out⟩
end Go.Proofs.YtcphfhfockjljaaDoor.Msg
