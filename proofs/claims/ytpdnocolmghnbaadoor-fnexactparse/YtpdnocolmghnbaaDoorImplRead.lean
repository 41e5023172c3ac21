import Derived.Test.YtpdnocolmghnbaaDoorReadUpd
import Derived.Test.YtpdnocolmghnbaaDoorImplEsc
namespace Go.Proofs.YtpdnocolmghnbaaDoor.Msg
open Go.ChangeShapes Go.WideShapes Go.ChangeAt Go.RowKit
set_option linter.unusedVariables false
set_option linter.unusedSimpArgs false

theorem Mx.only {w w' : World} (h : Mx w) {bs : List Nat} (ho : Only bs w w') (h0 : 0 ∉ bs) : Mx w' := by
  have hp := h.pos
  obtain ⟨m, hm⟩ := h
  exact ⟨m, by rw [cellSame (ho.block 0 hp h0)]; exact hm⟩
theorem only_cell {bs : List Nat} {w w' : World} (ho : Only bs w w') {b o : Nat} (h1 : b < w.heap.size) (h2 : b ∉ bs) : w'.cell? ⟨b, o, none⟩ = w.cell? ⟨b, o, none⟩ := cellSame (ho.block b h1 h2)
theorem form_reps {w : World} {v : Value} {xs : List Rep} {bs : List Nat} (h : OReps w v xs bs) : ∃ a c, v = .slice a xs.length c := by
  obtain ⟨a, c, e, _⟩ := (OAt.toAt toAt_rep h (lo := 0) (fun _ _ => Nat.zero_le _)).form
  exact ⟨a, c, e⟩
theorem form_strs {w : World} {v : Value} {xs : List ByteArray} {bs : List Nat} (h : OStrs w v xs bs) : ∃ a c, v = .slice a xs.length c := by
  obtain ⟨a, c, e, _⟩ := (OAt.toAt toAt_str h (lo := 0) (fun _ _ => Nat.zero_le _)).form
  exact ⟨a, c, e⟩
theorem form_fields {w : World} {v : Value} {xs : List Field} {bs : List Nat} (h : OFields w v xs bs) : ∃ a c, v = .slice a xs.length c := by
  obtain ⟨a, c, e, _⟩ := (OAt.toAt toAt_field h (lo := 0) (fun _ _ => Nat.zero_le _)).form
  exact ⟨a, c, e⟩

set_option maxRecDepth 100000 in
set_option maxHeartbeats 8000000 in
theorem readEscapes_any (name : ByteArray) (xs : List Field) (v : Value) (bs : List Nat) (d : ByteArray) (w : World) (hd : d.size = 5) (hv : OFields w v xs bs) (hnd : bs.Nodup) (h0 : 0 ∉ bs) (hm : Mx w) (hz : ∀ f ∈ xs, ∀ r ∈ f, ∀ c ∈ r, c.size ≤ 40000) (hll : xs.length ≤ 1048576) (hl2 : ∀ f ∈ xs, f.length ≤ 1048576) (hl3 : ∀ f ∈ xs, ∀ r ∈ f, r.length ≤ 1048576) :
    Calls Tryd.prog 31 #[.agg #[.string name, v], .string d] w fun e w' => e = .returned (.bool (allO (allO (allO (plainO d hd))) xs).isSome) ∧ Only bs w w' ∧ ∀ ys, allO (allO (allO (plainO d hd))) xs = some ys → OFields w' v ys bs := by
  obtain ⟨a, c, rfl⟩ := form_fields hv
  have HZ := hide hz
  have HL2 := hide hl2
  have HL3 := hide hl3
  have HND := hide hnd
  have H0 := hide h0
  have hb0 := (Below.refl w.heap.size w).alloc (Nat.le_refl _) (Obj.cells #[.string name, .slice a xs.length c] 38)
  have HON := hide (Only.of_below (bs := bs) hb0)
  have HV := hide (OAt.kept keptO_field hv hb0.size (fun e he => hb0.block e (OAt.lt ltO_field hv e he)))
  have HM := hide hm
  have HPD : Hid (∀ t, plainO d hd t = (plainL d[0] d[1] d[2] d[3] d[4] t.data.toList).map txt) := fun _ => rfl
  clear hz hl2 hl3 hnd h0 hv hm hb0
  go_enter Tryd.func31, Tryd.ntmps31
  go_wp2_with fail
  go_loopg [16] xs.length (fun n i wr => ∃ (k : Nat) (ys : List Field), k ≤ xs.length ∧ n = xs.length - k ∧ i = .int .i64 k ∧ ys.length = k ∧ allO (allO (allO (plainO d hd))) xs = (allO (allO (allO (plainO d hd))) (xs.drop k)).map (ys ++ ·) ∧ OFields wr (.slice a xs.length c) (ys ++ xs.drop k) bs ∧ Only bs w wr)
  case atStart => exact ⟨0, [], Nat.zero_le _, by simp, rfl, rfl, by simp, by show OFields _ _ (xs.drop 0) _; rw [List.drop_zero]; exact HV.out, HON.out⟩
  case round =>
    obtain ⟨k, ys, hk, rfl, rfl, hyl, hE, hO, ho⟩ := hrel
    obtain ⟨W1, rfl⟩ : ∃ x, x = wr := ⟨_, rfl⟩
    have HYL := hide hyl
    have HE := hide hE
    have HO := hide hO
    have HOW := hide ho
    clear hyl hE hO ho
    by_cases hlt : k < xs.length
    · obtain ⟨b, off, cap, ve, bs1, hvf, hbl, hbn, hsub, hnd1, hce, hOe, hup⟩ := list_upd (O := OReps) (fun _ _ _ _ _ h s d => OAt.kept keptO_rep h s d) (fun _ _ _ _ h => OAt.lt ltO_rep h) HO.out HND.out (i := k) (by rw [len_mid ys xs k (by omega) HYL.out]; exact hlt)
      rw [len_mid ys xs k (by omega) HYL.out] at hvf
      injection hvf with hva _ hvc
      subst hva hvc
      rw [at_mid ys xs k hlt HYL.out] at hOe
      obtain ⟨f, hf⟩ : ∃ f, xs[k] = f := ⟨_, rfl⟩
      have HF := hide hf
      rw [hf] at hOe
      have hfm : f ∈ xs := by rw [← hf]; exact List.getElem_mem hlt
      obtain ⟨a2, c2, rfl⟩ := form_reps hOe
      have hfl := HL2.out f hfm
      have HUP := hide hup
      have HSUB := hide hsub
      have HND1 := hide hnd1
      have HOE := hide hOe
      have HFM := hide hfm
      have hbW : Below W1.heap.size W1 (W1.alloc (Obj.cells #[.slice a2 f.length c2] 47)) := (Below.refl _ _).alloc (Nat.le_refl _) _
      have HO1 := hide (Only.of_below (bs := bs1) hbW)
      have HV1 := hide (OAt.kept keptO_rep hOe hbW.size (fun e he => hbW.block e (OAt.lt ltO_rep hOe e he)))
      clear hup hsub hnd1 hOe hfm hf hbW
      go_wp2_with fail
      go_loopg [23] f.length (fun n i wr => ∃ (q : Nat) (zs : List Rep), q ≤ f.length ∧ n = f.length - q ∧ i = .int .i64 q ∧ zs.length = q ∧ allO (allO (plainO d hd)) f = (allO (allO (plainO d hd)) (f.drop q)).map (zs ++ ·) ∧ OReps wr (.slice a2 f.length c2) (zs ++ f.drop q) bs1 ∧ Only bs1 W1 wr)
      case atStart => exact ⟨0, [], Nat.zero_le _, by simp, rfl, rfl, by simp, by show OReps _ _ (f.drop 0) _; rw [List.drop_zero]; exact HV1.out, HO1.out⟩
      case round =>
        obtain ⟨q, zs, hq, rfl, rfl, hzl, hE2, hO2, ho2⟩ := hrel
        obtain ⟨W2, rfl⟩ : ∃ x, x = wr := ⟨_, rfl⟩
        have HZL := hide hzl
        have HE2 := hide hE2
        have HO2 := hide hO2
        have HOW2 := hide ho2
        clear hzl hE2 hO2 ho2
        by_cases hq2 : q < f.length
        · obtain ⟨b2, off2, cap2, vr, bs2, hvf2, hbl2, hbn2, hsub2, hnd2, hcr, hOr, hup2⟩ := list_upd (O := OStrs) (fun _ _ _ _ _ h s d => OAt.kept keptO_str h s d) (fun _ _ _ _ h => OAt.lt ltO_str h) HO2.out HND1.out (i := q) (by rw [len_mid zs f q (by omega) HZL.out]; exact hq2)
          rw [len_mid zs f q (by omega) HZL.out] at hvf2
          injection hvf2 with hva2 _ hvc2
          subst hva2 hvc2
          rw [at_mid zs f q hq2 HZL.out] at hOr
          obtain ⟨r, hr⟩ : ∃ r, f[q] = r := ⟨_, rfl⟩
          have HR := hide hr
          rw [hr] at hOr
          have hrm : r ∈ f := by rw [← hr]; exact List.getElem_mem hq2
          obtain ⟨a3, c3, rfl⟩ := form_strs hOr
          have hrl := HL3.out f HFM.out r hrm
          have HRZ := hide (HZ.out f HFM.out r hrm)
          have HUP2 := hide hup2
          have HSUB2 := hide hsub2
          have HLT2 := hide (OAt.lt ltO_str hOr)
          have hbW2 : Below W2.heap.size W2 (W2.alloc (Obj.cells #[.slice a3 r.length c3] 50)) := (Below.refl _ _).alloc (Nat.le_refl _) _
          have HO3 := hide (Only.of_below (bs := bs2) hbW2)
          have HV2 := hide (OAt.kept keptO_str hOr hbW2.size (fun e he => hbW2.block e (OAt.lt ltO_str hOr e he)))
          have HBX : Hid (∀ wX, Only bs2 (W2.alloc (Obj.cells #[.slice a3 r.length c3] 50)) wX → wX.cell? ⟨W2.heap.size, 0, none⟩ = some (.slice a3 r.length c3)) := fun wX h => by
            rw [only_cell h (by simp) (fun hm => by have := HLT2.out _ hm; omega)]; simp
          clear hup2 hsub2 hnd2 hOr hrm hr hbW2
          go_wp2_with fail
          go_loopg [30] r.length (fun n i wr => ∃ (p : Nat) (ts : List ByteArray), p ≤ r.length ∧ n = r.length - p ∧ i = .int .i64 p ∧ ts.length = p ∧ allO (plainO d hd) r = (allO (plainO d hd) (r.drop p)).map (ts ++ ·) ∧ OStrs wr (.slice a3 r.length c3) (ts ++ r.drop p) bs2 ∧ Only bs2 (W2.alloc (Obj.cells #[.slice a3 r.length c3] 50)) wr)
          case atStart => exact ⟨0, [], Nat.zero_le _, by simp, rfl, rfl, by simp, by show OStrs _ _ (r.drop 0) _; rw [List.drop_zero]; exact HV2.out, Only.refl _ _⟩
          case round =>
            obtain ⟨p, ts, hp, rfl, rfl, htl, hE3, hO3, ho3⟩ := hrel
            obtain ⟨W3, rfl⟩ : ∃ x, x = wr := ⟨_, rfl⟩
            have HTL := hide htl
            have HE3 := hide hE3
            have HO3' := hide hO3
            have HOW3 := hide ho3
            have HALL : Hid (Only bs w W3) := (HOW.out.trans (HOW2.out.mono HSUB.out)).trans ((HO3.out.mono (fun e he => HSUB.out e (HSUB2.out e he))).trans (ho3.mono (fun e he => HSUB.out e (HSUB2.out e he))))
            clear htl hE3 hO3 ho3
            by_cases hp2 : p < r.length
            · have hlm : (ts ++ r.drop p).length = r.length := len_mid ts r p (by omega) HTL.out
              obtain ⟨b3, off3, cap3, hvf3, hbl3, hbm3, hc3, hf3, hput⟩ := strs_upd HO3'.out (i := p) (by rw [hlm]; exact hp2)
              rw [hlm] at hvf3
              injection hvf3 with hva3 _ hvc3
              subst hva3 hvc3
              rw [at_mid ts r p hp2 HTL.out] at hc3
              have HPUT := hide hput
              have hrz := HRZ.out r[p] (List.getElem_mem hp2)
              have hbx3 := HBX.out _ HOW3.out
              have hbs3 : W2.heap.size < W3.heap.size := by have := HOW3.out.size; simp at this; omega
              have HM3 := hide (HM.out.only HALL.out H0.out)
              have hpi : (p : Int) < (r.length : Int) := by omega
              clear hlm hput
              go_wp2_with fail
              refine (without_any r[p] d _ hrz hd HM3.out).mono ?_
              rintro e W4 ⟨rfl, hb4⟩
              have HALL4 := hide (HALL.out.trans (Only.of_below (bs := bs) hb4))
              cases hpl : plainL d[0] d[1] d[2] d[3] d[4] r[p].data.toList with
              | none =>
                have HN3 : Hid (plainO d hd r[p] = none) := by rw [HPD.out, hpl]; rfl
                have HN2 : Hid (allO (plainO d hd) f[q] = none) := by rw [HR.out]; exact allO_fail hp2 HE3.out HN3.out
                have HN1 : Hid (allO (allO (plainO d hd)) xs[k] = none) := by rw [HF.out]; exact allO_fail hq2 HE2.out HN2.out
                have HN0 : Hid (allO (allO (allO (plainO d hd))) xs = none) := allO_fail hlt HE.out HN1.out
                clear hpl
                simp only [Option.getD_none, Option.isSome_none]
                go_wp2_with fail
                go_ret
                exact ⟨ret_bool (by rw [HN0.out]; rfl), HALL4.out, fun ys h => (by rw [HN0.out] at h; cases h)⟩
              | some t =>
                have htl : t.length ≤ 40000 := by have := plainL_len hpl; simp at this; omega
                have HN3 : Hid (plainO d hd r[p] = some (txt t)) := by rw [HPD.out, hpl]; rfl
                have HST := hide (allO_step hp2 HE3.out HN3.out)
                have hc4 : W4.cell? ⟨b3, off3 + p, none⟩ = some (.string r[p]) := by rw [hb4.cell (p := ⟨b3, off3 + p, none⟩) hbl3]; exact hc3
                have hf4 : W4.frozen? ⟨b3, off3 + p, none⟩ = false := by rw [hb4.frozen (p := ⟨b3, off3 + p, none⟩) hbl3]; exact hf3
                have hbx4 : W4.cell? ⟨W2.heap.size, 0, none⟩ = some (.slice (some ⟨b3, off3, none⟩) r.length c3) := by rw [hb4.cell (p := ⟨W2.heap.size, 0, none⟩) hbs3]; exact hbx3
                have HPP := hide (HPUT.out W4 (txt t) (by rw [txt_size]; omega) hb4)
                have HSM := hide (set_mid ts r p hp2 HTL.out (txt t))
                clear hpl hb4 hc3 hf3 hbx3
                simp only [Option.getD_some, Option.isSome_some]
                go_wp2_with fail
                go_roundg (r.length - (p + 1))
                case measure => omega
                case rel => exact ⟨p + 1, ts ++ [txt t], by omega, rfl, by go_num, by rw [List.length_append, List.length_singleton, HTL.out], HST.out, by rw [← HSM.out]; exact HPP.out.1, HOW3.out.trans HPP.out.2⟩
            · have HAL : Hid (allO (plainO d hd) f[q] = some ts) := by rw [HR.out]; exact allO_done (by omega) HE3.out
              have HST2 := hide (allO_step hq2 HE2.out HAL.out)
              have HTS : Hid (OStrs W3 (.slice a3 r.length c3) ts bs2) := by
                have := HO3'.out
                rwa [List.drop_eq_nil_of_le (by omega), List.append_nil] at this
              have HON3 := hide (HO3.out.trans HOW3.out)
              have HNEW := hide (HUP2.out W3 ts HON3.out HTS.out)
              have HSM := hide (set_mid zs f q hq2 HZL.out ts)
              go_wp2_with fail
              go_roundg (f.length - (q + 1))
              case measure => omega
              case rel => exact ⟨q + 1, zs ++ [ts], by omega, rfl, by go_num, by rw [List.length_append, List.length_singleton, HZL.out], HST2.out, by rw [← HSM.out]; exact HNEW.out, HOW2.out.trans (HON3.out.mono HSUB2.out)⟩
        · have HAL : Hid (allO (allO (plainO d hd)) xs[k] = some zs) := by rw [HF.out]; exact allO_done (by omega) HE2.out
          have HST1 := hide (allO_step hlt HE.out HAL.out)
          have HZS : Hid (OReps W2 (.slice a2 f.length c2) zs bs1) := by
            have := HO2.out
            rwa [List.drop_eq_nil_of_le (by omega), List.append_nil] at this
          have HNEW := hide (HUP.out W2 zs HOW2.out HZS.out)
          have HSM := hide (set_mid ys xs k hlt HYL.out zs)
          go_wp2_with fail
          go_roundg (xs.length - (k + 1))
          case measure => omega
          case rel => exact ⟨k + 1, ys ++ [zs], by omega, rfl, by go_num, by rw [List.length_append, List.length_singleton, HYL.out], HST1.out, by rw [← HSM.out]; exact HNEW.out, HOW.out.trans (HOW2.out.mono HSUB.out)⟩
    · have HAL : Hid (allO (allO (allO (plainO d hd))) xs = some ys) := allO_done (by omega) HE.out
      have HFN : Hid (∀ zs, allO (allO (allO (plainO d hd))) xs = some zs → OFields W1 (.slice a xs.length c) zs bs) := fun zs h => by
        rw [HAL.out] at h
        injection h with h
        subst h
        have := HO.out
        rwa [List.drop_eq_nil_of_le (by omega), List.append_nil] at this
      go_wp2_with fail
      go_ret
      exact ⟨ret_bool (by rw [HAL.out]; rfl), HOW.out, HFN.out⟩
end Go.Proofs.YtpdnocolmghnbaaDoor.Msg
