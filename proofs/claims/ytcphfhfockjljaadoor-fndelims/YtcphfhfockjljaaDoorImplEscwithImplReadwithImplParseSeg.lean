import Derived.Test.YtcphfhfockjljaaDoorImplSplitwithImplCutwithImplOk
import Derived.Test.YtcphfhfockjljaaDoorParseByteswithParsePlainwithParseLists
import Derived.Lib.Join
import Derived.Test.YtcphfhfockjljaaDoorImplPurewithImplStartwithReadUpd
import Derived.Deep.DeepCutAuto
import Derived.BigQuiet
namespace Go.Proofs.YtcphfhfockjljaaDoor.Msg
open Go.ChangeShapes Go.WideShapes Go.ChangeAt Go.RowKit
set_option linter.unusedVariables false
set_option linter.unusedSimpArgs false

theorem unesc_all {e : List UInt8 → Option (List UInt8)} : ∀ (ps qs : List (List UInt8)) (i : Nat), qs.length = ps.length → (∀ j (h : j < ps.length) (h2 : j < qs.length), partL e (i + j) ps[j] = some qs[j]) → unescGo e i ps = some qs.flatten
  | [], [], i, _, _ => rfl
  | p :: ps, q :: qs, i, hl, h => by
    have h0 := h 0 (by simp) (by simp)
    rw [Nat.add_zero] at h0
    simp only [List.getElem_cons_zero] at h0
    have ih := unesc_all (e := e) ps qs (i + 1) (by simpa using hl) (fun j h1 h2 => by
      have := h (j + 1) (by simp; omega) (by simp; omega)
      simpa [Nat.add_assoc, Nat.add_comm 1 j] using this)
    unfold unescGo
    rw [h0, ih]
    rfl
theorem unesc_none {e : List UInt8 → Option (List UInt8)} : ∀ (ps : List (List UInt8)) (i j : Nat) (h : j < ps.length), partL e (i + j) ps[j] = none → unescGo e i ps = none
  | p :: ps, i, 0, _, h => by
    rw [Nat.add_zero] at h
    simp only [List.getElem_cons_zero] at h
    unfold unescGo
    rw [h]
  | p :: ps, i, j + 1, hj, h => by
    have ih := unesc_none (e := e) ps (i + 1) j (by simpa using hj) (by
      simpa [Nat.add_assoc, Nat.add_comm 1 j] using h)
    unfold unescGo
    cases partL e i p with
    | none => rfl
    | some t => rw [ih]; rfl

/-- the letters of the escapes, in the order of the delimiters -/
theorem letter_cases (c0 c1 c2 c3 c4 c : UInt8) : (Lib.indexByte [70, 83, 82, 69, 84] c = -1 ∧ escL c0 c1 c2 c3 c4 [c] = none) ∨ ∃ m : Nat, m < 5 ∧ Lib.indexByte [70, 83, 82, 69, 84] c = m ∧ escL c0 c1 c2 c3 c4 [c] = some [[c0, c1, c2, c3, c4].getD m 0] := by
  unfold escL
  by_cases h1 : c = 70
  · subst h1; exact .inr ⟨0, by decide, by decide, by simp⟩
  by_cases h2 : c = 83
  · subst h2; exact .inr ⟨1, by decide, by decide, by simp⟩
  by_cases h3 : c = 82
  · subst h3; exact .inr ⟨2, by decide, by decide, by simp⟩
  by_cases h4 : c = 69
  · subst h4; exact .inr ⟨3, by decide, by decide, by simp⟩
  by_cases h5 : c = 84
  · subst h5; exact .inr ⟨4, by decide, by decide, by simp⟩
  left
  refine ⟨?_, by simp [h1, h2, h3, h4, h5]⟩
  rcases indexByte_parts c [70, 83, 82, 69, 84] with ⟨h, _⟩ | ⟨i, _, hi, e, _⟩
  · exact h
  · exfalso
    have hc : c ∈ ([70, 83, 82, 69, 84] : List UInt8) := by rw [e]; simp
    simp only [List.mem_cons, List.not_mem_nil, or_false] at hc
    rcases hc with h | h | h | h | h
    · exact h1 h
    · exact h2 h
    · exact h3 h
    · exact h4 h
    · exact h5 h
theorem escL_long (c0 c1 c2 c3 c4 : UInt8) (p : List UInt8) (h : p.length ≠ 1) : escL c0 c1 c2 c3 c4 p = none := by
  unfold escL
  have t : ∀ x : UInt8, p ≠ [x] := fun x e => h (by rw [e]; rfl)
  rw [if_neg (t _), if_neg (t _), if_neg (t _), if_neg (t _), if_neg (t _)]
theorem getD_at (d : ByteArray) (hd : d.size = 5) (m : Nat) (h : m < 5) (h2 : m < d.size) : [d[0], d[1], d[2], d[3], d[4]].getD m 0 = d[m]'h2 := by
  match m, h with
  | 0, _ => rfl
  | 1, _ => rfl
  | 2, _ => rfl
  | 3, _ => rfl
  | 4, _ => rfl

/-- the pieces at block g: those before i are read, the others as they were -/
structure Half (e : List UInt8 → Option (List UInt8)) (ps qs : List (List UInt8)) (i g : Nat) (w : World) : Prop where
  len : qs.length = ps.length
  cell : ∀ j (h : j < qs.length), w.cell? ⟨g, j, none⟩ = some (.string (txt qs[j])) ∧ w.frozen? ⟨g, j, none⟩ = false
  old : ∀ j (h : j < ps.length) (h2 : j < qs.length), (j % 2 = 0 ∨ i ≤ j) → qs[j] = ps[j]
  done : ∀ j (h : j < ps.length) (h2 : j < qs.length), j % 2 = 1 → j < i → e ps[j] = some qs[j]
  size : g < w.heap.size
theorem Half.put {e : List UInt8 → Option (List UInt8)} {ps qs : List (List UInt8)} {i g : Nat} {w : World} (h : Half e ps qs i g w) (hi : i < ps.length) (ho : i % 2 = 1) {t : List UInt8} (ht : e ps[i] = some t) :
    Half e ps (qs.set i t) (i + 2) g (w.setCell ⟨g, i, none⟩ (.string (txt t))) := by
  have hl := h.len
  refine ⟨by simpa using hl, fun j hj => ?_, fun j h1 h2 h3 => ?_, fun j h1 h2 h3 h4 => ?_, by rw [Deep.nblk_setCell]; exact h.size⟩
  · have hj' : j < qs.length := by simpa using hj
    obtain ⟨c1, c2⟩ := h.cell j hj'
    by_cases e1 : j = i
    · subst e1
      rw [List.getElem_set_self]
      exact ⟨World.cell?_setCell_same _ _ _ c1, by rw [World.frozen?_setCell]; exact c2⟩
    · rw [List.getElem_set_ne (by omega), World.cell?_setCell_other _ _ _ _ (by first | (simp; done) | (simp; omega)), World.frozen?_setCell]
      exact ⟨c1, c2⟩
  · have hj' : j < qs.length := by simpa using h2
    have hne : i ≠ j := by rcases h3 with h3 | h3 <;> omega
    rw [List.getElem_set_ne hne]
    exact h.old j h1 hj' (by rcases h3 with h3 | h3; exact .inl h3; exact .inr (by omega))
  · have hj' : j < qs.length := by simpa using h2
    by_cases e1 : j = i
    · subst e1; rw [List.getElem_set_self]; exact ht
    · rw [List.getElem_set_ne (by omega)]
      exact h.done j h1 hj' h3 (by omega)
theorem join_flat (xs : List (List UInt8)) : Lib.join xs [] = xs.flatten := by
  cases xs with
  | nil => rfl
  | cons x r =>
    rw [Lib.join_cons]
    unfold Lib.joinTail
    have : (r.map (([] : List UInt8) ++ ·)) = r := by simp
    rw [this]
    rfl
theorem flat_bound (B : Nat) : ∀ xs : List (List UInt8), (∀ x ∈ xs, x.length ≤ B) → xs.flatten.length ≤ xs.length * B
  | [], _ => by simp
  | x :: xs, h => by
    have h1 := h x (by simp)
    have h2 := flat_bound B xs (fun y hy => h y (by simp [hy]))
    rw [List.flatten_cons, List.length_append, List.length_cons, Nat.add_mul]
    omega

set_option maxRecDepth 100000 in
set_option maxHeartbeats 4000000 in
theorem without_any (s d : ByteArray) (w : World) (hs : s.size ≤ 40000) (hd : d.size = 5) (hm : Mx w) :
    Calls Tryd.prog 52 #[.string s, .string d] w fun e w' => e = .returned (.tuple #[.string (txt ((plainL d[0] d[1] d[2] d[3] d[4] s.data.toList).getD [])), .bool (plainL d[0] d[1] d[2] d[3] d[4] s.data.toList).isSome]) ∧ Below w.heap.size w w' := by
  have hd3 : (3 : Int) < (d.size : Int) := by omega
  have hpos := cutL_pos d[3] s.data.toList
  have hlen : (cutL d[3] s.data.toList).length ≤ 40001 := by have := cutL_len d[3] s.data.toList; simp at this; omega
  have HSZ : Hid (∀ p ∈ cutL d[3] s.data.toList, p.length ≤ 40000) := fun p hp => by have := cutL_sz d[3] s.data.toList p hp; simp at this; omega
  have HP : Hid (plainL d[0] d[1] d[2] d[3] d[4] s.data.toList = if (cutL d[3] s.data.toList).length % 2 = 0 then none else unescGo (escL d[0] d[1] d[2] d[3] d[4]) 0 (cutL d[3] s.data.toList)) := rfl
  obtain ⟨ps, hps⟩ : ∃ ps, cutL d[3] s.data.toList = ps := ⟨_, rfl⟩
  have HPS := hide hps
  rw [hps] at hpos hlen HSZ HP
  clear hps
  have HM := hide hm
  go_enter Tryd.func52, Tryd.ntmps52
  go_wp2_with fail
  refine (implCut_any s d[3] _ (by omega) hm).mono ?_
  rintro e Wb ⟨u, rfl, hu, hb1⟩
  rw [HPS.out] at hu
  obtain ⟨g, cap, rfl, hg, hgl, hcap, hcm, hcell⟩ := pieces_form hu hpos
  have HC := hide hcell
  have HB1 := hide hb1
  have HMB := hide (hm.kept hb1)
  clear hu hcell hb1 hm
  by_cases hev : ps.length % 2 = 0
  · have hev' : ((ps.length : Int) % 2 == 0) = true := by rw [beq_iff_eq]; omega
    have HX : Hid (plainL d[0] d[1] d[2] d[3] d[4] s.data.toList = none) := by rw [HP.out, if_pos hev]; trivial
    clear hev
    go_wp2_with fail
    go_ret2
    exact ⟨ret_none HX.out, HB1.out⟩
  · have hev' : ((ps.length : Int) % 2 == 0) = false := by rw [beq_eq_false_iff_ne]; omega
    have HX : Hid (plainL d[0] d[1] d[2] d[3] d[4] s.data.toList = unescGo (escL d[0] d[1] d[2] d[3] d[4]) 0 ps) := by rw [HP.out, if_neg hev]; trivial
    have HODD := hide hev
    clear hev
    go_wp2_with fail
    clear hev'
    go_loopg [7] ps.length (fun n i wr => ∃ (k : Nat) (qs : List (List UInt8)), k ≤ ps.length + 1 ∧ n = ps.length + 1 - k ∧ k % 2 = 1 ∧ i = .int .i64 k ∧ Half (escL d[0] d[1] d[2] d[3] d[4]) ps qs k g wr ∧ (∀ q ∈ qs, q.length ≤ 40000) ∧ Below w.heap.size w wr)
    case atStart => exact ⟨1, ps, by omega, by omega, rfl, rfl, ⟨rfl, HC.out, fun _ _ _ _ => rfl, fun j _ _ h1 h2 => absurd h2 (by omega), hgl⟩, HSZ.out, HB1.out⟩
    case round =>
      obtain ⟨k, qs, hk, rfl, hko, rfl, hH, hqz, hb⟩ := hrel
      obtain ⟨W1, rfl⟩ : ∃ x, x = wr := ⟨_, rfl⟩
      have HH := hide hH
      have HQ := hide hqz
      have HB := hide hb
      have HKO := hide hko
      have hp0 : 0 < w.heap.size := HM.out.pos
      have HM1 := hide (HM.out.kept hb)
      clear hH hqz hb hko
      by_cases hlt : k < ps.length
      · have hl := HH.out.len
        have HLQ := hide hl
        have hkq : k < qs.length := by omega
        clear hl
        have hc1 := (HH.out.cell k hkq).1
        have hf1 := (HH.out.cell k hkq).2
        have hqk : qs[k] = ps[k] := HH.out.old k hlt hkq (.inr (Nat.le_refl _))
        rw [hqk] at hc1
        have hpz := HSZ.out ps[k] (List.getElem_mem hlt)
        have HTS := hide (txt_size ps[k])
        have hki : (k : Int) < (ps.length : Int) := by omega
        have hgl1 := HH.out.size
        have HNO : Hid (escL d[0] d[1] d[2] d[3] d[4] ps[k] = none → plainL d[0] d[1] d[2] d[3] d[4] s.data.toList = none) := fun h => by
          rw [HX.out]
          refine unesc_none ps 0 k hlt ?_
          rw [Nat.zero_add]
          unfold partL
          rw [if_neg (by have := HKO.out; omega)]
          exact h
        obtain ⟨m1, hm1⟩ := HM1.out
        by_cases hp1 : ps[k].length = 1
        · obtain ⟨c, hc⟩ : ∃ c, ps[k] = [c] := List.length_eq_one_iff.1 hp1
          have hsz1 : ((txt ps[k]).size : Int) = 1 := by rw [txt_size, hp1]; rfl
          have hsz1' : (((txt ps[k]).size : Int) != 1) = false := by rw [hsz1]; rfl
          have HIX : Hid (Lib.index ({ data := #[70, 83, 82, 69, 84] } : ByteArray).data.toList (txt ps[k]).data.toList = Lib.indexByte [70, 83, 82, 69, 84] c) := by
            rw [txt_data, hc, Lib.index_one]; trivial
          rcases letter_cases d[0] d[1] d[2] d[3] d[4] c with ⟨hx, he⟩ | ⟨m, hm5, hx, he⟩
          · have HXX := hide (HNO.out (by rw [hc]; exact he))
            have HI2 : Hid (Lib.index ({ data := #[70, 83, 82, 69, 84] } : ByteArray).data.toList (txt ps[k]).data.toList = -1) := by rw [HIX.out]; exact hx
            clear hx he hc hp1 hqk hsz1
            go_wp2_with fail
            refine (Tryd.strings_Index _ _ m1 _ (by decide) hm1).mono ?_
            rintro e w2 ⟨rfl, rfl⟩
            rw [HI2.out]
            go_wp2_with fail
            go_ret2
            exact ⟨ret_none HXX.out, HB.out⟩
          · have HI2 : Hid (Lib.index ({ data := #[70, 83, 82, 69, 84] } : ByteArray).data.toList (txt ps[k]).data.toList = m) := by rw [HIX.out]; exact hx
            have hmd : m < d.size := by rw [hd]; exact hm5
            have HT : Hid (escL d[0] d[1] d[2] d[3] d[4] ps[k] = some [d[m]'hmd]) := by rw [hc, he, getD_at d hd m hm5 hmd]; trivial
            have HPUT := hide (HH.out.put hlt HKO.out HT.out)
            have HEX := hide (txt_one d m hmd)
            have hmi : (0 : Int) ≤ (m : Int) := by omega
            have hmi0 : ¬ (m : Int) < 0 := by omega
            have hmi1 : (m : Int) + 1 ≤ (d.size : Int) := by omega
            have hmi2 : (m : Int) ≤ (m : Int) + 1 := by omega
            have hmi3 : (m : Int) + 1 ≤ 5 := by omega
            have hmi4 : (m : Int) < 5 := by omega
            have hmi5 : (0 : Int) ≤ (m : Int) + 1 := by omega
            have hmi6 : ((m : Int) + 1).toNat = m + 1 := by omega
            have hmi7 : (m : Int) < (d.size : Int) := by omega
            have hmi8 : m + 1 ≤ 5 := by omega
            have hmi9 : m + 1 ≤ d.size := by omega
            have HQ2 : Hid (∀ q ∈ qs.set k [d[m]'hmd], q.length ≤ 40000) := fun q hq => by
              rcases List.mem_or_eq_of_mem_set hq with h | h
              · exact HQ.out q h
              · rw [h]; simp
            have HBS : Hid (Below w.heap.size w (W1.setCell ⟨g, k, none⟩ (.string (d.extract m (m + 1))))) := HB.out.setCell (by exact hg) _
            clear hx he hc hp1 hqk hsz1
            go_wp2_with fail
            refine (Tryd.strings_Index _ _ m1 _ (by decide) hm1).mono ?_
            rintro e w2 ⟨rfl, rfl⟩
            rw [HI2.out]
            go_wp2_with fail
            go_roundg (ps.length + 1 - (k + 2))
            case measure => omega
            case rel => exact ⟨k + 2, qs.set k [d[m]'hmd], by omega, rfl, by have := HKO.out; omega, by go_num, by rw [HEX.out]; exact HPUT.out, HQ2.out, HBS.out⟩
        · have HXX := hide (HNO.out (escL_long _ _ _ _ _ _ hp1))
          have hsz1 : ¬ ((txt ps[k]).size : Int) = 1 := by have := HTS.out; omega
          have hsz1' : (((txt ps[k]).size : Int) != 1) = true := by rw [bne_iff_ne]; exact hsz1
          clear hp1 hqk
          go_wp2_with fail
          refine (Tryd.strings_Index _ _ m1 _ (by decide) hm1).mono ?_
          rintro e w2 ⟨rfl, rfl⟩
          generalize Lib.index ({ data := #[70, 83, 82, 69, 84] } : ByteArray).data.toList (txt ps[k]).data.toList = z at *
          go_wp2_with fail
          go_ret2
          exact ⟨ret_none HXX.out, HB.out⟩
      · have HLQ := hide HH.out.len
        have hqp : qs.length = ps.length := HH.out.len
        have HFIN : Hid (plainL d[0] d[1] d[2] d[3] d[4] s.data.toList = some qs.flatten) := by
          rw [HX.out]
          refine unesc_all ps qs 0 hqp fun j h1 h2 => ?_
          rw [Nat.zero_add]
          unfold partL
          by_cases hj : j % 2 = 0
          · rw [if_pos hj, HH.out.old j h1 h2 (.inl hj)]
          · rw [if_neg hj]
            exact HH.out.done j h1 h2 (by omega) (by omega)
        have hbd := flat_bound 40000 qs HQ.out
        have HJ : Hid (Lib.join ((qs.map txt).map (·.data.toList)) (⟨#[]⟩ : ByteArray).data.toList = qs.flatten) := by
          have h1 : (qs.map txt).map (·.data.toList) = qs := by
            rw [List.map_map]
            conv => rhs; rw [← List.map_id qs]
            exact List.map_congr_left fun x _ => txt_data x
          rw [h1]; exact join_flat qs
        have hqn : (qs.map txt).length = ps.length := by rw [List.length_map]; exact hqp
        have HCALL : Hid (Calls Tryd.prog 70 #[.slice (some ⟨g, 0, none⟩) ps.length cap, .string ⟨#[]⟩] W1 fun e w' => e = .returned (.string (txt qs.flatten)) ∧ Below W1.heap.size W1 w') := by
          have h := Tryd.strings_Join g 0 cap (qs.map txt) ⟨#[]⟩ W1 (fun j x hx => by
            rw [List.getElem?_map] at hx
            have hj : j < qs.length := by
              by_cases h : j < qs.length
              · exact h
              · rw [List.getElem?_eq_none (by omega)] at hx; cases hx
            rw [List.getElem?_eq_getElem hj] at hx
            injection hx with hx
            rw [Nat.zero_add, ← hx]
            exact (HH.out.cell j hj).1) HH.out.size (by omega) (by omega) (by rw [HJ.out]; have : qs.length * 40000 ≤ 40001 * 40000 := Nat.mul_le_mul_right _ (by omega); omega)
          rw [hqn, HJ.out] at h
          exact h
        clear hbd hqn hqp
        go_wp2_with fail
        refine HCALL.out.mono ?_
        rintro e w2 ⟨rfl, hb2⟩
        go_wp2_with fail
        go_ret2
        exact ⟨ret_some HFIN.out, bjoin' hb2 HB.out⟩
end Go.Proofs.YtcphfhfockjljaaDoor.Msg

namespace Go.Proofs.YtcphfhfockjljaaDoor.Msg
open Go.ChangeShapes Go.WideShapes Go.ChangeAt Go.RowKit
set_option linter.unusedVariables false
set_option linter.unusedSimpArgs false

theorem Mx.only {w w' : World} (h : Mx w) {bs : List Nat} (ho : Only bs w w') (h0 : 0 ∉ bs) : Mx w' := by
  have hp := h.pos
  obtain ⟨m, hm⟩ := h
  exact ⟨m, by rw [cellSame (ho.block 0 hp h0)]; exact hm⟩
theorem only_cell {bs : List Nat} {w w' : World} (ho : Only bs w w') {b o : Nat} (h1 : b < w.heap.size) (h2 : b ∉ bs) : w'.cell? ⟨b, o, none⟩ = w.cell? ⟨b, o, none⟩ := cellSame (ho.block b h1 h2)
theorem form_reps {w : World} {v : Value} {xs : List Rep} {bs : List Nat} (h : OReps w v xs bs) : ∃ a c, v = .slice a xs.length c := by
  obtain ⟨a, c, e, _⟩ := (OAt.toAt toAt_rep h (lo := 0) (fun _ _ => Nat.zero_le _)).form
  exact ⟨a, c, e⟩
theorem form_strs {w : World} {v : Value} {xs : List ByteArray} {bs : List Nat} (h : OStrs w v xs bs) : ∃ a c, v = .slice a xs.length c := by
  obtain ⟨a, c, e, _⟩ := (OAt.toAt toAt_str h (lo := 0) (fun _ _ => Nat.zero_le _)).form
  exact ⟨a, c, e⟩
theorem form_fields {w : World} {v : Value} {xs : List Field} {bs : List Nat} (h : OFields w v xs bs) : ∃ a c, v = .slice a xs.length c := by
  obtain ⟨a, c, e, _⟩ := (OAt.toAt toAt_field h (lo := 0) (fun _ _ => Nat.zero_le _)).form
  exact ⟨a, c, e⟩

set_option maxRecDepth 100000 in
set_option maxHeartbeats 8000000 in
theorem readEscapes_any (name : ByteArray) (xs : List Field) (v : Value) (bs : List Nat) (d : ByteArray) (w : World) (hd : d.size = 5) (hv : OFields w v xs bs) (hnd : bs.Nodup) (h0 : 0 ∉ bs) (hm : Mx w) (hz : ∀ f ∈ xs, ∀ r ∈ f, ∀ c ∈ r, c.size ≤ 40000) (hll : xs.length ≤ 1048576) (hl2 : ∀ f ∈ xs, f.length ≤ 1048576) (hl3 : ∀ f ∈ xs, ∀ r ∈ f, r.length ≤ 1048576) :
    Calls Tryd.prog 38 #[.agg #[.string name, v], .string d] w fun e w' => e = .returned (.bool (allO (allO (allO (plainO d hd))) xs).isSome) ∧ Only bs w w' ∧ ∀ ys, allO (allO (allO (plainO d hd))) xs = some ys → OFields w' v ys bs := by
  obtain ⟨a, c, rfl⟩ := form_fields hv
  have HZ := hide hz
  have HL2 := hide hl2
  have HL3 := hide hl3
  have HND := hide hnd
  have H0 := hide h0
  have hb0 := (Below.refl w.heap.size w).alloc (Nat.le_refl _) (Obj.cells #[.string name, .slice a xs.length c] 44)
  have HON := hide (Only.of_below (bs := bs) hb0)
  have HV := hide (OAt.kept keptO_field hv hb0.size (fun e he => hb0.block e (OAt.lt ltO_field hv e he)))
  have HM := hide hm
  have HPD : Hid (∀ t, plainO d hd t = (plainL d[0] d[1] d[2] d[3] d[4] t.data.toList).map txt) := fun _ => rfl
  clear hz hl2 hl3 hnd h0 hv hm hb0
  go_enter Tryd.func38, Tryd.ntmps38
  go_wp2_with fail
  go_loopg [16] xs.length (fun n i wr => ∃ (k : Nat) (ys : List Field), k ≤ xs.length ∧ n = xs.length - k ∧ i = .int .i64 k ∧ ys.length = k ∧ allO (allO (allO (plainO d hd))) xs = (allO (allO (allO (plainO d hd))) (xs.drop k)).map (ys ++ ·) ∧ OFields wr (.slice a xs.length c) (ys ++ xs.drop k) bs ∧ Only bs w wr)
  case atStart => exact ⟨0, [], Nat.zero_le _, by simp, rfl, rfl, by simp, by show OFields _ _ (xs.drop 0) _; rw [List.drop_zero]; exact HV.out, HON.out⟩
  case round =>
    obtain ⟨k, ys, hk, rfl, rfl, hyl, hE, hO, ho⟩ := hrel
    obtain ⟨W1, rfl⟩ : ∃ x, x = wr := ⟨_, rfl⟩
    have HYL := hide hyl
    have HE := hide hE
    have HO := hide hO
    have HOW := hide ho
    clear hyl hE hO ho
    by_cases hlt : k < xs.length
    · obtain ⟨b, off, cap, ve, bs1, hvf, hbl, hbn, hsub, hnd1, hce, hOe, hup⟩ := list_upd (O := OReps) (fun _ _ _ _ _ h s d => OAt.kept keptO_rep h s d) (fun _ _ _ _ h => OAt.lt ltO_rep h) HO.out HND.out (i := k) (by rw [len_mid ys xs k (by omega) HYL.out]; exact hlt)
      rw [len_mid ys xs k (by omega) HYL.out] at hvf
      injection hvf with hva _ hvc
      subst hva hvc
      rw [at_mid ys xs k hlt HYL.out] at hOe
      obtain ⟨f, hf⟩ : ∃ f, xs[k] = f := ⟨_, rfl⟩
      have HF := hide hf
      rw [hf] at hOe
      have hfm : f ∈ xs := by rw [← hf]; exact List.getElem_mem hlt
      obtain ⟨a2, c2, rfl⟩ := form_reps hOe
      have hfl := HL2.out f hfm
      have HUP := hide hup
      have HSUB := hide hsub
      have HND1 := hide hnd1
      have HOE := hide hOe
      have HFM := hide hfm
      have hbW : Below W1.heap.size W1 (W1.alloc (Obj.cells #[.slice a2 f.length c2] 47)) := (Below.refl _ _).alloc (Nat.le_refl _) _
      have HO1 := hide (Only.of_below (bs := bs1) hbW)
      have HV1 := hide (OAt.kept keptO_rep hOe hbW.size (fun e he => hbW.block e (OAt.lt ltO_rep hOe e he)))
      clear hup hsub hnd1 hOe hfm hf hbW
      go_wp2_with fail
      go_loopg [23] f.length (fun n i wr => ∃ (q : Nat) (zs : List Rep), q ≤ f.length ∧ n = f.length - q ∧ i = .int .i64 q ∧ zs.length = q ∧ allO (allO (plainO d hd)) f = (allO (allO (plainO d hd)) (f.drop q)).map (zs ++ ·) ∧ OReps wr (.slice a2 f.length c2) (zs ++ f.drop q) bs1 ∧ Only bs1 W1 wr)
      case atStart => exact ⟨0, [], Nat.zero_le _, by simp, rfl, rfl, by simp, by show OReps _ _ (f.drop 0) _; rw [List.drop_zero]; exact HV1.out, HO1.out⟩
      case round =>
        obtain ⟨q, zs, hq, rfl, rfl, hzl, hE2, hO2, ho2⟩ := hrel
        obtain ⟨W2, rfl⟩ : ∃ x, x = wr := ⟨_, rfl⟩
        have HZL := hide hzl
        have HE2 := hide hE2
        have HO2 := hide hO2
        have HOW2 := hide ho2
        clear hzl hE2 hO2 ho2
        by_cases hq2 : q < f.length
        · obtain ⟨b2, off2, cap2, vr, bs2, hvf2, hbl2, hbn2, hsub2, hnd2, hcr, hOr, hup2⟩ := list_upd (O := OStrs) (fun _ _ _ _ _ h s d => OAt.kept keptO_str h s d) (fun _ _ _ _ h => OAt.lt ltO_str h) HO2.out HND1.out (i := q) (by rw [len_mid zs f q (by omega) HZL.out]; exact hq2)
          rw [len_mid zs f q (by omega) HZL.out] at hvf2
          injection hvf2 with hva2 _ hvc2
          subst hva2 hvc2
          rw [at_mid zs f q hq2 HZL.out] at hOr
          obtain ⟨r, hr⟩ : ∃ r, f[q] = r := ⟨_, rfl⟩
          have HR := hide hr
          rw [hr] at hOr
          have hrm : r ∈ f := by rw [← hr]; exact List.getElem_mem hq2
          obtain ⟨a3, c3, rfl⟩ := form_strs hOr
          have hrl := HL3.out f HFM.out r hrm
          have HRZ := hide (HZ.out f HFM.out r hrm)
          have HUP2 := hide hup2
          have HSUB2 := hide hsub2
          have HLT2 := hide (OAt.lt ltO_str hOr)
          have hbW2 : Below W2.heap.size W2 (W2.alloc (Obj.cells #[.slice a3 r.length c3] 50)) := (Below.refl _ _).alloc (Nat.le_refl _) _
          have HO3 := hide (Only.of_below (bs := bs2) hbW2)
          have HV2 := hide (OAt.kept keptO_str hOr hbW2.size (fun e he => hbW2.block e (OAt.lt ltO_str hOr e he)))
          have HBX : Hid (∀ wX, Only bs2 (W2.alloc (Obj.cells #[.slice a3 r.length c3] 50)) wX → wX.cell? ⟨W2.heap.size, 0, none⟩ = some (.slice a3 r.length c3)) := fun wX h => by
            rw [only_cell h (by simp) (fun hm => by have := HLT2.out _ hm; omega)]; simp
          clear hup2 hsub2 hnd2 hOr hrm hr hbW2
          go_wp2_with fail
          go_loopg [30] r.length (fun n i wr => ∃ (p : Nat) (ts : List ByteArray), p ≤ r.length ∧ n = r.length - p ∧ i = .int .i64 p ∧ ts.length = p ∧ allO (plainO d hd) r = (allO (plainO d hd) (r.drop p)).map (ts ++ ·) ∧ OStrs wr (.slice a3 r.length c3) (ts ++ r.drop p) bs2 ∧ Only bs2 (W2.alloc (Obj.cells #[.slice a3 r.length c3] 50)) wr)
          case atStart => exact ⟨0, [], Nat.zero_le _, by simp, rfl, rfl, by simp, by show OStrs _ _ (r.drop 0) _; rw [List.drop_zero]; exact HV2.out, Only.refl _ _⟩
          case round =>
            obtain ⟨p, ts, hp, rfl, rfl, htl, hE3, hO3, ho3⟩ := hrel
            obtain ⟨W3, rfl⟩ : ∃ x, x = wr := ⟨_, rfl⟩
            have HTL := hide htl
            have HE3 := hide hE3
            have HO3' := hide hO3
            have HOW3 := hide ho3
            have HALL : Hid (Only bs w W3) := (HOW.out.trans (HOW2.out.mono HSUB.out)).trans ((HO3.out.mono (fun e he => HSUB.out e (HSUB2.out e he))).trans (ho3.mono (fun e he => HSUB.out e (HSUB2.out e he))))
            clear htl hE3 hO3 ho3
            by_cases hp2 : p < r.length
            · have hlm : (ts ++ r.drop p).length = r.length := len_mid ts r p (by omega) HTL.out
              obtain ⟨b3, off3, cap3, hvf3, hbl3, hbm3, hc3, hf3, hput⟩ := strs_upd HO3'.out (i := p) (by rw [hlm]; exact hp2)
              rw [hlm] at hvf3
              injection hvf3 with hva3 _ hvc3
              subst hva3 hvc3
              rw [at_mid ts r p hp2 HTL.out] at hc3
              have HPUT := hide hput
              have hrz := HRZ.out r[p] (List.getElem_mem hp2)
              have hbx3 := HBX.out _ HOW3.out
              have hbs3 : W2.heap.size < W3.heap.size := by have := HOW3.out.size; simp at this; omega
              have HM3 := hide (HM.out.only HALL.out H0.out)
              have hpi : (p : Int) < (r.length : Int) := by omega
              clear hlm hput
              go_wp2_with fail
              refine (without_any r[p] d _ hrz hd HM3.out).mono ?_
              rintro e W4 ⟨rfl, hb4⟩
              have HALL4 := hide (HALL.out.trans (Only.of_below (bs := bs) hb4))
              cases hpl : plainL d[0] d[1] d[2] d[3] d[4] r[p].data.toList with
              | none =>
                have HN3 : Hid (plainO d hd r[p] = none) := by rw [HPD.out, hpl]; rfl
                have HN2 : Hid (allO (plainO d hd) f[q] = none) := by rw [HR.out]; exact allO_fail hp2 HE3.out HN3.out
                have HN1 : Hid (allO (allO (plainO d hd)) xs[k] = none) := by rw [HF.out]; exact allO_fail hq2 HE2.out HN2.out
                have HN0 : Hid (allO (allO (allO (plainO d hd))) xs = none) := allO_fail hlt HE.out HN1.out
                clear hpl
                simp only [Option.getD_none, Option.isSome_none]
                go_wp2_with fail
                go_ret
                exact ⟨ret_bool (by rw [HN0.out]; rfl), HALL4.out, fun ys h => (by rw [HN0.out] at h; cases h)⟩
              | some t =>
                have htl : t.length ≤ 40000 := by have := plainL_len hpl; simp at this; omega
                have HN3 : Hid (plainO d hd r[p] = some (txt t)) := by rw [HPD.out, hpl]; rfl
                have HST := hide (allO_step hp2 HE3.out HN3.out)
                have hc4 : W4.cell? ⟨b3, off3 + p, none⟩ = some (.string r[p]) := by rw [hb4.cell (p := ⟨b3, off3 + p, none⟩) hbl3]; exact hc3
                have hf4 : W4.frozen? ⟨b3, off3 + p, none⟩ = false := by rw [hb4.frozen (p := ⟨b3, off3 + p, none⟩) hbl3]; exact hf3
                have hbx4 : W4.cell? ⟨W2.heap.size, 0, none⟩ = some (.slice (some ⟨b3, off3, none⟩) r.length c3) := by rw [hb4.cell (p := ⟨W2.heap.size, 0, none⟩) hbs3]; exact hbx3
                have HPP := hide (HPUT.out W4 (txt t) (by rw [txt_size]; omega) hb4)
                have HSM := hide (set_mid ts r p hp2 HTL.out (txt t))
                clear hpl hb4 hc3 hf3 hbx3
                simp only [Option.getD_some, Option.isSome_some]
                go_wp2_with fail
                go_roundg (r.length - (p + 1))
                case measure => omega
                case rel => exact ⟨p + 1, ts ++ [txt t], by omega, rfl, by go_num, by rw [List.length_append, List.length_singleton, HTL.out], HST.out, by rw [← HSM.out]; exact HPP.out.1, HOW3.out.trans HPP.out.2⟩
            · have HAL : Hid (allO (plainO d hd) f[q] = some ts) := by rw [HR.out]; exact allO_done (by omega) HE3.out
              have HST2 := hide (allO_step hq2 HE2.out HAL.out)
              have HTS : Hid (OStrs W3 (.slice a3 r.length c3) ts bs2) := by
                have := HO3'.out
                rwa [List.drop_eq_nil_of_le (by omega), List.append_nil] at this
              have HON3 := hide (HO3.out.trans HOW3.out)
              have HNEW := hide (HUP2.out W3 ts HON3.out HTS.out)
              have HSM := hide (set_mid zs f q hq2 HZL.out ts)
              go_wp2_with fail
              go_roundg (f.length - (q + 1))
              case measure => omega
              case rel => exact ⟨q + 1, zs ++ [ts], by omega, rfl, by go_num, by rw [List.length_append, List.length_singleton, HZL.out], HST2.out, by rw [← HSM.out]; exact HNEW.out, HOW2.out.trans (HON3.out.mono HSUB2.out)⟩
        · have HAL : Hid (allO (allO (plainO d hd)) xs[k] = some zs) := by rw [HF.out]; exact allO_done (by omega) HE2.out
          have HST1 := hide (allO_step hlt HE.out HAL.out)
          have HZS : Hid (OReps W2 (.slice a2 f.length c2) zs bs1) := by
            have := HO2.out
            rwa [List.drop_eq_nil_of_le (by omega), List.append_nil] at this
          have HNEW := hide (HUP.out W2 zs HOW2.out HZS.out)
          have HSM := hide (set_mid ys xs k hlt HYL.out zs)
          go_wp2_with fail
          go_roundg (xs.length - (k + 1))
          case measure => omega
          case rel => exact ⟨k + 1, ys ++ [zs], by omega, rfl, by go_num, by rw [List.length_append, List.length_singleton, HYL.out], HST1.out, by rw [← HSM.out]; exact HNEW.out, HOW.out.trans (HOW2.out.mono HSUB.out)⟩
    · have HAL : Hid (allO (allO (allO (plainO d hd))) xs = some ys) := allO_done (by omega) HE.out
      have HFN : Hid (∀ zs, allO (allO (allO (plainO d hd))) xs = some zs → OFields W1 (.slice a xs.length c) zs bs) := fun zs h => by
        rw [HAL.out] at h
        injection h with h
        subst h
        have := HO.out
        rwa [List.drop_eq_nil_of_le (by omega), List.append_nil] at this
      go_wp2_with fail
      go_ret
      exact ⟨ret_bool (by rw [HAL.out]; rfl), HOW.out, HFN.out⟩
end Go.Proofs.YtcphfhfockjljaaDoor.Msg

namespace Go.Proofs.YtcphfhfockjljaaDoor.Msg
open Go.ChangeShapes Go.WideShapes Go.ChangeAt Go.RowKit
set_option linter.unusedVariables false
set_option linter.unusedSimpArgs false

/-- what the first piece of a text in order is -/
def HeadP (d : ByteArray) (hd : d.size = 5) (p : List UInt8) : Prop := 8 ≤ p.length ∧ p.take 3 = [77, 83, 72] ∧ (p.drop 8).head?.any (fun c => c != d[0]) = false

def SegPost (w : World) (X : Except Nat Seg) (e : Ending) (w' : World) : Prop :=
  ∃ nm u c, e = .returned (.tuple #[.agg #[.string nm, u], .int .i64 c]) ∧ (∀ n, X = .error n → c = (n : Int)) ∧ (∀ x, X = .ok x → c = 0 ∧ nm = x.name ∧ ∃ bs, OFields w' u x.fields bs ∧ bs.Nodup ∧ ∀ b ∈ bs, w.heap.size ≤ b) ∧ (∃ a n cp, u = .slice a n cp) ∧ Below w.heap.size w w'

theorem start_no {p : List UInt8} {d : ByteArray} {hd : d.size = 5} {i : Nat} (hi : i ≠ 0) (h : startB p d[0] = false) : segL d hd i p = .error 4 := by
  by_cases h4 : p.length < 3 ∨ nameB (txt (p.take 3)) = false ∨ (0 < i ∧ p.take 3 = [77, 83, 72])
  · exact seg_4a h4
  · refine seg_4b h4 ?_
    unfold startB at h
    have h1 : 3 ≤ p.length := by
      by_cases h3 : p.length < 3
      · exact absurd (.inl h3) h4
      · omega
    have h2 : nameB (txt (p.take 3)) = true := by
      cases hn : nameB (txt (p.take 3))
      · exact absurd (.inr (.inl hn)) h4
      · rfl
    have h3 : (p.take 3 == [77, 83, 72]) = false := by
      rw [beq_eq_false_iff_ne]
      exact fun e => h4 (.inr (.inr ⟨by omega, e⟩))
    rw [decide_eq_true h1, h2, h3] at h
    have hr : restL i p = p.drop 3 := by unfold restL; rw [if_neg hi]
    rw [hr]
    simpa using h
theorem start_yes {p : List UInt8} {d : ByteArray} {hd : d.size = 5} {i : Nat} (h0 : i = 0 → HeadP d hd p) (h : (decide (i = 0) || startB p d[0]) = true) :
    ¬ (p.length < 3 ∨ nameB (txt (p.take 3)) = false ∨ (0 < i ∧ p.take 3 = [77, 83, 72])) ∧ (restL i p).head?.any (fun c => c != d[0]) = false := by
  by_cases hi : i = 0
  · obtain ⟨h1, h2, h3⟩ := h0 hi
    refine ⟨fun h4 => ?_, by unfold restL; rw [if_pos hi]; exact h3⟩
    rcases h4 with h4 | h4 | ⟨h4, _⟩
    · omega
    · rw [h2] at h4
      have : nameB (txt [77, 83, 72]) = true := by decide
      rw [this] at h4; cases h4
    · omega
  · rw [decide_eq_false hi, Bool.false_or] at h
    unfold startB at h
    simp only [Bool.and_eq_true, decide_eq_true_eq] at h
    obtain ⟨h1, h2, h3, h4⟩ := h
    have hr : restL i p = p.drop 3 := by unfold restL; rw [if_neg hi]
    refine ⟨fun h5 => ?_, by rw [hr]; simpa using h4⟩
    rcases h5 with h5 | h5 | ⟨_, h5⟩
    · omega
    · rw [h2] at h5; cases h5
    · rw [h5] at h3; simp at h3
theorem seg_err {w w' : World} {X : Except Nat Seg} {n : Nat} {c : Int} {nm : ByteArray} {a : Option Addr} {m cp : Nat} (h : X = .error n) (hc : c = (n : Int)) (hb : Below w.heap.size w w') : SegPost w X (.returned (.tuple #[.agg #[.string nm, .slice a m cp], .int .i64 c])) w' :=
  ⟨nm, _, c, rfl, fun k hk => by rw [h] at hk; injection hk with hk; subst hk; exact hc, fun x hx => (by rw [h] at hx; cases hx), ⟨_, _, _, rfl⟩, hb⟩

set_option maxRecDepth 100000 in
set_option maxHeartbeats 8000000 in
theorem parseSegment_any (p : List UInt8) (i : Nat) (d : ByteArray) (w : World) (hd : d.size = 5) (hp : p.length ≤ 40000) (hpl : ∀ x ∈ p, plainC x = true) (hi : i ≤ 1048576) (h0 : i = 0 → HeadP d hd p) (hm : Mx w) :
    Calls Tryd.prog 21 #[.string (txt p), .int .i64 (i : Int), .string d] w (SegPost w (segL d hd i p)) := by
  have hd0 : (0 : Int) < (d.size : Int) := by omega
  have hb0 := (Below.refl w.heap.size w).alloc (Nat.le_refl _) (Obj.cells #[.string ⟨#[]⟩, .slice none 0 0] 44)
  have HB0 := hide hb0
  have HM := hide hm
  have HPL := hide hpl
  have H0 := hide h0
  have HBOX : Hid (∀ wX, Below (w.heap.size + 1) (w.alloc (Obj.cells #[.string ⟨#[]⟩, .slice none 0 0] 44)) wX → wX.cell? ⟨w.heap.size, 0, none⟩ = some (.string ⟨#[]⟩) ∧ wX.frozen? ⟨w.heap.size, 0, none⟩ = false ∧ wX.cell? ⟨w.heap.size, 1, none⟩ = some (.slice none 0 0) ∧ wX.frozen? ⟨w.heap.size, 1, none⟩ = false ∧ w.heap.size < wX.heap.size ∧ Below w.heap.size w wX) := fun wX h => by
    refine ⟨?_, ?_, ?_, ?_, by have := h.size; simp at this; omega, hb0.trans (h.mono (by omega))⟩
    · rw [h.cell (p := ⟨w.heap.size, 0, none⟩) (by simp)]; simp
    · rw [h.frozen (p := ⟨w.heap.size, 0, none⟩) (by simp)]; simp
    · rw [h.cell (p := ⟨w.heap.size, 1, none⟩) (by simp)]; simp
    · rw [h.frozen (p := ⟨w.heap.size, 1, none⟩) (by simp)]; simp
  have HBR : Hid (Below (w.heap.size + 1) (w.alloc (Obj.cells #[.string ⟨#[]⟩, .slice none 0 0] 44)) (w.alloc (Obj.cells #[.string ⟨#[]⟩, .slice none 0 0] 44))) := Below.refl _ _
  clear hb0 hm hpl h0
  cases hst : (decide (i = 0) || startB p d[0])
  · have HX : Hid (segL d hd i p = .error 4) := by
      have h1 : i ≠ 0 := fun h => by rw [decide_eq_true h] at hst; cases hst
      rw [decide_eq_false h1, Bool.false_or] at hst
      exact start_no h1 hst
    have HST := hide hst
    obtain ⟨hq1, hq2, hq3, hq4, hq5, hq6⟩ := HBOX.out _ HBR.out
    clear hst
    go_enter Tryd.func21, Tryd.ntmps21
    go_wp2_with fail
    refine (starts_any p i d[0] _ hp hi).mono ?_
    rintro e w2 ⟨rfl, rfl⟩
    rw [HST.out]
    go_wp2_with fail
    exact bodyPost_ret (v := .tuple #[.agg #[.string ⟨#[]⟩, .slice none 0 0], .int .i64 4]) (by simp [results, Tryd.results21, go_sem]) rfl (seg_err HX.out rfl hq6)
  · have HST := hide hst
    have HYES := hide (start_yes H0.out hst)
    have hp3 : (3 : Int) ≤ ((txt p).size : Int) := by
      rw [txt_size]
      have := HYES.out.1
      omega
    have HTN := hide (txt_name p)
    clear hst
    go_enter Tryd.func21, Tryd.ntmps21
    go_wp2_with fail
    refine (starts_any p i d[0] _ hp hi).mono ?_
    rintro e w2 ⟨rfl, rfl⟩
    rw [HST.out]
    go_wp2_with fail
    go_quiet (fail)
    obtain ⟨W1, hW1⟩ : ∃ x, x = (w.alloc (Obj.cells #[.string ⟨#[]⟩, .slice none 0 0] 44)).drewN nq := ⟨_, rfl⟩
    have HB1 : Hid (Below (w.heap.size + 1) (w.alloc (Obj.cells #[.string ⟨#[]⟩, .slice none 0 0] 44)) W1) := by rw [hW1]; exact below_drewN HBR.out _
    rw [← hW1]
    clear hW1
    go_upto_if 23 with fail
    go_cut [9] (fun v wx => v = .string (txt (restL i p)) ∧ wx = W1)
    case first =>
      by_cases hi0 : i = 0
      · have hi' : ((i : Int) == 0) = true := by rw [beq_iff_eq]; omega
        have h8 : (8 : Int) ≤ ((txt p).size : Int) := by have := (H0.out hi0).1; rw [txt_size]; omega
        have HRL : Hid ((txt p).extract 8 (txt p).size = txt (restL i p)) := by rw [txt_from]; unfold restL; rw [if_pos hi0]; trivial
        clear hi0
        go_wp2_with fail
        go_meet
        case rel => exact ⟨by rw [HRL.out], rfl⟩
      · have hi' : ((i : Int) == 0) = false := by rw [beq_eq_false_iff_ne]; omega
        have HRL : Hid ((txt p).extract 3 (txt p).size = txt (restL i p)) := by rw [txt_from]; unfold restL; rw [if_neg hi0]; trivial
        clear hi0
        go_wp2_with fail
        go_meet
        case rel => exact ⟨by rw [HRL.out], rfl⟩
    case rest =>
      obtain ⟨rfl, rfl⟩ := hcut
      obtain ⟨W2, rfl⟩ : ∃ x, x = wc := ⟨_, rfl⟩
      have hrz : (txt (restL i p)).size ≤ 40000 := by have := restL_len i p; rw [txt_size]; omega
      have hrm : ∀ x ∈ restL i p, x ∈ p := fun x hx => by
        unfold restL at hx
        split at hx
        · exact List.mem_of_mem_drop hx
        · exact List.mem_of_mem_drop hx
      have HM2 := hide (HM.out.below (B := w.heap.size) HM.out.pos (HBOX.out _ HB1.out).2.2.2.2.2)
      have hs2 : w.heap.size < W2.heap.size := (HBOX.out _ HB1.out).2.2.2.2.1
      have hw0 : 0 < w.heap.size := HM.out.pos
      have HFE : Hid ((fieldsI d[0] d[1] d[2] (restL i p)).map fieldT = fieldsT d hd (restL i p)) := by
        rw [fieldsI_eq _ _ _ _ HYES.out.2]; rfl
      have HIN : Hid (segI ⟨(txt p).extract 0 3, fieldsT d hd (restL i p)⟩ = !longB (fieldsT d hd (restL i p))) := by
        rw [← HFE.out]
        refine segI_cut _ ?_ _ _ _ _ (by rw [txt_size] at hrz; exact hrz) (fun x hx => HPL.out x (hrm x hx))
        rw [HTN.out]
        cases hn : nameB (txt (p.take 3))
        · exact absurd (.inr (.inl hn)) HYES.out.1
        · rfl
      have HSZ := hide (fieldsT_sz d hd (restL i p) (by rw [← txt_size]; omega))
      clear hrm
      go_wp2_with fail
      refine (cutSegment_any ((txt p).extract 0 3) (txt (restL i p)) d _ hrz hd HM2.out).mono ?_
      rintro e W3 ⟨u3, rfl, bs, hO, hnd, hfr, hb3⟩
      rw [txt_data, HFE.out] at hO
      obtain ⟨a3, c3, rfl⟩ := form_fields hO
      have HB3 : Hid (Below (w.heap.size + 1) (w.alloc (Obj.cells #[.string ⟨#[]⟩, .slice none 0 0] 44)) W3) := HB1.out.trans (hb3.mono (by omega))
      have hs3 := hb3.size
      have hbA : Below W3.heap.size W3 (W3.alloc (Obj.cells #[.string ((txt p).extract 0 3), .slice a3 (fieldsT d hd (restL i p)).length c3] 44)) := (Below.refl _ _).alloc (Nat.le_refl _) _
      have HOA := hide (OAt.kept keptO_field hO hbA.size (fun e he => hbA.block e (OAt.lt ltO_field hO e he)))
      have HB4 : Hid (Below (w.heap.size + 1) (w.alloc (Obj.cells #[.string ⟨#[]⟩, .slice none 0 0] 44)) (W3.alloc (Obj.cells #[.string ((txt p).extract 0 3), .slice a3 (fieldsT d hd (restL i p)).length c3] 44))) := HB3.out.trans (hbA.mono (by omega))
      have HND := hide hnd
      have HFR : Hid (∀ b ∈ bs, w.heap.size + 1 ≤ b ∧ b < W3.heap.size) := fun b hb => ⟨by have := hfr b hb; omega, OAt.lt ltO_field hO b hb⟩
      have hns : ((txt p).extract 0 3).size ≤ 9223372036854775807 := by rw [ByteArray.size_extract]; omega
      have hfa : FieldsAt W2.heap.size (W3.alloc (Obj.cells #[.string ((txt p).extract 0 3), .slice a3 (fieldsT d hd (restL i p)).length c3] 44)) (.slice a3 (fieldsT d hd (restL i p)).length c3) (fieldsT d hd (restL i p)) := OAt.toAt toAt_field HOA.out hfr
      clear hO hnd hfr hb3 hbA
      by_cases h250 : (250 : Int) ≤ (i : Int)
      · have HX5 := hide (seg_5 (d := d) (hd := hd) (i := i) (p := p) HYES.out.1 HYES.out.2 (.inl (by omega)))
        obtain ⟨hq1, hq2, hq3, hq4, hq5, hq6⟩ := HBOX.out _ HB3.out
        have HBF : Hid (∀ x y o, Below w.heap.size w (((W3.setCell ⟨w.heap.size, 0, none⟩ x).setCell ⟨w.heap.size, 1, none⟩ y).alloc o)) := fun x y o => ((hq6.setCell (p := ⟨w.heap.size, 0, none⟩) (by simp) x).setCell (p := ⟨w.heap.size, 1, none⟩) (by simp) y).alloc (by rw [Deep.nblk_setCell, Deep.nblk_setCell]; omega) o
        go_wp2_with fail
        exact bodyPost_ret (v := .tuple #[.agg #[.string ⟨#[]⟩, .slice none 0 0], .int .i64 5]) (by simp [results, Tryd.results21, go_sem, hq1, hq2, hq3, hq4, hq5]) rfl (seg_err HX5.out rfl (HBF.out _ _ _))
      · obtain ⟨hr1, hr2, hr3, hr4, hr5, hr6⟩ := HBOX.out _ HB3.out
        go_wp2_with fail
        refine (segIn_any ⟨(txt p).extract 0 3, fieldsT d hd (restL i p)⟩ _ _ hns hfa).mono ?_
        rintro e W5 ⟨rfl, hb5⟩
        rw [HIN.out]
        have HB5 : Hid (Below (w.heap.size + 1) (w.alloc (Obj.cells #[.string ⟨#[]⟩, .slice none 0 0] 44)) W5) := HB4.out.trans (hb5.mono (by simp; omega))
        have hs5 := hb5.size
        simp at hs5
        obtain ⟨hq1, hq2, hq3, hq4, hq5, hq6⟩ := HBOX.out _ HB5.out
        have hx0 : W5.cell? ⟨W3.heap.size, 0, none⟩ = some (.string ((txt p).extract 0 3)) := by rw [hb5.cell (p := ⟨W3.heap.size, 0, none⟩) (by simp)]; simp
        have hx1 : W5.cell? ⟨W3.heap.size, 1, none⟩ = some (.slice a3 (fieldsT d hd (restL i p)).length c3) := by rw [hb5.cell (p := ⟨W3.heap.size, 1, none⟩) (by simp)]; simp
        have HO5 := hide (OAt.kept keptO_field HOA.out hb5.size (fun e he => hb5.block e (OAt.lt ltO_field HOA.out e he)))
        have HM5 := hide (HM.out.below (B := w.heap.size) hw0 hq6)
        clear hr1 hr2 hr3 hr4 hr5 hr6 hfa hb5
        cases hlg : longB (fieldsT d hd (restL i p))
        · have HN5 : Hid (¬ (250 ≤ i ∨ longB (fieldsT d hd (restL i p)) = true)) := fun h => by
            rcases h with h | h
            · omega
            · rw [hlg] at h; cases h
          obtain ⟨hl30, hlf⟩ := long_no hlg
          have HRD := hide (readEscapes_any ((txt p).extract 0 3) (fieldsT d hd (restL i p)) (.slice a3 (fieldsT d hd (restL i p)).length c3) bs d W5 hd HO5.out HND.out (fun h => by have := HFR.out 0 h; omega) HM5.out
            (fun f hf r hr c hc => by
              have hf2 := hf
              unfold fieldsT at hf2
              rw [List.mem_map] at hf2
              obtain ⟨f', hf', rfl⟩ := hf2
              unfold fieldT at hr
              rw [List.mem_map] at hr
              obtain ⟨r', hr', rfl⟩ := hr
              unfold repT at hc
              rw [List.mem_map] at hc
              obtain ⟨c', hc', rfl⟩ := hc
              rw [txt_size]
              have h1 := fieldsL_sz _ _ _ (restL i p) f' hf' r' hr' c' hc'
              have h2 := restL_len i p
              omega) (by omega) (fun f hf => by have := (hlf f hf).1; omega) (fun f hf r hr => by have := (hlf f hf).2 r hr; omega))
          clear hlf
          go_wp2_with fail
          refine HRD.out.mono ?_
          rintro e W6 ⟨rfl, hon, hys⟩
          have hs6 := hon.size
          have hnb : w.heap.size ∉ bs := fun h => by have := HFR.out _ h; omega
          have hnb3 : W3.heap.size ∉ bs := fun h => by have := HFR.out _ h; omega
          have hy1 : W6.cell? ⟨w.heap.size, 0, none⟩ = some (.string ⟨#[]⟩) := by rw [only_cell hon (by omega) hnb]; exact hq1
          have hy2 : W6.frozen? ⟨w.heap.size, 0, none⟩ = false := by rw [frozenSame (hon.block _ (by omega) hnb)]; exact hq2
          have hy3 : W6.cell? ⟨w.heap.size, 1, none⟩ = some (.slice none 0 0) := by rw [only_cell hon (by omega) hnb]; exact hq3
          have hy4 : W6.frozen? ⟨w.heap.size, 1, none⟩ = false := by rw [frozenSame (hon.block _ (by omega) hnb)]; exact hq4
          have hy5 : w.heap.size < W6.heap.size := by omega
          have hz0 : W6.cell? ⟨W3.heap.size, 0, none⟩ = some (.string ((txt p).extract 0 3)) := by rw [only_cell hon (by omega) hnb3]; exact hx0
          have hz1 : W6.cell? ⟨W3.heap.size, 1, none⟩ = some (.slice a3 (fieldsT d hd (restL i p)).length c3) := by rw [only_cell hon (by omega) hnb3]; exact hx1
          have hbel6 : Below w.heap.size w W6 := hq6.trans (hon.below (B := w.heap.size) (by omega) (fun b hb => by have := HFR.out b hb; omega))
          have HBF : Hid (∀ x y, Below w.heap.size w ((W6.setCell ⟨w.heap.size, 0, none⟩ x).setCell ⟨w.heap.size, 1, none⟩ y)) := fun x y => (hbel6.setCell (p := ⟨w.heap.size, 0, none⟩) (by simp) x).setCell (p := ⟨w.heap.size, 1, none⟩) (by simp) y
          clear hq1 hq2 hq3 hq4 hq5 hq6 hx0 hx1 hon hbel6
          cases hun : allO (allO (allO (plainO d hd))) (fieldsT d hd (restL i p)) with
          | none =>
            have HX6 := hide (seg_6 (d := d) (hd := hd) (i := i) (p := p) HYES.out.1 HYES.out.2 HN5.out hun)
            clear hun hys
            simp only [Option.isSome_none]
            go_wp2_with fail
            exact bodyPost_ret (v := .tuple #[.agg #[.string ⟨#[]⟩, .slice none 0 0], .int .i64 6]) (by simp [results, Tryd.results21, go_sem, hy1, hy2, hy3, hy4, hy5]) rfl (seg_err HX6.out rfl (HBF.out _ _))
          | some gs =>
            have HOK := hide (seg_ok (d := d) (hd := hd) (i := i) (p := p) HYES.out.1 HYES.out.2 HN5.out hun)
            have hO6 := hys gs hun
            have HOF : Hid (∀ x y, OFields ((W6.setCell ⟨w.heap.size, 0, none⟩ x).setCell ⟨w.heap.size, 1, none⟩ y) (.slice a3 (fieldsT d hd (restL i p)).length c3) gs bs) := fun x y =>
              OAt.kept keptO_field hO6 (by rw [Deep.nblk_setCell, Deep.nblk_setCell]; exact Nat.le_refl _) (fun e he => by
                have := HFR.out e he
                rw [Deep.blk_setCell_other _ _ _ _ (by simp; omega), Deep.blk_setCell_other _ _ _ _ (by simp; omega)])
            clear hun hys hO6
            simp only [Option.isSome_some]
            go_wp2_with fail
            exact bodyPost_ret (v := .tuple #[.agg #[.string ((txt p).extract 0 3), .slice a3 (fieldsT d hd (restL i p)).length c3], .int .i64 0]) (by simp [results, Tryd.results21, go_sem, hy1, hy2, hy3, hy4, hy5]) rfl
              ⟨_, _, _, rfl, fun n hn => (by rw [HOK.out] at hn; cases hn), fun x hx => by
                rw [HOK.out] at hx
                injection hx with hx
                subst hx
                exact ⟨rfl, HTN.out, bs, HOF.out _ _, HND.out, fun b hb => by have := HFR.out b hb; omega⟩, ⟨_, _, _, rfl⟩, HBF.out _ _⟩
        · have HX5 := hide (seg_5 (d := d) (hd := hd) (i := i) (p := p) HYES.out.1 HYES.out.2 (.inr hlg))
          have HBF : Hid (∀ x y, Below w.heap.size w ((W5.setCell ⟨w.heap.size, 0, none⟩ x).setCell ⟨w.heap.size, 1, none⟩ y)) := fun x y => (hq6.setCell (p := ⟨w.heap.size, 0, none⟩) (by simp) x).setCell (p := ⟨w.heap.size, 1, none⟩) (by simp) y
          clear hlg
          go_wp2_with fail
          exact bodyPost_ret (v := .tuple #[.agg #[.string ⟨#[]⟩, .slice none 0 0], .int .i64 5]) (by simp [results, Tryd.results21, go_sem, hq1, hq2, hq3, hq4, hq5]) rfl (seg_err HX5.out rfl (HBF.out _ _))
end Go.Proofs.YtcphfhfockjljaaDoor.Msg
