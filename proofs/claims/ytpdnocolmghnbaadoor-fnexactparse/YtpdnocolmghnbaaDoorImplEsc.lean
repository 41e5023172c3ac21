import Derived.Test.YtpdnocolmghnbaaDoorImplCut
import Derived.Test.YtpdnocolmghnbaaDoorParsePlain
import Derived.Lib.Join
namespace Go.Proofs.YtpdnocolmghnbaaDoor.Msg
open Go.ChangeShapes Go.WideShapes Go.ChangeAt Go.RowKit
set_option linter.unusedVariables false
set_option linter.unusedSimpArgs false

theorem unesc_all {e : List UInt8 → Option (List UInt8)} : ∀ (ps qs : List (List UInt8)) (i : Nat), qs.length = ps.length → (∀ j (h : j < ps.length) (h2 : j < qs.length), partL e (i + j) ps[j] = some qs[j]) → unescGo e i ps = some qs.flatten
  | [], [], i, _, _ => rfl
  | p :: ps, q :: qs, i, hl, h => by
    have h0 := h 0 (by simp) (by simp)
    rw [Nat.add_zero] at h0
    simp only [List.getElem_cons_zero] at h0
    have ih := unesc_all (e := e) ps qs (i + 1) (by simpa using hl) (fun j h1 h2 => by
      have := h (j + 1) (by simp; omega) (by simp; omega)
      simpa [Nat.add_assoc, Nat.add_comm 1 j] using this)
    unfold unescGo
    rw [h0, ih]
    rfl
theorem unesc_none {e : List UInt8 → Option (List UInt8)} : ∀ (ps : List (List UInt8)) (i j : Nat) (h : j < ps.length), partL e (i + j) ps[j] = none → unescGo e i ps = none
  | p :: ps, i, 0, _, h => by
    rw [Nat.add_zero] at h
    simp only [List.getElem_cons_zero] at h
    unfold unescGo
    rw [h]
  | p :: ps, i, j + 1, hj, h => by
    have ih := unesc_none (e := e) ps (i + 1) j (by simpa using hj) (by
      simpa [Nat.add_assoc, Nat.add_comm 1 j] using h)
    unfold unescGo
    cases partL e i p with
    | none => rfl
    | some t => rw [ih]; rfl

/-- the letters of the escapes, in the order of the delimiters -/
theorem letter_cases (c0 c1 c2 c3 c4 c : UInt8) : (Lib.indexByte [70, 83, 82, 69, 84] c = -1 ∧ escL c0 c1 c2 c3 c4 [c] = none) ∨ ∃ m : Nat, m < 5 ∧ Lib.indexByte [70, 83, 82, 69, 84] c = m ∧ escL c0 c1 c2 c3 c4 [c] = some [[c0, c1, c2, c3, c4].getD m 0] := by
  unfold escL
  by_cases h1 : c = 70
  · subst h1; exact .inr ⟨0, by decide, by decide, by simp⟩
  by_cases h2 : c = 83
  · subst h2; exact .inr ⟨1, by decide, by decide, by simp⟩
  by_cases h3 : c = 82
  · subst h3; exact .inr ⟨2, by decide, by decide, by simp⟩
  by_cases h4 : c = 69
  · subst h4; exact .inr ⟨3, by decide, by decide, by simp⟩
  by_cases h5 : c = 84
  · subst h5; exact .inr ⟨4, by decide, by decide, by simp⟩
  left
  refine ⟨?_, by simp [h1, h2, h3, h4, h5]⟩
  rcases indexByte_parts c [70, 83, 82, 69, 84] with ⟨h, _⟩ | ⟨i, _, hi, e, _⟩
  · exact h
  · exfalso
    have hc : c ∈ ([70, 83, 82, 69, 84] : List UInt8) := by rw [e]; simp
    simp only [List.mem_cons, List.not_mem_nil, or_false] at hc
    rcases hc with h | h | h | h | h
    · exact h1 h
    · exact h2 h
    · exact h3 h
    · exact h4 h
    · exact h5 h
theorem escL_long (c0 c1 c2 c3 c4 : UInt8) (p : List UInt8) (h : p.length ≠ 1) : escL c0 c1 c2 c3 c4 p = none := by
  unfold escL
  have t : ∀ x : UInt8, p ≠ [x] := fun x e => h (by rw [e]; rfl)
  rw [if_neg (t _), if_neg (t _), if_neg (t _), if_neg (t _), if_neg (t _)]
theorem getD_at (d : ByteArray) (hd : d.size = 5) (m : Nat) (h : m < 5) (h2 : m < d.size) : [d[0], d[1], d[2], d[3], d[4]].getD m 0 = d[m]'h2 := by
  match m, h with
  | 0, _ => rfl
  | 1, _ => rfl
  | 2, _ => rfl
  | 3, _ => rfl
  | 4, _ => rfl

/-- the pieces at block g: those before i are read, the others as they were -/
structure Half (e : List UInt8 → Option (List UInt8)) (ps qs : List (List UInt8)) (i g : Nat) (w : World) : Prop where
  len : qs.length = ps.length
  cell : ∀ j (h : j < qs.length), w.cell? ⟨g, j, none⟩ = some (.string (txt qs[j])) ∧ w.frozen? ⟨g, j, none⟩ = false
  old : ∀ j (h : j < ps.length) (h2 : j < qs.length), (j % 2 = 0 ∨ i ≤ j) → qs[j] = ps[j]
  done : ∀ j (h : j < ps.length) (h2 : j < qs.length), j % 2 = 1 → j < i → e ps[j] = some qs[j]
  size : g < w.heap.size
theorem Half.put {e : List UInt8 → Option (List UInt8)} {ps qs : List (List UInt8)} {i g : Nat} {w : World} (h : Half e ps qs i g w) (hi : i < ps.length) (ho : i % 2 = 1) {t : List UInt8} (ht : e ps[i] = some t) :
    Half e ps (qs.set i t) (i + 2) g (w.setCell ⟨g, i, none⟩ (.string (txt t))) := by
  have hl := h.len
  refine ⟨by simpa using hl, fun j hj => ?_, fun j h1 h2 h3 => ?_, fun j h1 h2 h3 h4 => ?_, by rw [Deep.nblk_setCell]; exact h.size⟩
  · have hj' : j < qs.length := by simpa using hj
    obtain ⟨c1, c2⟩ := h.cell j hj'
    by_cases e1 : j = i
    · subst e1
      rw [List.getElem_set_self]
      exact ⟨World.cell?_setCell_same _ _ _ c1, by rw [World.frozen?_setCell]; exact c2⟩
    · rw [List.getElem_set_ne (by omega), World.cell?_setCell_other _ _ _ _ (by first | (simp; done) | (simp; omega)), World.frozen?_setCell]
      exact ⟨c1, c2⟩
  · have hj' : j < qs.length := by simpa using h2
    have hne : i ≠ j := by rcases h3 with h3 | h3 <;> omega
    rw [List.getElem_set_ne hne]
    exact h.old j h1 hj' (by rcases h3 with h3 | h3; exact .inl h3; exact .inr (by omega))
  · have hj' : j < qs.length := by simpa using h2
    by_cases e1 : j = i
    · subst e1; rw [List.getElem_set_self]; exact ht
    · rw [List.getElem_set_ne (by omega)]
      exact h.done j h1 hj' h3 (by omega)
theorem join_flat (xs : List (List UInt8)) : Lib.join xs [] = xs.flatten := by
  cases xs with
  | nil => rfl
  | cons x r =>
    rw [Lib.join_cons]
    unfold Lib.joinTail
    have : (r.map (([] : List UInt8) ++ ·)) = r := by simp
    rw [this]
    rfl
theorem flat_bound (B : Nat) : ∀ xs : List (List UInt8), (∀ x ∈ xs, x.length ≤ B) → xs.flatten.length ≤ xs.length * B
  | [], _ => by simp
  | x :: xs, h => by
    have h1 := h x (by simp)
    have h2 := flat_bound B xs (fun y hy => h y (by simp [hy]))
    rw [List.flatten_cons, List.length_append, List.length_cons, Nat.add_mul]
    omega

set_option maxRecDepth 100000 in
set_option maxHeartbeats 4000000 in
theorem without_any (s d : ByteArray) (w : World) (hs : s.size ≤ 40000) (hd : d.size = 5) (hm : Mx w) :
    Calls Tryd.prog 48 #[.string s, .string d] w fun e w' => e = .returned (.tuple #[.string (txt ((plainL d[0] d[1] d[2] d[3] d[4] s.data.toList).getD [])), .bool (plainL d[0] d[1] d[2] d[3] d[4] s.data.toList).isSome]) ∧ Below w.heap.size w w' := by
  have hd3 : (3 : Int) < (d.size : Int) := by omega
  have hpos := cutL_pos d[3] s.data.toList
  have hlen : (cutL d[3] s.data.toList).length ≤ 40001 := by have := cutL_len d[3] s.data.toList; simp at this; omega
  have HSZ : Hid (∀ p ∈ cutL d[3] s.data.toList, p.length ≤ 40000) := fun p hp => by have := cutL_sz d[3] s.data.toList p hp; simp at this; omega
  have HP : Hid (plainL d[0] d[1] d[2] d[3] d[4] s.data.toList = if (cutL d[3] s.data.toList).length % 2 = 0 then none else unescGo (escL d[0] d[1] d[2] d[3] d[4]) 0 (cutL d[3] s.data.toList)) := rfl
  obtain ⟨ps, hps⟩ : ∃ ps, cutL d[3] s.data.toList = ps := ⟨_, rfl⟩
  have HPS := hide hps
  rw [hps] at hpos hlen HSZ HP
  clear hps
  have HM := hide hm
  go_enter Tryd.func48, Tryd.ntmps48
  go_wp2_with fail
  refine (implCut_any s d[3] _ (by omega) hm).mono ?_
  rintro e Wb ⟨u, rfl, hu, hb1⟩
  rw [HPS.out] at hu
  obtain ⟨g, cap, rfl, hg, hgl, hcap, hcm, hcell⟩ := pieces_form hu hpos
  have HC := hide hcell
  have HB1 := hide hb1
  have HMB := hide (hm.kept hb1)
  clear hu hcell hb1 hm
  by_cases hev : ps.length % 2 = 0
  · have hev' : ((ps.length : Int) % 2 == 0) = true := by rw [beq_iff_eq]; omega
    have HX : Hid (plainL d[0] d[1] d[2] d[3] d[4] s.data.toList = none) := by rw [HP.out, if_pos hev]; trivial
    clear hev
    go_wp2_with fail
    go_ret2
    exact ⟨ret_none HX.out, HB1.out⟩
  · have hev' : ((ps.length : Int) % 2 == 0) = false := by rw [beq_eq_false_iff_ne]; omega
    have HX : Hid (plainL d[0] d[1] d[2] d[3] d[4] s.data.toList = unescGo (escL d[0] d[1] d[2] d[3] d[4]) 0 ps) := by rw [HP.out, if_neg hev]; trivial
    have HODD := hide hev
    clear hev
    go_wp2_with fail
    clear hev'
    go_loopg [7] ps.length (fun n i wr => ∃ (k : Nat) (qs : List (List UInt8)), k ≤ ps.length + 1 ∧ n = ps.length + 1 - k ∧ k % 2 = 1 ∧ i = .int .i64 k ∧ Half (escL d[0] d[1] d[2] d[3] d[4]) ps qs k g wr ∧ (∀ q ∈ qs, q.length ≤ 40000) ∧ Below w.heap.size w wr)
    case atStart => exact ⟨1, ps, by omega, by omega, rfl, rfl, ⟨rfl, HC.out, fun _ _ _ _ => rfl, fun j _ _ h1 h2 => absurd h2 (by omega), hgl⟩, HSZ.out, HB1.out⟩
    case round =>
      obtain ⟨k, qs, hk, rfl, hko, rfl, hH, hqz, hb⟩ := hrel
      obtain ⟨W1, rfl⟩ : ∃ x, x = wr := ⟨_, rfl⟩
      have HH := hide hH
      have HQ := hide hqz
      have HB := hide hb
      have HKO := hide hko
      have hp0 : 0 < w.heap.size := HM.out.pos
      have HM1 := hide (HM.out.kept hb)
      clear hH hqz hb hko
      by_cases hlt : k < ps.length
      · have hl := HH.out.len
        have HLQ := hide hl
        have hkq : k < qs.length := by omega
        clear hl
        have hc1 := (HH.out.cell k hkq).1
        have hf1 := (HH.out.cell k hkq).2
        have hqk : qs[k] = ps[k] := HH.out.old k hlt hkq (.inr (Nat.le_refl _))
        rw [hqk] at hc1
        have hpz := HSZ.out ps[k] (List.getElem_mem hlt)
        have HTS := hide (txt_size ps[k])
        have hki : (k : Int) < (ps.length : Int) := by omega
        have hgl1 := HH.out.size
        have HNO : Hid (escL d[0] d[1] d[2] d[3] d[4] ps[k] = none → plainL d[0] d[1] d[2] d[3] d[4] s.data.toList = none) := fun h => by
          rw [HX.out]
          refine unesc_none ps 0 k hlt ?_
          rw [Nat.zero_add]
          unfold partL
          rw [if_neg (by have := HKO.out; omega)]
          exact h
        obtain ⟨m1, hm1⟩ := HM1.out
        by_cases hp1 : ps[k].length = 1
        · obtain ⟨c, hc⟩ : ∃ c, ps[k] = [c] := List.length_eq_one_iff.1 hp1
          have hsz1 : ((txt ps[k]).size : Int) = 1 := by rw [txt_size, hp1]; rfl
          have hsz1' : (((txt ps[k]).size : Int) != 1) = false := by rw [hsz1]; rfl
          have HIX : Hid (Lib.index ({ data := #[70, 83, 82, 69, 84] } : ByteArray).data.toList (txt ps[k]).data.toList = Lib.indexByte [70, 83, 82, 69, 84] c) := by
            rw [txt_data, hc, Lib.index_one]; trivial
          rcases letter_cases d[0] d[1] d[2] d[3] d[4] c with ⟨hx, he⟩ | ⟨m, hm5, hx, he⟩
          · have HXX := hide (HNO.out (by rw [hc]; exact he))
            have HI2 : Hid (Lib.index ({ data := #[70, 83, 82, 69, 84] } : ByteArray).data.toList (txt ps[k]).data.toList = -1) := by rw [HIX.out]; exact hx
            clear hx he hc hp1 hqk hsz1
            go_wp2_with fail
            refine (Tryd.strings_Index _ _ m1 _ (by decide) hm1).mono ?_
            rintro e w2 ⟨rfl, rfl⟩
            rw [HI2.out]
            go_wp2_with fail
            go_ret2
            exact ⟨ret_none HXX.out, HB.out⟩
          · have HI2 : Hid (Lib.index ({ data := #[70, 83, 82, 69, 84] } : ByteArray).data.toList (txt ps[k]).data.toList = m) := by rw [HIX.out]; exact hx
            have hmd : m < d.size := by rw [hd]; exact hm5
            have HT : Hid (escL d[0] d[1] d[2] d[3] d[4] ps[k] = some [d[m]'hmd]) := by rw [hc, he, getD_at d hd m hm5 hmd]; trivial
            have HPUT := hide (HH.out.put hlt HKO.out HT.out)
            have HEX := hide (txt_one d m hmd)
            have hmi : (0 : Int) ≤ (m : Int) := by omega
            have hmi0 : ¬ (m : Int) < 0 := by omega
            have hmi1 : (m : Int) + 1 ≤ (d.size : Int) := by omega
            have hmi2 : (m : Int) ≤ (m : Int) + 1 := by omega
            have hmi3 : (m : Int) + 1 ≤ 5 := by omega
            have hmi4 : (m : Int) < 5 := by omega
            have hmi5 : (0 : Int) ≤ (m : Int) + 1 := by omega
            have hmi6 : ((m : Int) + 1).toNat = m + 1 := by omega
            have hmi7 : (m : Int) < (d.size : Int) := by omega
            have hmi8 : m + 1 ≤ 5 := by omega
            have hmi9 : m + 1 ≤ d.size := by omega
            have HQ2 : Hid (∀ q ∈ qs.set k [d[m]'hmd], q.length ≤ 40000) := fun q hq => by
              rcases List.mem_or_eq_of_mem_set hq with h | h
              · exact HQ.out q h
              · rw [h]; simp
            have HBS : Hid (Below w.heap.size w (W1.setCell ⟨g, k, none⟩ (.string (d.extract m (m + 1))))) := HB.out.setCell (by exact hg) _
            clear hx he hc hp1 hqk hsz1
            go_wp2_with fail
            refine (Tryd.strings_Index _ _ m1 _ (by decide) hm1).mono ?_
            rintro e w2 ⟨rfl, rfl⟩
            rw [HI2.out]
            go_wp2_with fail
            go_roundg (ps.length + 1 - (k + 2))
            case measure => omega
            case rel => exact ⟨k + 2, qs.set k [d[m]'hmd], by omega, rfl, by have := HKO.out; omega, by go_num, by rw [HEX.out]; exact HPUT.out, HQ2.out, HBS.out⟩
        · have HXX := hide (HNO.out (escL_long _ _ _ _ _ _ hp1))
          have hsz1 : ¬ ((txt ps[k]).size : Int) = 1 := by have := HTS.out; omega
          have hsz1' : (((txt ps[k]).size : Int) != 1) = true := by rw [bne_iff_ne]; exact hsz1
          clear hp1 hqk
          go_wp2_with fail
          refine (Tryd.strings_Index _ _ m1 _ (by decide) hm1).mono ?_
          rintro e w2 ⟨rfl, rfl⟩
          generalize Lib.index ({ data := #[70, 83, 82, 69, 84] } : ByteArray).data.toList (txt ps[k]).data.toList = z at *
          go_wp2_with fail
          go_ret2
          exact ⟨ret_none HXX.out, HB.out⟩
      · have HLQ := hide HH.out.len
        have hqp : qs.length = ps.length := HH.out.len
        have HFIN : Hid (plainL d[0] d[1] d[2] d[3] d[4] s.data.toList = some qs.flatten) := by
          rw [HX.out]
          refine unesc_all ps qs 0 hqp fun j h1 h2 => ?_
          rw [Nat.zero_add]
          unfold partL
          by_cases hj : j % 2 = 0
          · rw [if_pos hj, HH.out.old j h1 h2 (.inl hj)]
          · rw [if_neg hj]
            exact HH.out.done j h1 h2 (by omega) (by omega)
        have hbd := flat_bound 40000 qs HQ.out
        have HJ : Hid (Lib.join ((qs.map txt).map (·.data.toList)) (⟨#[]⟩ : ByteArray).data.toList = qs.flatten) := by
          have h1 : (qs.map txt).map (·.data.toList) = qs := by
            rw [List.map_map]
            conv => rhs; rw [← List.map_id qs]
            exact List.map_congr_left fun x _ => txt_data x
          rw [h1]; exact join_flat qs
        have hqn : (qs.map txt).length = ps.length := by rw [List.length_map]; exact hqp
        have HCALL : Hid (Calls Tryd.prog 66 #[.slice (some ⟨g, 0, none⟩) ps.length cap, .string ⟨#[]⟩] W1 fun e w' => e = .returned (.string (txt qs.flatten)) ∧ Below W1.heap.size W1 w') := by
          have h := Tryd.strings_Join g 0 cap (qs.map txt) ⟨#[]⟩ W1 (fun j x hx => by
            rw [List.getElem?_map] at hx
            have hj : j < qs.length := by
              by_cases h : j < qs.length
              · exact h
              · rw [List.getElem?_eq_none (by omega)] at hx; cases hx
            rw [List.getElem?_eq_getElem hj] at hx
            injection hx with hx
            rw [Nat.zero_add, ← hx]
            exact (HH.out.cell j hj).1) HH.out.size (by omega) (by omega) (by rw [HJ.out]; have : qs.length * 40000 ≤ 40001 * 40000 := Nat.mul_le_mul_right _ (by omega); omega)
          rw [hqn, HJ.out] at h
          exact h
        clear hbd hqn hqp
        go_wp2_with fail
        refine HCALL.out.mono ?_
        rintro e w2 ⟨rfl, hb2⟩
        go_wp2_with fail
        go_ret2
        exact ⟨ret_some HFIN.out, bjoin' hb2 HB.out⟩
end Go.Proofs.YtpdnocolmghnbaaDoor.Msg
