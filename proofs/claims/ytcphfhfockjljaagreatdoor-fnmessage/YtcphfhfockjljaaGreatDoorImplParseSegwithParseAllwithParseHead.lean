import Derived.Test.YtcphfhfockjljaaGreatDoorParsePieceswithImplPurewithImplStart
import Derived.Test.YtcphfhfockjljaaGreatDoorReadUpdwithImplEscwithImplRead
import Derived.Deep.DeepCutAuto
import Derived.BigQuiet
import Derived.Test.YtcphfhfockjljaaGreatDoorSegBufwithParseSegswithImplOk
namespace Go.Proofs.YtcphfhfockjljaaGreatDoor.Msg
open Go.ChangeShapes Go.WideShapes Go.ChangeAt Go.RowKit
set_option linter.unusedVariables false
set_option linter.unusedSimpArgs false

/-- what the first piece of a text in order is -/
def HeadP (d : ByteArray) (hd : d.size = 5) (p : List UInt8) : Prop := 8 ≤ p.length ∧ p.take 3 = [77, 83, 72] ∧ (p.drop 8).head?.any (fun c => c != d[0]) = false

def SegPost (w : World) (X : Except Nat Seg) (e : Ending) (w' : World) : Prop :=
  ∃ nm u c, e = .returned (.tuple #[.agg #[.string nm, u], .int .i64 c]) ∧ (∀ n, X = .error n → c = (n : Int)) ∧ (∀ x, X = .ok x → c = 0 ∧ nm = x.name ∧ ∃ bs, OFields w' u x.fields bs ∧ bs.Nodup ∧ ∀ b ∈ bs, w.heap.size ≤ b) ∧ (∃ a n cp, u = .slice a n cp) ∧ Below w.heap.size w w'

theorem start_no {p : List UInt8} {d : ByteArray} {hd : d.size = 5} {i : Nat} (hi : i ≠ 0) (h : startB p d[0] = false) : segL d hd i p = .error 4 := by
  by_cases h4 : p.length < 3 ∨ nameB (txt (p.take 3)) = false ∨ (0 < i ∧ p.take 3 = [77, 83, 72])
  · exact seg_4a h4
  · refine seg_4b h4 ?_
    unfold startB at h
    have h1 : 3 ≤ p.length := by
      by_cases h3 : p.length < 3
      · exact absurd (.inl h3) h4
      · omega
    have h2 : nameB (txt (p.take 3)) = true := by
      cases hn : nameB (txt (p.take 3))
      · exact absurd (.inr (.inl hn)) h4
      · rfl
    have h3 : (p.take 3 == [77, 83, 72]) = false := by
      rw [beq_eq_false_iff_ne]
      exact fun e => h4 (.inr (.inr ⟨by omega, e⟩))
    rw [decide_eq_true h1, h2, h3] at h
    have hr : restL i p = p.drop 3 := by unfold restL; rw [if_neg hi]
    rw [hr]
    simpa using h
theorem start_yes {p : List UInt8} {d : ByteArray} {hd : d.size = 5} {i : Nat} (h0 : i = 0 → HeadP d hd p) (h : (decide (i = 0) || startB p d[0]) = true) :
    ¬ (p.length < 3 ∨ nameB (txt (p.take 3)) = false ∨ (0 < i ∧ p.take 3 = [77, 83, 72])) ∧ (restL i p).head?.any (fun c => c != d[0]) = false := by
  by_cases hi : i = 0
  · obtain ⟨h1, h2, h3⟩ := h0 hi
    refine ⟨fun h4 => ?_, by unfold restL; rw [if_pos hi]; exact h3⟩
    rcases h4 with h4 | h4 | ⟨h4, _⟩
    · omega
    · rw [h2] at h4
      have : nameB (txt [77, 83, 72]) = true := by decide
      rw [this] at h4; cases h4
    · omega
  · rw [decide_eq_false hi, Bool.false_or] at h
    unfold startB at h
    simp only [Bool.and_eq_true, decide_eq_true_eq] at h
    obtain ⟨h1, h2, h3, h4⟩ := h
    have hr : restL i p = p.drop 3 := by unfold restL; rw [if_neg hi]
    refine ⟨fun h5 => ?_, by rw [hr]; simpa using h4⟩
    rcases h5 with h5 | h5 | ⟨_, h5⟩
    · omega
    · rw [h2] at h5; cases h5
    · rw [h5] at h3; simp at h3
theorem seg_err {w w' : World} {X : Except Nat Seg} {n : Nat} {c : Int} {nm : ByteArray} {a : Option Addr} {m cp : Nat} (h : X = .error n) (hc : c = (n : Int)) (hb : Below w.heap.size w w') : SegPost w X (.returned (.tuple #[.agg #[.string nm, .slice a m cp], .int .i64 c])) w' :=
  ⟨nm, _, c, rfl, fun k hk => by rw [h] at hk; injection hk with hk; subst hk; exact hc, fun x hx => (by rw [h] at hx; cases hx), ⟨_, _, _, rfl⟩, hb⟩

set_option maxRecDepth 100000 in
set_option maxHeartbeats 8000000 in
theorem parseSegment_any (p : List UInt8) (i : Nat) (d : ByteArray) (w : World) (hd : d.size = 5) (hp : p.length ≤ 40000) (hpl : ∀ x ∈ p, plainC x = true) (hi : i ≤ 1048576) (h0 : i = 0 → HeadP d hd p) (hm : Mx w) :
    Calls Tryz.prog 22 #[.string (txt p), .int .i64 (i : Int), .string d] w (SegPost w (segL d hd i p)) := by
  have hd0 : (0 : Int) < (d.size : Int) := by omega
  have hb0 := (Below.refl w.heap.size w).alloc (Nat.le_refl _) (Obj.cells #[.string ⟨#[]⟩, .slice none 0 0] 41)
  have HB0 := hide hb0
  have HM := hide hm
  have HPL := hide hpl
  have H0 := hide h0
  have HBOX : Hid (∀ wX, Below (w.heap.size + 1) (w.alloc (Obj.cells #[.string ⟨#[]⟩, .slice none 0 0] 41)) wX → wX.cell? ⟨w.heap.size, 0, none⟩ = some (.string ⟨#[]⟩) ∧ wX.frozen? ⟨w.heap.size, 0, none⟩ = false ∧ wX.cell? ⟨w.heap.size, 1, none⟩ = some (.slice none 0 0) ∧ wX.frozen? ⟨w.heap.size, 1, none⟩ = false ∧ w.heap.size < wX.heap.size ∧ Below w.heap.size w wX) := fun wX h => by
    refine ⟨?_, ?_, ?_, ?_, by have := h.size; simp at this; omega, hb0.trans (h.mono (by omega))⟩
    · rw [h.cell (p := ⟨w.heap.size, 0, none⟩) (by simp)]; simp
    · rw [h.frozen (p := ⟨w.heap.size, 0, none⟩) (by simp)]; simp
    · rw [h.cell (p := ⟨w.heap.size, 1, none⟩) (by simp)]; simp
    · rw [h.frozen (p := ⟨w.heap.size, 1, none⟩) (by simp)]; simp
  have HBR : Hid (Below (w.heap.size + 1) (w.alloc (Obj.cells #[.string ⟨#[]⟩, .slice none 0 0] 41)) (w.alloc (Obj.cells #[.string ⟨#[]⟩, .slice none 0 0] 41))) := Below.refl _ _
  clear hb0 hm hpl h0
  cases hst : (decide (i = 0) || startB p d[0])
  · have HX : Hid (segL d hd i p = .error 4) := by
      have h1 : i ≠ 0 := fun h => by rw [decide_eq_true h] at hst; cases hst
      rw [decide_eq_false h1, Bool.false_or] at hst
      exact start_no h1 hst
    have HST := hide hst
    obtain ⟨hq1, hq2, hq3, hq4, hq5, hq6⟩ := HBOX.out _ HBR.out
    clear hst
    go_enter Tryz.func22, Tryz.ntmps22
    go_wp2_with fail
    refine (starts_any p i d[0] _ hp hi).mono ?_
    rintro e w2 ⟨rfl, rfl⟩
    rw [HST.out]
    go_wp2_with fail
    exact bodyPost_ret (v := .tuple #[.agg #[.string ⟨#[]⟩, .slice none 0 0], .int .i64 4]) (by simp [results, Tryz.results22, go_sem]) rfl (seg_err HX.out rfl hq6)
  · have HST := hide hst
    have HYES := hide (start_yes H0.out hst)
    have hp3 : (3 : Int) ≤ ((txt p).size : Int) := by
      rw [txt_size]
      have := HYES.out.1
      omega
    have HTN := hide (txt_name p)
    clear hst
    go_enter Tryz.func22, Tryz.ntmps22
    go_wp2_with fail
    refine (starts_any p i d[0] _ hp hi).mono ?_
    rintro e w2 ⟨rfl, rfl⟩
    rw [HST.out]
    go_wp2_with fail
    go_quiet (fail)
    obtain ⟨W1, hW1⟩ : ∃ x, x = (w.alloc (Obj.cells #[.string ⟨#[]⟩, .slice none 0 0] 41)).drewN nq := ⟨_, rfl⟩
    have HB1 : Hid (Below (w.heap.size + 1) (w.alloc (Obj.cells #[.string ⟨#[]⟩, .slice none 0 0] 41)) W1) := by rw [hW1]; exact below_drewN HBR.out _
    rw [← hW1]
    clear hW1
    go_upto_if 23 with fail
    go_cut [9] (fun v wx => v = .string (txt (restL i p)) ∧ wx = W1)
    case first =>
      by_cases hi0 : i = 0
      · have hi' : ((i : Int) == 0) = true := by rw [beq_iff_eq]; omega
        have h8 : (8 : Int) ≤ ((txt p).size : Int) := by have := (H0.out hi0).1; rw [txt_size]; omega
        have HRL : Hid ((txt p).extract 8 (txt p).size = txt (restL i p)) := by rw [txt_from]; unfold restL; rw [if_pos hi0]; trivial
        clear hi0
        go_wp2_with fail
        go_meet
        case rel => exact ⟨by rw [HRL.out], rfl⟩
      · have hi' : ((i : Int) == 0) = false := by rw [beq_eq_false_iff_ne]; omega
        have HRL : Hid ((txt p).extract 3 (txt p).size = txt (restL i p)) := by rw [txt_from]; unfold restL; rw [if_neg hi0]; trivial
        clear hi0
        go_wp2_with fail
        go_meet
        case rel => exact ⟨by rw [HRL.out], rfl⟩
    case rest =>
      obtain ⟨rfl, rfl⟩ := hcut
      obtain ⟨W2, rfl⟩ : ∃ x, x = wc := ⟨_, rfl⟩
      have hrz : (txt (restL i p)).size ≤ 40000 := by have := restL_len i p; rw [txt_size]; omega
      have hrm : ∀ x ∈ restL i p, x ∈ p := fun x hx => by
        unfold restL at hx
        split at hx
        · exact List.mem_of_mem_drop hx
        · exact List.mem_of_mem_drop hx
      have HM2 := hide (HM.out.below (B := w.heap.size) HM.out.pos (HBOX.out _ HB1.out).2.2.2.2.2)
      have hs2 : w.heap.size < W2.heap.size := (HBOX.out _ HB1.out).2.2.2.2.1
      have hw0 : 0 < w.heap.size := HM.out.pos
      have HFE : Hid ((fieldsI d[0] d[1] d[2] (restL i p)).map fieldT = fieldsT d hd (restL i p)) := by
        rw [fieldsI_eq _ _ _ _ HYES.out.2]; rfl
      have HIN : Hid (segI ⟨(txt p).extract 0 3, fieldsT d hd (restL i p)⟩ = !longB (fieldsT d hd (restL i p))) := by
        rw [← HFE.out]
        refine segI_cut _ ?_ _ _ _ _ (by rw [txt_size] at hrz; exact hrz) (fun x hx => HPL.out x (hrm x hx))
        rw [HTN.out]
        cases hn : nameB (txt (p.take 3))
        · exact absurd (.inr (.inl hn)) HYES.out.1
        · rfl
      have HSZ := hide (fieldsT_sz d hd (restL i p) (by rw [← txt_size]; omega))
      clear hrm
      go_wp2_with fail
      refine (cutSegment_any ((txt p).extract 0 3) (txt (restL i p)) d _ hrz hd HM2.out).mono ?_
      rintro e W3 ⟨u3, rfl, bs, hO, hnd, hfr, hb3⟩
      rw [txt_data, HFE.out] at hO
      obtain ⟨a3, c3, rfl⟩ := form_fields hO
      have HB3 : Hid (Below (w.heap.size + 1) (w.alloc (Obj.cells #[.string ⟨#[]⟩, .slice none 0 0] 41)) W3) := HB1.out.trans (hb3.mono (by omega))
      have hs3 := hb3.size
      have hbA : Below W3.heap.size W3 (W3.alloc (Obj.cells #[.string ((txt p).extract 0 3), .slice a3 (fieldsT d hd (restL i p)).length c3] 41)) := (Below.refl _ _).alloc (Nat.le_refl _) _
      have HOA := hide (OAt.kept keptO_field hO hbA.size (fun e he => hbA.block e (OAt.lt ltO_field hO e he)))
      have HB4 : Hid (Below (w.heap.size + 1) (w.alloc (Obj.cells #[.string ⟨#[]⟩, .slice none 0 0] 41)) (W3.alloc (Obj.cells #[.string ((txt p).extract 0 3), .slice a3 (fieldsT d hd (restL i p)).length c3] 41))) := HB3.out.trans (hbA.mono (by omega))
      have HND := hide hnd
      have HFR : Hid (∀ b ∈ bs, w.heap.size + 1 ≤ b ∧ b < W3.heap.size) := fun b hb => ⟨by have := hfr b hb; omega, OAt.lt ltO_field hO b hb⟩
      have hns : ((txt p).extract 0 3).size ≤ 9223372036854775807 := by rw [ByteArray.size_extract]; omega
      have hfa : FieldsAt W2.heap.size (W3.alloc (Obj.cells #[.string ((txt p).extract 0 3), .slice a3 (fieldsT d hd (restL i p)).length c3] 41)) (.slice a3 (fieldsT d hd (restL i p)).length c3) (fieldsT d hd (restL i p)) := OAt.toAt toAt_field HOA.out hfr
      clear hO hnd hfr hb3 hbA
      by_cases h250 : (250 : Int) ≤ (i : Int)
      · have HX5 := hide (seg_5 (d := d) (hd := hd) (i := i) (p := p) HYES.out.1 HYES.out.2 (.inl (by omega)))
        obtain ⟨hq1, hq2, hq3, hq4, hq5, hq6⟩ := HBOX.out _ HB3.out
        have HBF : Hid (∀ x y o, Below w.heap.size w (((W3.setCell ⟨w.heap.size, 0, none⟩ x).setCell ⟨w.heap.size, 1, none⟩ y).alloc o)) := fun x y o => ((hq6.setCell (p := ⟨w.heap.size, 0, none⟩) (by simp) x).setCell (p := ⟨w.heap.size, 1, none⟩) (by simp) y).alloc (by rw [Deep.nblk_setCell, Deep.nblk_setCell]; omega) o
        go_wp2_with fail
        exact bodyPost_ret (v := .tuple #[.agg #[.string ⟨#[]⟩, .slice none 0 0], .int .i64 5]) (by simp [results, Tryz.results22, go_sem, hq1, hq2, hq3, hq4, hq5]) rfl (seg_err HX5.out rfl (HBF.out _ _ _))
      · obtain ⟨hr1, hr2, hr3, hr4, hr5, hr6⟩ := HBOX.out _ HB3.out
        go_wp2_with fail
        refine (segIn_any ⟨(txt p).extract 0 3, fieldsT d hd (restL i p)⟩ _ _ hns hfa).mono ?_
        rintro e W5 ⟨rfl, hb5⟩
        rw [HIN.out]
        have HB5 : Hid (Below (w.heap.size + 1) (w.alloc (Obj.cells #[.string ⟨#[]⟩, .slice none 0 0] 41)) W5) := HB4.out.trans (hb5.mono (by simp; omega))
        have hs5 := hb5.size
        simp at hs5
        obtain ⟨hq1, hq2, hq3, hq4, hq5, hq6⟩ := HBOX.out _ HB5.out
        have hx0 : W5.cell? ⟨W3.heap.size, 0, none⟩ = some (.string ((txt p).extract 0 3)) := by rw [hb5.cell (p := ⟨W3.heap.size, 0, none⟩) (by simp)]; simp
        have hx1 : W5.cell? ⟨W3.heap.size, 1, none⟩ = some (.slice a3 (fieldsT d hd (restL i p)).length c3) := by rw [hb5.cell (p := ⟨W3.heap.size, 1, none⟩) (by simp)]; simp
        have HO5 := hide (OAt.kept keptO_field HOA.out hb5.size (fun e he => hb5.block e (OAt.lt ltO_field HOA.out e he)))
        have HM5 := hide (HM.out.below (B := w.heap.size) hw0 hq6)
        clear hr1 hr2 hr3 hr4 hr5 hr6 hfa hb5
        cases hlg : longB (fieldsT d hd (restL i p))
        · have HN5 : Hid (¬ (250 ≤ i ∨ longB (fieldsT d hd (restL i p)) = true)) := fun h => by
            rcases h with h | h
            · omega
            · rw [hlg] at h; cases h
          obtain ⟨hl30, hlf⟩ := long_no hlg
          have HRD := hide (readEscapes_any ((txt p).extract 0 3) (fieldsT d hd (restL i p)) (.slice a3 (fieldsT d hd (restL i p)).length c3) bs d W5 hd HO5.out HND.out (fun h => by have := HFR.out 0 h; omega) HM5.out
            (fun f hf r hr c hc => by
              have hf2 := hf
              unfold fieldsT at hf2
              rw [List.mem_map] at hf2
              obtain ⟨f', hf', rfl⟩ := hf2
              unfold fieldT at hr
              rw [List.mem_map] at hr
              obtain ⟨r', hr', rfl⟩ := hr
              unfold repT at hc
              rw [List.mem_map] at hc
              obtain ⟨c', hc', rfl⟩ := hc
              rw [txt_size]
              have h1 := fieldsL_sz _ _ _ (restL i p) f' hf' r' hr' c' hc'
              have h2 := restL_len i p
              omega) (by omega) (fun f hf => by have := (hlf f hf).1; omega) (fun f hf r hr => by have := (hlf f hf).2 r hr; omega))
          clear hlf
          go_wp2_with fail
          refine HRD.out.mono ?_
          rintro e W6 ⟨rfl, hon, hys⟩
          have hs6 := hon.size
          have hnb : w.heap.size ∉ bs := fun h => by have := HFR.out _ h; omega
          have hnb3 : W3.heap.size ∉ bs := fun h => by have := HFR.out _ h; omega
          have hy1 : W6.cell? ⟨w.heap.size, 0, none⟩ = some (.string ⟨#[]⟩) := by rw [only_cell hon (by omega) hnb]; exact hq1
          have hy2 : W6.frozen? ⟨w.heap.size, 0, none⟩ = false := by rw [frozenSame (hon.block _ (by omega) hnb)]; exact hq2
          have hy3 : W6.cell? ⟨w.heap.size, 1, none⟩ = some (.slice none 0 0) := by rw [only_cell hon (by omega) hnb]; exact hq3
          have hy4 : W6.frozen? ⟨w.heap.size, 1, none⟩ = false := by rw [frozenSame (hon.block _ (by omega) hnb)]; exact hq4
          have hy5 : w.heap.size < W6.heap.size := by omega
          have hz0 : W6.cell? ⟨W3.heap.size, 0, none⟩ = some (.string ((txt p).extract 0 3)) := by rw [only_cell hon (by omega) hnb3]; exact hx0
          have hz1 : W6.cell? ⟨W3.heap.size, 1, none⟩ = some (.slice a3 (fieldsT d hd (restL i p)).length c3) := by rw [only_cell hon (by omega) hnb3]; exact hx1
          have hbel6 : Below w.heap.size w W6 := hq6.trans (hon.below (B := w.heap.size) (by omega) (fun b hb => by have := HFR.out b hb; omega))
          have HBF : Hid (∀ x y, Below w.heap.size w ((W6.setCell ⟨w.heap.size, 0, none⟩ x).setCell ⟨w.heap.size, 1, none⟩ y)) := fun x y => (hbel6.setCell (p := ⟨w.heap.size, 0, none⟩) (by simp) x).setCell (p := ⟨w.heap.size, 1, none⟩) (by simp) y
          clear hq1 hq2 hq3 hq4 hq5 hq6 hx0 hx1 hon hbel6
          cases hun : allO (allO (allO (plainO d hd))) (fieldsT d hd (restL i p)) with
          | none =>
            have HX6 := hide (seg_6 (d := d) (hd := hd) (i := i) (p := p) HYES.out.1 HYES.out.2 HN5.out hun)
            clear hun hys
            simp only [Option.isSome_none]
            go_wp2_with fail
            exact bodyPost_ret (v := .tuple #[.agg #[.string ⟨#[]⟩, .slice none 0 0], .int .i64 6]) (by simp [results, Tryz.results22, go_sem, hy1, hy2, hy3, hy4, hy5]) rfl (seg_err HX6.out rfl (HBF.out _ _))
          | some gs =>
            have HOK := hide (seg_ok (d := d) (hd := hd) (i := i) (p := p) HYES.out.1 HYES.out.2 HN5.out hun)
            have hO6 := hys gs hun
            have HOF : Hid (∀ x y, OFields ((W6.setCell ⟨w.heap.size, 0, none⟩ x).setCell ⟨w.heap.size, 1, none⟩ y) (.slice a3 (fieldsT d hd (restL i p)).length c3) gs bs) := fun x y =>
              OAt.kept keptO_field hO6 (by rw [Deep.nblk_setCell, Deep.nblk_setCell]; exact Nat.le_refl _) (fun e he => by
                have := HFR.out e he
                rw [Deep.blk_setCell_other _ _ _ _ (by simp; omega), Deep.blk_setCell_other _ _ _ _ (by simp; omega)])
            clear hun hys hO6
            simp only [Option.isSome_some]
            go_wp2_with fail
            exact bodyPost_ret (v := .tuple #[.agg #[.string ((txt p).extract 0 3), .slice a3 (fieldsT d hd (restL i p)).length c3], .int .i64 0]) (by simp [results, Tryz.results22, go_sem, hy1, hy2, hy3, hy4, hy5]) rfl
              ⟨_, _, _, rfl, fun n hn => (by rw [HOK.out] at hn; cases hn), fun x hx => by
                rw [HOK.out] at hx
                injection hx with hx
                subst hx
                exact ⟨rfl, HTN.out, bs, HOF.out _ _, HND.out, fun b hb => by have := HFR.out b hb; omega⟩, ⟨_, _, _, rfl⟩, HBF.out _ _⟩
        · have HX5 := hide (seg_5 (d := d) (hd := hd) (i := i) (p := p) HYES.out.1 HYES.out.2 (.inr hlg))
          have HBF : Hid (∀ x y, Below w.heap.size w ((W5.setCell ⟨w.heap.size, 0, none⟩ x).setCell ⟨w.heap.size, 1, none⟩ y)) := fun x y => (hq6.setCell (p := ⟨w.heap.size, 0, none⟩) (by simp) x).setCell (p := ⟨w.heap.size, 1, none⟩) (by simp) y
          clear hlg
          go_wp2_with fail
          exact bodyPost_ret (v := .tuple #[.agg #[.string ⟨#[]⟩, .slice none 0 0], .int .i64 5]) (by simp [results, Tryz.results22, go_sem, hq1, hq2, hq3, hq4, hq5]) rfl (seg_err HX5.out rfl (HBF.out _ _))
end Go.Proofs.YtcphfhfockjljaaGreatDoor.Msg

namespace Go.Proofs.YtcphfhfockjljaaGreatDoor.Msg
open Go.ChangeShapes Go.WideShapes Go.ChangeAt Go.RowKit
set_option linter.unusedVariables false
set_option linter.unusedSimpArgs false

def ParsePost (w : World) (X : Except Nat (List Seg)) (e : Ending) (w' : World) : Prop :=
  ∃ u c, e = .returned (.tuple #[.agg #[u], .int .i64 c]) ∧ (∀ n, X = .error n → u = .slice none 0 0 ∧ c = (n : Int)) ∧ (∀ xs, X = .ok xs → c = 0 ∧ ∃ bs, OSegs w' u xs bs ∧ bs.Nodup ∧ ∀ b ∈ bs, w.heap.size ≤ b) ∧ Below w.heap.size w w'
theorem post_err {w w' : World} {X : Except Nat (List Seg)} {n : Nat} {c : Int} (h : X = .error n) (hc : c = (n : Int)) (hb : Below w.heap.size w w') : ParsePost w X (.returned (.tuple #[.agg #[.slice none 0 0], .int .i64 c])) w' :=
  ⟨_, _, rfl, fun m hm => by rw [h] at hm; injection hm with hm; subst hm; exact ⟨rfl, hc⟩, fun xs hx => (by rw [h] at hx; cases hx), hb⟩

theorem below_start (w : World) : Below w.heap.size w ((w.alloc (Obj.cells #[.slice none 0 0] 25)).alloc (Obj.cells #[.slice none 0 0] 25)) :=
  ((Below.refl w.heap.size w).alloc (Nat.le_refl _) _).alloc (by simp) _

set_option maxRecDepth 100000 in
set_option maxHeartbeats 4000000 in
/-- codes 1 and 2 -/
theorem parseSpec_12 (s : ByteArray) (w : World) (hs : s.size ≤ 1048576) (h12 : s.size = 0 ∨ 40000 < s.size ∨ bytesB s = false) :
    Calls Tryz.prog 12 #[.string s] w (ParsePost w (parseL s)) := by
  have HB0 := hide (below_start w)
  by_cases h0 : s.size = 0
  · have h0' : ((s.size : Int) == 0) = true := by rw [beq_iff_eq]; omega
    have HX : Hid (parseL s = .error 1) := by unfold parseL; rw [if_pos (Or.inl h0)]; trivial
    clear h0 h12
    go_enter Tryz.func12, Tryz.ntmps12
    go_wp2_with fail
    exact bodyPost_ret (v := .tuple #[.agg #[.slice none 0 0], .int .i64 1]) (by simp [results, Tryz.results12, go_sem]) rfl (post_err HX.out rfl HB0.out)
  have h0' : ((s.size : Int) == 0) = false := by rw [beq_eq_false_iff_ne]; omega
  by_cases h4 : (40000 : Int) < (s.size : Int)
  · have HX : Hid (parseL s = .error 1) := by unfold parseL; rw [if_pos (Or.inr (by omega))]; trivial
    clear h0 h12
    go_enter Tryz.func12, Tryz.ntmps12
    go_wp2_with fail
    exact bodyPost_ret (v := .tuple #[.agg #[.slice none 0 0], .int .i64 1]) (by simp [results, Tryz.results12, go_sem]) rfl (post_err HX.out rfl HB0.out)
  have hby : bytesB s = false := by
    rcases h12 with h | h | h
    · exact absurd h h0
    · exact absurd h (by omega)
    · exact h
  have HX : Hid (parseL s = .error 2) := by unfold parseL; rw [if_neg (by omega), if_pos hby]; trivial
  have HBY := hide hby
  clear hby h0 h12
  go_enter Tryz.func12, Tryz.ntmps12
  go_wp2_with fail
  refine (bytes_any s _ (by omega)).mono ?_
  rintro e w' ⟨rfl, rfl⟩
  rw [HBY.out]
  go_wp2_with fail
  exact bodyPost_ret (v := .tuple #[.agg #[.slice none 0 0], .int .i64 2]) (by simp [results, Tryz.results12, go_sem]) rfl (post_err HX.out rfl HB0.out)

theorem parseL_3 (s : ByteArray) (h0 : s.size ≠ 0) (h4 : s.size ≤ 40000) (hby : bytesB s = true) (hh : headB s = false) : parseL s = .error 3 := by
  unfold parseL
  rw [if_neg (by omega), if_neg (by rw [hby]; simp), dif_neg (by rw [hh]; simp)]

set_option maxRecDepth 100000 in
set_option maxHeartbeats 4000000 in
/-- code 3, where the text is too short -/
theorem parseSpec_short (s : ByteArray) (w : World) (h0 : s.size ≠ 0) (h8 : s.size < 8) (hby : bytesB s = true) :
    Calls Tryz.prog 12 #[.string s] w (ParsePost w (parseL s)) := by
  have HB0 := hide (below_start w)
  have h0' : ((s.size : Int) == 0) = false := by rw [beq_eq_false_iff_ne]; omega
  have h8' : (s.size : Int) < 8 := by omega
  have h4 : ¬ (40000 : Int) < (s.size : Int) := by omega
  have HX : Hid (parseL s = .error 3) := parseL_3 s h0 (by omega) hby (by unfold headB; rw [decide_eq_false (by omega)]; rfl)
  have HBY := hide hby
  clear hby h0 h8
  go_enter Tryz.func12, Tryz.ntmps12
  go_wp2_with fail
  refine (bytes_any s _ (by omega)).mono ?_
  rintro e w' ⟨rfl, rfl⟩
  rw [HBY.out]
  go_wp2_with fail
  go_quiet (fail)
  go_wp2_with fail
  exact bodyPost_ret (v := .tuple #[.agg #[.slice none 0 0], .int .i64 3]) (by simp [results, Tryz.results12, go_sem]) rfl (post_err HX.out rfl ((below_drewN HB0.out _).setCell (by simp) _))
end Go.Proofs.YtcphfhfockjljaaGreatDoor.Msg

namespace Go.Proofs.YtcphfhfockjljaaGreatDoor.Msg
open Go.ChangeShapes Go.WideShapes Go.ChangeAt Go.RowKit
set_option linter.unusedVariables false
set_option linter.unusedSimpArgs false

set_option maxRecDepth 100000 in
set_option maxHeartbeats 4000000 in
/-- code 3, where it does not begin with MSH -/
theorem parseSpec_msh (s : ByteArray) (w : World) (h8 : 8 ≤ s.size) (h40 : s.size ≤ 40000) (hby : bytesB s = true) (hm : ((s.extract 0 3).toList == [77, 83, 72]) = false) :
    Calls Tryz.prog 12 #[.string s] w (ParsePost w (parseL s)) := by
  have HB0 := hide (below_start w)
  have h0' : ((s.size : Int) == 0) = false := by rw [beq_eq_false_iff_ne]; omega
  have h8' : ¬ (s.size : Int) < 8 := by omega
  have h8d : decide ((s.size : Int) < 8) = false := decide_eq_false h8'
  have h3 : (3 : Int) ≤ (s.size : Int) := by omega
  have h4 : ¬ (40000 : Int) < (s.size : Int) := by omega
  have hm' : ((s.extract 0 3).toList != [77, 83, 72]) = true := by unfold bne; rw [hm]; rfl
  have HX : Hid (parseL s = .error 3) := parseL_3 s (by omega) (by omega) hby (by unfold headB; rw [hm]; simp)
  have HBY := hide hby
  clear hby h8
  go_enter Tryz.func12, Tryz.ntmps12
  go_wp2_with fail
  refine (bytes_any s _ (by omega)).mono ?_
  rintro e w' ⟨rfl, rfl⟩
  rw [HBY.out]
  go_wp2_with fail
  go_quiet (fail)
  go_wp2_with fail
  exact bodyPost_ret (v := .tuple #[.agg #[.slice none 0 0], .int .i64 3]) (by simp [results, Tryz.results12, go_sem]) rfl (post_err HX.out rfl ((below_drewN HB0.out _).setCell (by simp) _))
set_option maxRecDepth 100000 in
set_option maxHeartbeats 4000000 in
/-- code 3, where its delimiters are not allowed -/
theorem parseSpec_del (s : ByteArray) (w : World) (h8 : 8 ≤ s.size) (h40 : s.size ≤ 40000) (hby : bytesB s = true) (hm : ((s.extract 0 3).toList == [77, 83, 72]) = true) (hdl : delimsB (s.extract 3 8) = false) :
    Calls Tryz.prog 12 #[.string s] w (ParsePost w (parseL s)) := by
  have HB0 := hide (below_start w)
  have h0' : ((s.size : Int) == 0) = false := by rw [beq_eq_false_iff_ne]; omega
  have h8' : ¬ (s.size : Int) < 8 := by omega
  have h8d : decide ((s.size : Int) < 8) = false := decide_eq_false h8'
  have h3 : (3 : Int) ≤ (s.size : Int) := by omega
  have h38 : (8 : Int) ≤ (s.size : Int) := by omega
  have h4 : ¬ (40000 : Int) < (s.size : Int) := by omega
  have hm' : ((s.extract 0 3).toList != [77, 83, 72]) = false := by unfold bne; rw [hm]; rfl
  have HX : Hid (parseL s = .error 3) := parseL_3 s (by omega) (by omega) hby (by unfold headB; rw [hdl]; simp)
  have h5 : (s.extract 3 8).size = 5 := by rw [ByteArray.size_extract]; omega
  have HBY := hide hby
  have HDL := hide hdl
  have HCALL : Hid (∀ w, Calls Tryz.prog 27 #[.string (s.extract 3 8)] w fun e w' => e = .returned (.bool false) ∧ w' = w) := fun w => by rw [← HDL.out]; exact delims_any (s.extract 3 8) w h5
  clear hby h8 hdl
  go_enter Tryz.func12, Tryz.ntmps12
  go_wp2_with fail
  refine (bytes_any s _ (by omega)).mono ?_
  rintro e w' ⟨rfl, rfl⟩
  rw [HBY.out]
  go_wp2_with fail
  go_quiet (first | (go_at_call 27; refine Calls.quiet_of_same (HCALL.out _)))
  go_wp2_with fail
  exact bodyPost_ret (v := .tuple #[.agg #[.slice none 0 0], .int .i64 3]) (by simp [results, Tryz.results12, go_sem]) rfl (post_err HX.out rfl ((below_drewN HB0.out _).setCell (by simp) _))
end Go.Proofs.YtcphfhfockjljaaGreatDoor.Msg
