import Derived.Test.YtfcmhnfdbobnlaaGreatDoorPhasewithRRplKitwithPageKit
namespace Go.Proofs.YtfcmhnfdbobnlaaGreatDoor.Msg
open Go.ChangeShapes Go.WideShapes Go.ChangeAt Go.RowKit
set_option linter.unusedVariables false
set_option linter.unusedSimpArgs false

theorem getS_of {xs : List Seg} {v : Value} {w : World} {lo : Nat} (hv : SegsAt lo w v xs) (hsz : msgSz xs ≤ 1048576) : ∀ (W : World) (n : ByteArray) (f c : Int), Below w.heap.size w W → n.size ≤ 3 → 0 ≤ f → f ≤ 20 → 0 ≤ c → c ≤ 20 →
    Calls Tryz.prog 14 #[.agg #[v], .string n, .int .i64 f, .int .i64 c] W fun e W' => e = .returned (.string (getFrom xs n f c)) ∧ Below W.heap.size W W' := fun W n f c hb hn h1 h2 h3 h4 =>
  getSpec_any xs n f c v W (by omega) (by unfold msgSz lenSum at hsz; omega) (by omega) (by omega) (by omega) (by omega) (At.kept kept_seg hv hb) (fun i h => by
    have h5 := mem_le segSz xs xs[i] (List.getElem_mem h)
    have h6 : xs[i].fields.length ≤ segSz xs[i] := by unfold segSz lenSum; omega
    unfold msgSz lenSum at hsz
    omega)
theorem readS_results {X : World} {R : Nat} {tmps : Array Value} {t0 t1 t3 t5 : ByteArray} {k2 : Int} {ad : Option Addr} {ln cp : Nat} {x : Bool} (h2 : tmps[2]? = some (.pointer (some ⟨R, 0, none⟩))) (h3 : tmps[3]? = some (.bool x)) (h : Box X R 28 #[.string t0, .string t1, .int .i64 k2, .string t3, .slice ad ln cp, .string t5]) :
    (results Tryz.f5 tmps).run Tryz.prog X = .ok (.tuple #[.agg #[.string t0, .string t1, .int .i64 k2, .string t3, .slice ad ln cp, .string t5], .bool x]) X := by
  have c0 := h.cell 0 (by simp)
  have c1 := h.cell 1 (by simp)
  have c2 := h.cell 2 (by simp)
  have c3 := h.cell 3 (by simp)
  have c4 := h.cell 4 (by simp)
  have c5 := h.cell 5 (by simp)
  simp at c0 c1 c2 c3 c4 c5
  have hl := h.lt
  simp [results, Tryz.results5, go_sem, h2, h3, c0, c1, c2, c3, c4, c5, hl]

set_option maxRecDepth 100000 in
set_option maxHeartbeats 16000000 in
theorem readRplS_any (xs : List Seg) (a : Option Addr) (cap : Nat) (w : World) {lo : Nat} (hv : SegsAt lo w (.slice a xs.length cap) xs) (hcap : xs.length ≤ cap) (hcapm : cap ≤ 9223372036854775807) (hsz : msgSz xs ≤ 1048576) :
    Calls Tryz.prog 5 #[.agg #[.slice a xs.length cap]] w (RplPost w (readS xs)) := by
  obtain ⟨x1, hx1⟩ : ∃ x1, w.alloc (Obj.cells #[.slice a xs.length cap] 33) = x1 := ⟨_, rfl⟩
  obtain ⟨w1, hw1⟩ : ∃ w1, x1.alloc (Obj.cells #[.string ⟨#[]⟩, .string ⟨#[]⟩, .int .i64 0, .string ⟨#[]⟩, .slice none 0 0, .string ⟨#[]⟩] 28) = w1 := ⟨_, rfl⟩
  have sx1 : x1.heap.size = w.heap.size + 1 := by rw [← hx1]; simp
  have sw1 : w1.heap.size = w.heap.size + 1 + 1 := by rw [← hw1]; simp [sx1]
  have bx1 : Below w.heap.size w x1 := by rw [← hx1]; exact (Below.refl _ _).alloc (Nat.le_refl _) _
  have bw1 : Below x1.heap.size x1 w1 := by rw [← hw1]; exact (Below.refl _ _).alloc (Nat.le_refl _) _
  have k0 : w1.cell? ⟨w.heap.size, 0, none⟩ = some (.slice a xs.length cap) := (bw1.cell (p := ⟨w.heap.size, 0, none⟩) (by rw [sx1]; simp)).trans (by rw [← hx1]; simp)
  have HRES : Hid (Box w1 (w.heap.size + 1) 28 #[.string ⟨#[]⟩, .string ⟨#[]⟩, .int .i64 0, .string ⟨#[]⟩, .slice none 0 0, .string ⟨#[]⟩]) := by rw [← hw1, ← sx1]; exact Box.new _ _ _
  have HB1 := hide (bjoin' bw1 bx1)
  have HV1 := hide (At.kept kept_seg hv HB1.out)
  have HG := hide (getS_of HV1.out hsz)
  have HG1 := hide (fun W (h : Below w1.heap.size w1 W) => HG.out W ⟨#[77, 83, 65]⟩ 1 1 h (by decide) (by decide) (by decide) (by decide) (by decide))
  have HG2 := hide (fun W (h : Below w1.heap.size w1 W) => HG.out W ⟨#[77, 83, 65]⟩ 2 1 h (by decide) (by decide) (by decide) (by decide) (by decide))
  have HG3 := hide (fun W (h : Below w1.heap.size w1 W) => HG.out W ⟨#[81, 65, 75]⟩ 1 1 h (by decide) (by decide) (by decide) (by decide) (by decide))
  have HG4 := hide (fun W (h : Below w1.heap.size w1 W) => HG.out W ⟨#[68, 83, 67]⟩ 1 1 h (by decide) (by decide) (by decide) (by decide) (by decide))
  have HGE := hide (fun W (h : Below w1.heap.size w1 W) => HG.out W ⟨#[69, 82, 82]⟩ 3 1 h (by decide) (by decide) (by decide) (by decide) (by decide))
  have KM : Hid (∀ X, Below w1.heap.size w1 X → X.cell? ⟨w.heap.size, 0, none⟩ = some (.slice a xs.length cap)) := fun X h => (h.cell (p := ⟨w.heap.size, 0, none⟩) (by rw [sw1]; dsimp only; omega)).trans k0
  have hnl : xs.length ≤ 1048576 := by unfold msgSz lenSum at hsz; omega
  have HSZ := hide hsz
  have HLZ : Hid ((looseS xs).ack.size ≤ 1048576 ∧ (looseS xs).control.size ≤ 1048576 ∧ (looseS xs).tag.size ≤ 1048576 ∧ (looseS xs).pointer.size ≤ 1048576 ∧ (getFrom xs ⟨#[69, 82, 82]⟩ 3 1).size ≤ 1048576) :=
    ⟨Nat.le_trans (getFrom_sz xs _ _ _) hsz, Nat.le_trans (getFrom_sz xs _ _ _) hsz, Nat.le_trans (getFrom_sz xs _ _ _) hsz, Nat.le_trans (getFrom_sz xs _ _ _) hsz, Nat.le_trans (getFrom_sz xs _ _ _) hsz⟩
  have HSW := hide sw1
  have HW1 : Hid ((w.alloc (Obj.cells #[.slice a xs.length cap] 33)).alloc (Obj.cells #[.string ⟨#[]⟩, .string ⟨#[]⟩, .int .i64 0, .string ⟨#[]⟩, .slice none 0 0, .string ⟨#[]⟩] 28) = w1) := by rw [hx1]; exact hw1
  obtain ⟨n, hn⟩ : ∃ n, xs.length = n := ⟨_, rfl⟩
  have HN := hide hn
  rw [hn] at k0 KM HV1 HW1 hcap hnl ⊢
  rw [hn] at HG1 HG2 HG3 HG4 HGE
  have HLO : Hid (looseS xs = ⟨getFrom xs ⟨#[77, 83, 65]⟩ 1 1, getFrom xs ⟨#[77, 83, 65]⟩ 2 1, if aAA (getFrom xs ⟨#[77, 83, 65]⟩ 1 1) then 0 else numS (getFrom xs ⟨#[69, 82, 82]⟩ 3 1).data.toList, getFrom xs ⟨#[81, 65, 75]⟩ 1 1, rowsOf xs, getFrom xs ⟨#[68, 83, 67]⟩ 1 1⟩) := rfl
  obtain ⟨ack, hack⟩ : ∃ t, getFrom xs ⟨#[77, 83, 65]⟩ 1 1 = t := ⟨_, rfl⟩
  obtain ⟨control, hctl⟩ : ∃ t, getFrom xs ⟨#[77, 83, 65]⟩ 2 1 = t := ⟨_, rfl⟩
  obtain ⟨tag, htag⟩ : ∃ t, getFrom xs ⟨#[81, 65, 75]⟩ 1 1 = t := ⟨_, rfl⟩
  obtain ⟨pointer, hptr⟩ : ∃ t, getFrom xs ⟨#[68, 83, 67]⟩ 1 1 = t := ⟨_, rfl⟩
  obtain ⟨et, het⟩ : ∃ t, getFrom xs ⟨#[69, 82, 82]⟩ 3 1 = t := ⟨_, rfl⟩
  rw [hack] at HG1 HLO
  rw [hctl] at HG2 HLO
  rw [htag] at HG3 HLO
  rw [hptr] at HG4 HLO
  rw [het] at HGE HLO HLZ
  clear hack hctl htag hptr het hx1 hw1 sx1 sw1 bx1 bw1 hv hsz hn HG
  go_enter Tryz.func5, Tryz.ntmps5
  go_upto_region 1 with fail
  rw [HW1.out]
  go_cut [4] (fun v4 wx => ∃ M, v4 = .pointer (some ⟨M, 0, none⟩) ∧ RB w1 wx M #[.string ack, .string control, .int .i64 0, .string tag, .slice none 0 0, .string pointer])
  case first =>
    obtain ⟨D, hDe⟩ : ∃ D, w1.drew = D := ⟨_, rfl⟩
    have hD0 : Below w1.heap.size w1 w1.drew := (Below.refl _ _).drew
    have hD : Below w1.heap.size w1 D := by rw [← hDe]; exact hD0
    have hDs := hD.size
    go_region_held3 (fun X : World => X.cell? ⟨w.heap.size, 0, none⟩ = some (.slice a n cap))
      (exact KM.out _ (by repeat (first | with_reducible exact hD0 | with_reducible exact hD | with_reducible exact hB4 | with_reducible exact hB3 | with_reducible exact hB2 | with_reducible exact hB1 | with_reducible refine Below.al2 ?_ (Nat.le_refl _) | with_reducible refine Below.st2 ?_ (by first | assumption | omega | (simp only [Deep.nblk_alloc, Deep.nblk_setCell]; omega)))))
      (first
        | (go_at_call 14; with_reducible refine (HG4.out _ ?hq4).mono ?_; (case hq4 => (repeat (first | with_reducible exact hB3 | with_reducible refine Below.al2 ?_ (Nat.le_refl _)))); rintro e v4 ⟨rfl, hb4⟩; have hB4 : Below w1.heap.size w1 v4 := bjoin hb4 (by repeat (first | with_reducible exact hB3 | with_reducible refine Below.al2 ?_ (Nat.le_refl _))); have hz4 := hB4.size; have hz1 := hB1.size; have hz2 := hB2.size; have hz3 := hB3.size; first
          | (with_reducible refine rb6 (((((Box.new _ _ _).below hb1).below hb2).below hb3).below hb4) ?_; rintro hbx ⟨⟨z0, z1, z2, z3, z4, z5⟩, f0, f1, f2, f3, f4, f5⟩)
          | (with_reducible refine rb6 ((((Box.new _ _ _).below hb2).below hb3).below hb4) ?_; rintro hbx ⟨⟨z0, z1, z2, z3, z4, z5⟩, f0, f1, f2, f3, f4, f5⟩)
          | (with_reducible refine rb6 (((Box.new _ _ _).below hb3).below hb4) ?_; rintro hbx ⟨⟨z0, z1, z2, z3, z4, z5⟩, f0, f1, f2, f3, f4, f5⟩)
          | (with_reducible refine rb6 ((Box.new _ _ _).below hb4) ?_; rintro hbx ⟨⟨z0, z1, z2, z3, z4, z5⟩, f0, f1, f2, f3, f4, f5⟩)
          | skip)
        | (go_at_call 14; with_reducible refine (HG3.out _ ?hq3).mono ?_; (case hq3 => (repeat (first | with_reducible exact hB2 | with_reducible refine Below.al2 ?_ (Nat.le_refl _)))); rintro e v3 ⟨rfl, hb3⟩; have hB3 : Below w1.heap.size w1 v3 := bjoin hb3 (by repeat (first | with_reducible exact hB2 | with_reducible refine Below.al2 ?_ (Nat.le_refl _))))
        | (go_at_call 14; with_reducible refine (HG2.out _ ?hq2).mono ?_; (case hq2 => (repeat (first | with_reducible exact hB1 | with_reducible refine Below.al2 ?_ (Nat.le_refl _)))); rintro e v2 ⟨rfl, hb2⟩; have hB2 : Below w1.heap.size w1 v2 := bjoin hb2 (by repeat (first | with_reducible exact hB1 | with_reducible refine Below.al2 ?_ (Nat.le_refl _))))
        | (go_at_call 14; with_reducible refine (HG1.out _ ?hq1).mono ?_; (case hq1 => (repeat (first | with_reducible exact hD | with_reducible refine Below.al2 ?_ (Nat.le_refl _)))); rintro e v1 ⟨rfl, hb1⟩; have hB1 : Below w1.heap.size w1 v1 := bjoin hb1 (by repeat (first | with_reducible exact hD | with_reducible refine Below.al2 ?_ (Nat.le_refl _)))))
    all_goals
      go_wp2_with fail
      go_meet
      case rel => first
        | with_reducible exact ⟨_, rfl, RB.late hB4⟩
        | (refine ⟨_, rfl, ?_⟩; with_reducible exact RB.early hbx hB4 (by first | assumption | omega | (simp only [Deep.nblk_alloc]; omega)) _ _ _ _ _ _)
  case rest =>
    obtain ⟨M, rfl, hRB⟩ := hcut
    obtain ⟨X0, rfl⟩ : ∃ x, x = wc := ⟨_, rfl⟩
    obtain ⟨cd, hcd⟩ : ∃ cd : Int, (if aAA ack then 0 else numS et.data.toList) = cd := ⟨_, rfl⟩
    have HCD := hide hcd
    rw [hcd] at HLO
    clear hcd
    have HRB := hide hRB
    clear hRB
    refine rb6 HRB.out.1 ?_
    rintro hbx ⟨⟨z0, z1, z2, z3, z4, z5⟩, f0, f1, f2, f3, f4, f5⟩
    have km := KM.out X0 HRB.out.2.1
    go_upto_if 18 with fail
    go_cut [18] (fun v18 wx => RB w1 wx M #[.string ack, .string control, .int .i64 cd, .string tag, .slice none 0 0, .string pointer])
    case first =>
      cases hAA : aAA ack
      · have e1 : (ack.toList == [65, 65]) = false := hAA
        have e1n : (!(ack.toList == [65, 65])) = true := by rw [e1]; rfl
        have hcd : numS et.data.toList = cd := by have := HCD.out; rw [hAA] at this; exact this
        have HNM := hide (fun W => number_any et W (by have := HLZ.out.2.2.2.2; omega))
        rw [hcd] at HNM
        rw [e1n]
        clear e1n hAA hcd
        go_wp2_with fail
        refine (HGE.out _ HRB.out.2.1).mono ?_
        rintro e X1 ⟨rfl, hb1⟩
        go_wp2_with fail
        refine (HNM.out _).mono ?_
        rintro e X2 ⟨rfl, hb2⟩
        have hbx2 := (hbx.below hb1).below hb2
        have HB2 := hide (bjoin hb2 (bjoin hb1 HRB.out.2.1))
        clear z0 z1 z2 z3 z4 z5 f0 f1 f2 f3 f4 f5 hb1 hb2 km
        have HBX2 := hide hbx2
        refine rb6 hbx2 ?_
        rintro _ ⟨⟨z0, z1, z2, z3, z4, z5⟩, f0, f1, f2, f3, f4, f5⟩
        clear hbx2 hbx
        go_wp2_with fail
        go_meet
        case rel => exact ⟨by have := HBX2.out.set 2 (.int .i64 cd); simpa using this, HB2.out.setCell (p := ⟨M, 2, none⟩) HRB.out.2.2 _, HRB.out.2.2⟩
      · have e1 : (ack.toList == [65, 65]) = true := hAA
        have e1n : (!(ack.toList == [65, 65])) = false := by rw [e1]; rfl
        have hcd : cd = 0 := by have := HCD.out; rw [hAA] at this; exact this.symm
        subst hcd
        rw [e1n]
        clear e1n hAA
        go_wp2_with fail
        go_meet
        case rel => exact HRB.out
    case rest =>
      obtain ⟨X, rfl⟩ : ∃ x, x = wc := ⟨_, rfl⟩
      have HRX := hide hcut
      clear hcut HRB hbx z0 z1 z2 z3 z4 z5 f0 f1 f2 f3 f4 f5 km HG1 HG2 HG3 HG4 HGE
      go_wp2_with fail
      go_loopg [5] n (fun q i wr => ∃ (k : Nat) (ar : Option Addr) (cr nr : Nat), k ≤ n ∧ q = n - k ∧ i = .int .i64 (k : Int) ∧ nr = (rowsOf (xs.take k)).length ∧ RB w1 wr M #[.string ack, .string control, .int .i64 cd, .string tag, .slice ar nr cr, .string pointer] ∧ FB strC 1 9 X.heap.size wr (.slice ar nr cr) (rowsOf (xs.take k)) ∧ X.heap.size ≤ wr.heap.size)
      case atStart => exact ⟨0, none, 0, 0, Nat.zero_le _, rfl, rfl, rfl, HRX.out, FB.nil _ _ _ _ _, Nat.le_refl _⟩
      case round =>
        obtain ⟨k, ar, cr, nr, hk, rfl, rfl, hnr, hR, hF, hX⟩ := hrel
        obtain ⟨Y, rfl⟩ : ∃ x, x = wr := ⟨_, rfl⟩
        have HR := hide hR
        have HF := hide hF
        have HNR := hide hnr
        have HX := hide hX
        have km := KM.out Y HR.out.2.1
        have hnr6 : nr ≤ 262144 := by rw [hnr]; exact rows_count HSZ.out k
        clear hR hF hnr hX
        by_cases hlt : k < n
        · have hki : (k : Int) < (n : Int) := by omega
          have k1 : k < xs.length := by have := HN.out; omega
          obtain ⟨a', cap', e', hc⟩ := (At.kept kept_seg HV1.out HR.out.2.1).form
          injection e' with ea eb ec
          subst ea ec
          clear eb
          obtain ⟨b, off, rfl, hlo, hbl, hcell, hcs, hrest⟩ := hc k k1
          have HSEG : Hid (SegsAt lo Y (.slice (some ⟨b, off + k * 2, none⟩) 1 (cap - k)) [xs[k]]) := ⟨by simp, .inr ⟨b, off + k * 2, cap - k, rfl, ⟨hlo, hbl⟩, fun i hi => by
            have hi0 : i = 0 := by simpa using hi
            subst hi0
            show SegR lo Y b (off + k * 2 + 0 * 2) xs[k]
            rw [Nat.zero_mul, Nat.add_zero]
            exact ⟨hcell, hcs, hrest⟩⟩⟩
          have HYES := hide (fun h => rowsOf_yes k1 h)
          have HNO := hide (fun h => rowsOf_no k1 h)
          have HZ1 : Hid (msgSz [xs[k]] ≤ 1048576) := by
            have h2 := mem_le segSz xs xs[k] (List.getElem_mem k1)
            have h3 : msgSz [xs[k]] = 1 + segSz xs[k] := by simp [msgSz, lenSum, sumOf]
            have h := HSZ.out
            unfold msgSz lenSum at h
            show _ ≤ _
            omega
          obtain ⟨sg, hsg⟩ : ∃ s, xs[k] = s := ⟨_, rfl⟩
          rw [hsg] at hcell HSEG HYES HNO HZ1
          clear hc hrest hcs hsg
          cases hrb : rdtB sg
          · have e1 : (sg.name.toList == [82, 68, 84]) = false := hrb
            have HNO2 := hide (HNO.out hrb)
            clear hrb
            go_wp2_with fail
            go_roundg (n - (k + 1))
            case measure => omega
            case rel => exact ⟨k + 1, ar, cr, nr, by omega, rfl, by go_num, by rw [HNO2.out]; exact HNR.out, HR.out, by rw [HNO2.out]; exact HF.out, HX.out⟩
          · have e1 : (sg.name.toList == [82, 68, 84]) = true := hrb
            have HYES2 := hide (HYES.out hrb)
            obtain ⟨rw1, hrw1⟩ : ∃ t, getFrom [sg] ⟨#[82, 68, 84]⟩ 1 1 = t := ⟨_, rfl⟩
            have HGR := hide (fun W (h : Below Y.heap.size Y W) => getS_of HSEG.out HZ1.out W ⟨#[82, 68, 84]⟩ 1 1 h (by decide) (by decide) (by decide) (by decide) (by decide))
            rw [hrw1] at HGR HYES2
            clear hrb hrw1 HYES HNO
            obtain ⟨D, hDe⟩ : ∃ D, Y.drew = D := ⟨_, rfl⟩
            have hD : Below Y.heap.size Y D := by rw [← hDe]; exact (Below.refl _ _).drew
            have z4 : D.cell? ⟨M, 4, none⟩ = some (.slice ar nr cr) := (HR.out.1.below hD).cell 4 (by simp)
            have kmD : D.cell? ⟨w.heap.size, 0, none⟩ = some (.slice (some ⟨b, off, none⟩) n cap) := KM.out D (bjoin hD HR.out.2.1)
            have hwr : IntKind.i64.wrap ((k : Int) + 1) = (k : Int) + 1 := by rw [IntKind.wrap_i64]; omega
            have hsl0 : (0 : Int) ≤ (k : Int) + 1 := by omega
            have hsl1 : (k : Int) + 1 ≤ (cap : Int) := by omega
            have hsl2 : (k : Int) ≤ (k : Int) + 1 := by omega
            have hsl3 : ((k : Int) + 1).toNat = k + 1 := by omega
            have hsl4 : ¬ cap = k := by omega
            have hsl5 : k + 1 - k = 1 := by omega
            have hSd : (fun X : World => X.cell? ⟨M, 4, none⟩ = some (.slice ar nr cr) ∧ X.cell? ⟨w.heap.size, 0, none⟩ = some (.slice (some ⟨b, off, none⟩) n cap)) D := ⟨z4, kmD⟩
            have hDe' := hDe
            go_upto_region 8 with fail
            refine wp_region_two (fun X : World => X.cell? ⟨M, 4, none⟩ = some (.slice ar nr cr) ∧ X.cell? ⟨w.heap.size, 0, none⟩ = some (.slice (some ⟨b, off, none⟩) n cap)) 12 (by kernel_rfl) ?_
            rw [hDe]
            clear hDe hDe'
            refine wpTwo_take (i := 0) (some 37) (v := ?v0) rfl rfl (by kernel_rfl) (by kernel_rfl) (by kernel_rfl) (by kernel_rfl) (fun _ _ _ h => h) hSd (Or.inl ⟨by rfl, ?hy0⟩) ?rest0
            case hy0 => (intro w hSw; (try dsimp only at hSw); go_simp; try with_reducible rfl)
            try simp only [Act.put, List.setIfInBounds_toArray, List.set_cons_zero, List.set_cons_succ]
            refine wpTwo_take (i := 1) (some 38) (v := ?v1) rfl rfl (by kernel_rfl) (by kernel_rfl) (by kernel_rfl) (by kernel_rfl) (fun _ _ _ h => h) hSd (Or.inl ⟨by rfl, ?hy1⟩) ?rest1
            case hy1 => (intro w hSw; (try dsimp only at hSw); go_simp; try with_reducible rfl)
            try simp only [Act.put, List.setIfInBounds_toArray, List.set_cons_zero, List.set_cons_succ]
            refine wpTwo_take (i := 2) (some 39) (v := ?v2) rfl rfl (by kernel_rfl) (by kernel_rfl) (by kernel_rfl) (by kernel_rfl) (fun _ _ _ h => h) hSd (Or.inl ⟨by rfl, ?hy2⟩) ?rest2
            case hy2 => (intro w hSw; (try dsimp only at hSw); go_simp; try with_reducible rfl)
            try simp only [Act.put, List.setIfInBounds_toArray, List.set_cons_zero, List.set_cons_succ]
            refine wpTwo_take (i := 3) (some 40) (v := ?v3) rfl rfl (by kernel_rfl) (by kernel_rfl) (by kernel_rfl) (by kernel_rfl) (fun _ _ _ h => h) hSd (Or.inl ⟨by rfl, ?hy3⟩) ?rest3
            case hy3 => (intro w hSw; (try dsimp only at hSw); go_simp; try with_reducible rfl)
            try simp only [Act.put, List.setIfInBounds_toArray, List.set_cons_zero, List.set_cons_succ]
            refine wpTwo_take (i := 4) (some 41) (v := ?v4) rfl rfl (by kernel_rfl) (by kernel_rfl) (by kernel_rfl) (by kernel_rfl) (fun _ _ _ h => h) hSd (Or.inl ⟨by rfl, ?hy4⟩) ?rest4
            case hy4 => (intro w hSw; (try dsimp only at hSw); go_simp; try with_reducible rfl)
            try simp only [Act.put, List.setIfInBounds_toArray, List.set_cons_zero, List.set_cons_succ]
            refine wpTwo_take (i := 5) (some 42) (v := ?v5) rfl rfl (by kernel_rfl) (by kernel_rfl) (by kernel_rfl) (by kernel_rfl) (fun _ _ _ h => h) hSd (Or.inl ⟨by rfl, ?hy5⟩) ?rest5
            case hy5 => (intro w hSw; (try dsimp only at hSw); go_simp; try with_reducible rfl)
            try simp only [Act.put, List.setIfInBounds_toArray, List.set_cons_zero, List.set_cons_succ]
            refine wpTwo_take (i := 6) (some 43) (v := ?v6) rfl rfl (by kernel_rfl) (by kernel_rfl) (by kernel_rfl) (by kernel_rfl) (fun _ _ _ h => h) hSd (Or.inl ⟨by rfl, ?hy6⟩) ?rest6
            case hy6 => (intro w hSw; (try dsimp only at hSw); go_simp; try with_reducible rfl)
            try simp only [Act.put, List.setIfInBounds_toArray, List.set_cons_zero, List.set_cons_succ]
            refine wpTwo_take (i := 7) (some 44) (v := ?v7) rfl rfl (by kernel_rfl) (by kernel_rfl) (by kernel_rfl) (by kernel_rfl) (fun _ _ _ h => h) hSd (Or.inl ⟨by rfl, ?hy7⟩) ?rest7
            case hy7 => (intro w hSw; (try dsimp only at hSw); go_simp; try with_reducible rfl)
            try simp only [Act.put, List.setIfInBounds_toArray, List.set_cons_zero, List.set_cons_succ]
            refine wpTwo_take (i := 8) (some 45) (v := ?v8) rfl rfl (by kernel_rfl) (by kernel_rfl) (by kernel_rfl) (by kernel_rfl) (fun _ _ _ h => h) hSd (Or.inl ⟨by rfl, ?hy8⟩) ?rest8
            case hy8 => (intro w hSw; (try dsimp only at hSw); go_simp; try with_reducible rfl)
            try simp only [Act.put, List.setIfInBounds_toArray, List.set_cons_zero, List.set_cons_succ]
            refine wpTwo_one (j := 9) (by kernel_rfl) rfl (fun K hK => ?_)
            go_simp
            refine (HGR.out D hD).mono ?_
            rintro e Z ⟨rfl, hbZ⟩
            dsimp only
            have hYZ : Below Y.heap.size Y Z := bjoin hbZ hD
            have hw1Z : Below w1.heap.size w1 Z := bjoin hYZ HR.out.2.1
            have hSz : (fun X : World => X.cell? ⟨M, 4, none⟩ = some (.slice ar nr cr) ∧ X.cell? ⟨w.heap.size, 0, none⟩ = some (.slice (some ⟨b, off, none⟩) n cap)) Z := ⟨(HR.out.1.below hYZ).cell 4 (by simp), KM.out Z hw1Z⟩
            refine hK.out _ _ (fun _ => hSz) ?_
            clear hK K
            try simp only [Act.put, List.setIfInBounds_toArray, List.set_cons_zero, List.set_cons_succ]
            have hSa : (fun X : World => X.cell? ⟨M, 4, none⟩ = some (.slice ar nr cr) ∧ X.cell? ⟨w.heap.size, 0, none⟩ = some (.slice (some ⟨b, off, none⟩) n cap)) (Z.alloc (.cells #[.string rw1] 9)) := ⟨((HR.out.1.below hYZ).alloc _).cell 4 (by simp), KM.out _ (hw1Z.alloc hw1Z.size _)⟩
            refine wpTwo_one (j := 10) (by kernel_rfl) rfl (fun K hK => ?_)
            go_simp
            refine hK.out _ _ (fun _ => hSa) ?_
            clear hK K
            try simp only [Act.put, List.setIfInBounds_toArray, List.set_cons_zero, List.set_cons_succ]
            obtain ⟨v', Z', hr2, hF', hOn, hat⟩ := app1 (C := strC) (c := 1) (bytes := 16) (z := .string ByteArray.empty) Tryz.underlying26 info_string rfl (by decide) (fun _ => rfl) strC_one (HF.out.below hYZ) 26 rw1 (by have := hYZ.size; have := HX.out; omega) (by rw [← HNR.out]; omega) (by decide)
            have hML : M < X.heap.size := HRX.out.1.lt
            have hown := (HF.out.below hYZ).own
            have hMn : M ∉ (Value.slice ar nr cr).ownBlock.toList := fun hm => by have := (hown M hm).1; omega
            have hBX' : Box Z' M 28 #[.string ack, .string control, .int .i64 cd, .string tag, .slice ar nr cr, .string pointer] := ((HR.out.1.below hYZ).only hOn hMn)
            have hw1s : w1.heap.size ≤ X.heap.size := HRX.out.2.1.size
            have hw1Z' : Below w1.heap.size w1 Z' := hw1Z.trans (hOn.below hw1Z.size fun d hd => by have := (hown d hd).1; omega)
            have hS6 : (fun X : World => X.cell? ⟨M, 4, none⟩ = some (.slice ar nr cr) ∧ X.cell? ⟨w.heap.size, 0, none⟩ = some (.slice (some ⟨b, off, none⟩) n cap)) Z' := ⟨hBX'.cell 4 (by simp), KM.out Z' hw1Z'⟩
            have r4 : Z'.cell? ⟨M, 4, none⟩ = some (.slice ar nr cr) := hBX'.cell 4 (by simp)
            have rf4 := hBX'.frozen 4
            obtain ⟨a8, c8, e8, _, _⟩ := hF'.form
            rw [List.length_append, List.length_singleton, ← HNR.out] at e8
            subst e8
            refine wpTwo_one (j := 11) (by kernel_rfl) rfl (fun K hK => ?_)
            refine step_app rfl _ _ 26 rfl hr2 (by first | rfl | simp [Act.eval, Act.put]) (by first | rfl | simp [Act.eval, Act.put]) ?_
            show K (Act.put _ (some 48) _) _
            refine hK.out _ _ (fun _ => hS6) ?_
            clear hK K
            try simp only [Act.put, List.setIfInBounds_toArray, List.set_cons_zero, List.set_cons_succ]
            refine wpTwo_one (j := 12) (by kernel_rfl) rfl (fun K hK => ?_)
            go_simp
            refine hK.out _ _ (fun h => absurd h (by decide)) ?_
            clear hK K
            refine wpTwo_one (j := 13) (by kernel_rfl) rfl (fun K hK => ?_)
            go_simp
            refine hK.out _ _ (fun h => absurd h (by decide)) ?_
            clear hK K
            refine wpTwo_done (by kernel_rfl) ?_ _
            have hZs := hOn.size
            have hYs := hYZ.size
            have HREL : Hid (RB w1 (Z'.setCell ⟨M, 4, none⟩ (.slice a8 (nr + 1) c8)) M #[.string ack, .string control, .int .i64 cd, .string tag, .slice a8 (nr + 1) c8, .string pointer] ∧ FB strC 1 9 X.heap.size (Z'.setCell ⟨M, 4, none⟩ (.slice a8 (nr + 1) c8)) (.slice a8 (nr + 1) c8) (rowsOf (xs.take (k + 1))) ∧ X.heap.size ≤ (Z'.setCell ⟨M, 4, none⟩ (.slice a8 (nr + 1) c8)).heap.size) := by
              refine ⟨⟨?_, hw1Z'.setCell (p := ⟨M, 4, none⟩) HR.out.2.2 _, HR.out.2.2⟩, ?_, ?_⟩
              · have := hBX'.set 4 (.slice a8 (nr + 1) c8)
                simpa using this
              · rw [HYES2.out]
                exact hF'.keep fun b hb => Deep.blk_setCell_other _ ⟨M, 4, none⟩ _ b (by have := (hF'.own b hb).1; dsimp only; omega)
              · rw [Deep.nblk_setCell]; have := HX.out; omega
            have HLEN : Hid (nr + 1 = (rowsOf (xs.take (k + 1))).length) := by show _ = _; rw [HYES2.out, List.length_append, List.length_singleton, ← HNR.out]
            clear hSd hSz hSa hS6 r4 rf4 hr2 hF' hOn hat hown hMn hBX' hw1Z' hw1Z hYZ hbZ hZs hYs hML hw1s
            go_wp2_with fail
            go_roundg (n - (k + 1))
            case measure => omega
            case rel => exact ⟨k + 1, a8, c8, nr + 1, by omega, rfl, by go_num, HLEN.out, HREL.out.1, HREL.out.2.1, HREL.out.2.2⟩
        · have hki : ¬ (k : Int) < (n : Int) := by omega
          have hkn : xs.take k = xs := List.take_of_length_le (by have := HN.out; omega)
          rw [hkn] at HF HNR
          have HNR2 := HNR.out
          obtain ⟨r, hr⟩ : ∃ r : Rpl, looseS xs = r := ⟨_, rfl⟩
          have HRR : Hid (r = ⟨ack, control, cd, tag, rowsOf xs, pointer⟩) := hr.symm.trans HLO.out
          have HSTR := hide (fb_strs HF.out (by rw [← HNR2]; omega) (fun s hs => Nat.le_trans (rowsOf_sz HSZ.out s hs) (by decide)))
          rw [hr] at HLZ
          have HWR := hide (fun W (h : Below Y.heap.size Y W) => writeRplS_any r ar cr W (lo := X.heap.size) HLZ.out.1 HLZ.out.2.1 HLZ.out.2.2.1 HLZ.out.2.2.2.1 (by rw [HRR.out]; show StrsAt _ W (.slice ar (rowsOf xs).length cr) (rowsOf xs); rw [← HNR2]; exact At.kept kept_str HSTR.out h))
          have HRSY := hide (readS_yes (xs := xs))
          have HRSN := hide (readS_no (xs := xs))
          rw [hr] at HRSY HRSN
          obtain ⟨m', hm'⟩ : ∃ m', rplM r = m' := ⟨_, rfl⟩
          rw [hm'] at HWR HRSY HRSN
          have HRV : Hid (rplV r (.slice ar r.rows.length cr) = .agg #[.string ack, .string control, .int .i64 cd, .string tag, .slice ar nr cr, .string pointer]) := by rw [HRR.out]; unfold rplV; dsimp only; rw [HNR2]; exact rfl
          rw [HRV.out] at HWR
          clear hr hm' hkn HNR2
          refine rb6 HR.out.1 ?_
          rintro _ ⟨⟨z0, z1, z2, z3, z4, z5⟩, -⟩
          have HVY := hide (At.kept kept_seg HV1.out HR.out.2.1)
          go_wp2_with fail
          refine (HWR.out Y (Below.refl _ _)).mono ?_
          rintro e Z ⟨u, rfl, hU, hbZ⟩
          obtain ⟨au, cu, eu, _⟩ := hU.form
          subst eu
          obtain ⟨V, hV⟩ : ∃ V, Z.alloc (Obj.cells #[.slice au m'.length cu] 33) = V := ⟨_, rfl⟩
          have hbV : Below Z.heap.size Z V := by rw [← hV]; exact (Below.refl _ _).alloc (Nat.le_refl _) _
          have sV : V.heap.size = Z.heap.size + 1 := by rw [← hV]; simp
          have v0 : V.cell? ⟨Z.heap.size, 0, none⟩ = some (.slice au m'.length cu) := by rw [← hV]; simp
          have hYV : Below Y.heap.size Y V := bjoin hbV hbZ
          have hw1V : Below w1.heap.size w1 V := bjoin hYV HR.out.2.1
          have hml := hU.1
          have HUV := hide (At.kept kept_seg hU hbV)
          have HXV := hide (At.kept kept_seg HVY.out hYV)
          have HSAME := hide (fun W (h : Below V.heap.size V W) => sameMsg_b m' xs (.slice au m'.length cu) (.slice a n cap) W (At.kept kept_seg HUV.out h) (by have := At.kept kept_seg HXV.out h; exact this))
          have HRESV := hide (HRES.out.below hw1V)
          have HBV := hide hw1V
          have hRM : w.heap.size + 1 < M := by have := HRX.out.2.2; have := HSW.out; omega
          have HMV := hide (HR.out.1.below hYV)
          have HSV := hide (At.kept kept_str HSTR.out hYV)
          have kmV := KM.out V hw1V
          refine rb6 HMV.out ?_
          rintro _ ⟨⟨y0, y1, y2, y3, y4, y5⟩, -⟩
          refine rb6 HRESV.out ?_
          rintro _ ⟨⟨q0, q1, q2, q3, q4, q5⟩, f0, f1, f2, f3, f4, f5⟩
          clear z0 z1 z2 z3 z4 z5 km hU hbZ hbV hYV hw1V
          have HFIN : Hid (∀ (W : World) (p : Rpl) (ok : Bool) (uu : Value), Below w1.heap.size w1 W → Box W (w.heap.size + 1) 28 #[.string ⟨#[]⟩, .string ⟨#[]⟩, .int .i64 0, .string ⟨#[]⟩, .slice none 0 0, .string ⟨#[]⟩] → StrsAt 0 W uu p.rows → True) := fun _ _ _ _ _ _ _ => trivial
          by_cases hm0 : m'.length = 0
          · have hm0b : ((m'.length : Int) == 0) = true := by simpa using hm0
            have HX0 : Hid (readS xs = (rpl0, false)) := HRSN.out (fun h => h.1 (List.length_eq_zero_iff.1 hm0))
            clear hm0
            go_wp2_with fail
            refine bodyPost_ret (readS_results rfl rfl (HRESV.out.fill6 _ _ _ _ _ _)) rfl ?_
            rw [HX0.out]
            exact ⟨.slice none 0 0, rfl, ⟨by simp [rpl0], .inl ⟨_, _, rfl, rfl⟩⟩, below_fill6 (bjoin' HBV.out HB1.out) (Nat.le_succ _) _ _ _ _ _ _⟩
          · have hm0i : ¬ (m'.length : Int) = 0 := by omega
            have hm0b : ((m'.length : Int) == 0) = false := by simpa using hm0i
            go_wp2_with fail
            refine (HSAME.out V (Below.refl _ _)).mono ?_
            rintro e V2 ⟨bb, rfl, hbb, hb2⟩
            have HB2 := hide (bjoin hb2 HBV.out)
            have HRES2 := hide (HRESV.out.below hb2)
            have HM2 := hide (HMV.out.below hb2)
            have HS2 := hide (At.kept kept_str HSV.out hb2)
            clear y0 y1 y2 y3 y4 y5 q0 q1 q2 q3 q4 q5 f0 f1 f2 f3 f4 f5 v0 kmV hb2
            refine rb6 HM2.out ?_
            rintro _ ⟨⟨y0, y1, y2, y3, y4, y5⟩, -⟩
            refine rb6 HRES2.out ?_
            rintro _ ⟨⟨q0, q1, q2, q3, q4, q5⟩, f0, f1, f2, f3, f4, f5⟩
            have hRl : w.heap.size + 1 < V2.heap.size := HRES2.out.lt
            have hcc : bb = true ∨ bb = false := by cases bb; exact .inr rfl; exact .inl rfl
            rcases hcc with hcc | hcc
            · subst hcc
              have HX1 : Hid (readS xs = (r, true)) := HRSY.out (fun h => hm0 (by rw [h]; rfl)) (hbb.1 rfl)
              clear hm0 hm0i hbb
              go_wp2_with fail
              refine bodyPost_ret (v := .tuple #[.agg #[.string ack, .string control, .int .i64 cd, .string tag, .slice ar nr cr, .string pointer], .bool true]) (readS_results (R := w.heap.size + 1) rfl rfl (HRES2.out.fill6 _ _ _ _ _ _)) rfl ?_
              rw [HX1.out]
              refine ⟨.slice ar r.rows.length cr, by rw [HRV.out], ?_, below_fill6 (bjoin' HB2.out HB1.out) (Nat.le_succ _) _ _ _ _ _ _⟩
              rw [HRR.out]
              show StrsAt 0 _ (.slice ar (rowsOf xs).length cr) (rowsOf xs)
              rw [← HNR.out]
              refine At.mono mono_str (At.same kept_str HS2.out ⟨by simp only [Deep.nblk_setCell]; exact Nat.le_refl _, fun b hb _ => ?_⟩) (Nat.zero_le _)
              have hlt1 := HRX.out.1.lt
              iterate 6 (refine (Deep.blk_setCell_other _ _ _ _ (by dsimp only; omega)).trans ?_)
              rfl
            · subst hcc
              have HX1 : Hid (readS xs = (rpl0, false)) := HRSN.out (fun h => by have := hbb.2 h.2; cases this)
              clear hm0 hm0i hbb
              go_wp2_with fail
              refine bodyPost_ret (v := .tuple #[.agg #[.string ⟨#[]⟩, .string ⟨#[]⟩, .int .i64 0, .string ⟨#[]⟩, .slice none 0 0, .string ⟨#[]⟩], .bool false]) (readS_results (R := w.heap.size + 1) rfl rfl (HRES2.out.fill6 _ _ _ _ _ _)) rfl ?_
              rw [HX1.out]
              exact ⟨.slice none 0 0, rfl, ⟨by simp [rpl0], .inl ⟨_, _, rfl, rfl⟩⟩, below_fill6 (bjoin' HB2.out HB1.out) (Nat.le_succ _) _ _ _ _ _ _⟩
end Go.Proofs.YtfcmhnfdbobnlaaGreatDoor.Msg
