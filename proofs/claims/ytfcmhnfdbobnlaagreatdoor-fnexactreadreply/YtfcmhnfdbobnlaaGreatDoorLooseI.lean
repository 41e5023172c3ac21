import Derived.Test.YtfcmhnfdbobnlaaGreatDoorQryNumIwithWRplIwithRplReadP
import Derived.Test.YtfcmhnfdbobnlaaGreatDoorImplGet
namespace Go.Proofs.YtfcmhnfdbobnlaaGreatDoor.Msg
open Go.ChangeShapes Go.WideShapes Go.ChangeAt Go.RowKit
set_option linter.unusedVariables false
set_option linter.unusedSimpArgs false

/-! looseReply -/
theorem rdt_pick {s : Seg} (h : rdtB s = true) : getFrom [s] ⟨#[82, 68, 84]⟩ 1 1 = pick s.fields (1 - firstNo s.name) 1 := by
  have e : s.name.toList = [82, 68, 84] := eq_of_beq h
  have e2 : s.name = ⟨#[82, 68, 84]⟩ := by
    apply ByteArray.ext
    rw [ByteArray.toList_eq] at e
    exact Array.toList_inj.1 e
  unfold getFrom
  rw [List.find?_cons, e2]
  have hb : ((⟨#[82, 68, 84]⟩ : ByteArray).toList == (⟨#[82, 68, 84]⟩ : ByteArray).toList) = true := beq_self_eq_true _
  rw [hb]
  simp only [if_true]
  congr 1
theorem getI_of {xs : List Seg} {v : Value} {w : World} {lo : Nat} (hv : SegsAt lo w v xs) (hsz : msgSz xs ≤ 1048576) : ∀ (W : World) (n : ByteArray) (f c : Int), Below w.heap.size w W → n.size ≤ 3 → 0 ≤ f → f ≤ 20 → 0 ≤ c → c ≤ 20 →
    Calls Tryz.prog 37 #[.agg #[v], .string n, .int .i64 f, .int .i64 c] W fun e W' => e = .returned (.string (getFrom xs n f c)) ∧ Below W.heap.size W W' := fun W n f c hb hn h1 h2 h3 h4 =>
  getImpl_any xs n f c v W (by omega) (by unfold msgSz lenSum at hsz; omega) (by omega) (by omega) (by omega) (by omega) (At.kept kept_seg hv hb) hsz
theorem loose_res {X : World} {R : Nat} {tmps : Array Value} {t0 t1 t3 t5 : ByteArray} {k2 : Int} {ad : Option Addr} {ln cp : Nat} (h2 : tmps[2]? = some (.pointer (some ⟨R, 0, none⟩))) (h : Box X R 28 #[.string t0, .string t1, .int .i64 k2, .string t3, .slice ad ln cp, .string t5]) :
    (results Tryz.f20 tmps).run Tryz.prog X = .ok (.agg #[.string t0, .string t1, .int .i64 k2, .string t3, .slice ad ln cp, .string t5]) X := by
  have c0 := h.cell 0 (by simp)
  have c1 := h.cell 1 (by simp)
  have c2 := h.cell 2 (by simp)
  have c3 := h.cell 3 (by simp)
  have c4 := h.cell 4 (by simp)
  have c5 := h.cell 5 (by simp)
  simp at c0 c1 c2 c3 c4 c5
  have hl := h.lt
  simp [results, Tryz.results20, go_sem, h2, c0, c1, c2, c3, c4, c5, hl]
/-- a reply whose rows lie in memory of their own -/
def LoosePost (w : World) (r : Rpl) (e : Ending) (w' : World) : Prop := ∃ ar cr, e = .returned (rplV r (.slice ar r.rows.length cr)) ∧ FB strC 1 9 w.heap.size w' (.slice ar r.rows.length cr) r.rows ∧ Below w.heap.size w w'
theorem FB.mono {α : Type} {C : α → List Value} {c : Nat} {e : TypeId} {base base' : Nat} {w : World} {v : Value} {xs : List α} (h : FB C c e base w v xs) (hb : base' ≤ base) : FB C c e base' w v xs := own_mono h hb

set_option maxRecDepth 100000 in
set_option maxHeartbeats 16000000 in
theorem looseI_any (xs : List Seg) (a : Option Addr) (cap : Nat) (w : World) {lo : Nat} (hv : SegsAt lo w (.slice a xs.length cap) xs) (hsz : msgSz xs ≤ 1048576) (hE : Env w) :
    Calls Tryz.prog 20 #[.agg #[.slice a xs.length cap]] w (LoosePost w (looseI xs)) := by
  obtain ⟨x1, hx1⟩ : ∃ x1, w.alloc (Obj.cells #[.slice a xs.length cap] 33) = x1 := ⟨_, rfl⟩
  obtain ⟨w1, hw1⟩ : ∃ w1, x1.alloc (Obj.cells #[.string ⟨#[]⟩, .string ⟨#[]⟩, .int .i64 0, .string ⟨#[]⟩, .slice none 0 0, .string ⟨#[]⟩] 28) = w1 := ⟨_, rfl⟩
  have sx1 : x1.heap.size = w.heap.size + 1 := by rw [← hx1]; simp
  have sw1 : w1.heap.size = w.heap.size + 1 + 1 := by rw [← hw1]; simp [sx1]
  have bx1 : Below w.heap.size w x1 := by rw [← hx1]; exact (Below.refl _ _).alloc (Nat.le_refl _) _
  have bw1 : Below x1.heap.size x1 w1 := by rw [← hw1]; exact (Below.refl _ _).alloc (Nat.le_refl _) _
  have k0 : w1.cell? ⟨w.heap.size, 0, none⟩ = some (.slice a xs.length cap) := (bw1.cell (p := ⟨w.heap.size, 0, none⟩) (by rw [sx1]; simp)).trans (by rw [← hx1]; simp)
  have HRES : Hid (Box w1 (w.heap.size + 1) 28 #[.string ⟨#[]⟩, .string ⟨#[]⟩, .int .i64 0, .string ⟨#[]⟩, .slice none 0 0, .string ⟨#[]⟩]) := by rw [← hw1, ← sx1]; exact Box.new _ _ _
  have HB1 := hide (bjoin' bw1 bx1)
  have HV1 := hide (At.kept kept_seg hv HB1.out)
  have HG := hide (getI_of HV1.out hsz)
  have HG1 := hide (fun W (h : Below w1.heap.size w1 W) => HG.out W ⟨#[77, 83, 65]⟩ 1 1 h (by decide) (by decide) (by decide) (by decide) (by decide))
  have HG2 := hide (fun W (h : Below w1.heap.size w1 W) => HG.out W ⟨#[77, 83, 65]⟩ 2 1 h (by decide) (by decide) (by decide) (by decide) (by decide))
  have HG3 := hide (fun W (h : Below w1.heap.size w1 W) => HG.out W ⟨#[69, 82, 82]⟩ 3 1 h (by decide) (by decide) (by decide) (by decide) (by decide))
  have HG5 := hide (fun W (h : Below w1.heap.size w1 W) => HG.out W ⟨#[81, 65, 75]⟩ 1 1 h (by decide) (by decide) (by decide) (by decide) (by decide))
  have HG6 := hide (fun W (h : Below w1.heap.size w1 W) => HG.out W ⟨#[68, 83, 67]⟩ 1 1 h (by decide) (by decide) (by decide) (by decide) (by decide))
  have HEV := hide (fun W (h : Below w1.heap.size w1 W) => (hE.kept HB1.out).kept h)
  have HNUM := hide (fun W (h : Below w1.heap.size w1 W) => numberOf_any (getFrom xs ⟨#[69, 82, 82]⟩ 3 1) W (Nat.le_trans (getFrom_sz xs _ _ _) hsz) (HEV.out W h))
  have KM : Hid (∀ X, Below w1.heap.size w1 X → X.cell? ⟨w.heap.size, 0, none⟩ = some (.slice a xs.length cap)) := fun X h => (h.cell (p := ⟨w.heap.size, 0, none⟩) (by rw [sw1]; dsimp only; omega)).trans k0
  have hnl : xs.length ≤ 1048576 := by unfold msgSz lenSum at hsz; omega
  have HSZ := hide hsz
  have HSW := hide sw1
  have HW1 : Hid ((w.alloc (Obj.cells #[.slice a xs.length cap] 33)).alloc (Obj.cells #[.string ⟨#[]⟩, .string ⟨#[]⟩, .int .i64 0, .string ⟨#[]⟩, .slice none 0 0, .string ⟨#[]⟩] 28) = w1) := by rw [hx1]; exact hw1
  obtain ⟨n, hn⟩ : ∃ n, xs.length = n := ⟨_, rfl⟩
  have HN := hide hn
  rw [hn] at k0 KM HV1 HW1 hnl ⊢
  rw [hn] at HG1 HG2 HG3 HG5 HG6
  have HLO : Hid (looseI xs = ⟨getFrom xs ⟨#[77, 83, 65]⟩ 1 1, getFrom xs ⟨#[77, 83, 65]⟩ 2 1, numI (getFrom xs ⟨#[69, 82, 82]⟩ 3 1).data.toList, getFrom xs ⟨#[81, 65, 75]⟩ 1 1, rowsOf xs, getFrom xs ⟨#[68, 83, 67]⟩ 1 1⟩) := rfl
  obtain ⟨ack, hack⟩ : ∃ t, getFrom xs ⟨#[77, 83, 65]⟩ 1 1 = t := ⟨_, rfl⟩
  obtain ⟨control, hctl⟩ : ∃ t, getFrom xs ⟨#[77, 83, 65]⟩ 2 1 = t := ⟨_, rfl⟩
  obtain ⟨tag, htag⟩ : ∃ t, getFrom xs ⟨#[81, 65, 75]⟩ 1 1 = t := ⟨_, rfl⟩
  obtain ⟨pointer, hptr⟩ : ∃ t, getFrom xs ⟨#[68, 83, 67]⟩ 1 1 = t := ⟨_, rfl⟩
  obtain ⟨et, het⟩ : ∃ t, getFrom xs ⟨#[69, 82, 82]⟩ 3 1 = t := ⟨_, rfl⟩
  rw [hack] at HG1 HLO
  rw [hctl] at HG2 HLO
  rw [het] at HG3 HNUM HLO
  rw [htag] at HG5 HLO
  rw [hptr] at HG6 HLO
  obtain ⟨cd, hcd⟩ : ∃ cd : Int, numI et.data.toList = cd := ⟨_, rfl⟩
  rw [hcd] at HNUM HLO
  obtain ⟨lr, hlr⟩ : ∃ r : Rpl, looseI xs = r := ⟨_, rfl⟩
  rw [hlr] at HLO ⊢
  clear hack hctl htag hptr het hcd hlr hx1 hw1 sx1 sw1 bx1 bw1 hv hsz hn HG hE
  go_enter Tryz.func20, Tryz.ntmps20
  go_upto_region 1 with fail
  rw [HW1.out]
  go_cut [3] (fun v3 wx => ∃ M, v3 = .pointer (some ⟨M, 0, none⟩) ∧ RB w1 wx M #[.string ack, .string control, .int .i64 cd, .string tag, .slice none 0 0, .string pointer])
  case first =>
    obtain ⟨D, hDe⟩ : ∃ D, w1.drew = D := ⟨_, rfl⟩
    have hD0 : Below w1.heap.size w1 w1.drew := (Below.refl _ _).drew
    have hD : Below w1.heap.size w1 D := by rw [← hDe]; exact hD0
    have hDs := hD.size
    go_region_held3 (fun X : World => X.cell? ⟨w.heap.size, 0, none⟩ = some (.slice a n cap))
      (exact KM.out _ (by repeat (first | with_reducible exact hD0 | with_reducible exact hD | with_reducible exact hB6 | with_reducible exact hB5 | with_reducible exact hB4 | with_reducible exact hB3 | with_reducible exact hB2 | with_reducible exact hB1 | with_reducible refine Below.al2 ?_ (Nat.le_refl _) | with_reducible refine Below.st2 ?_ (by first | assumption | omega | (simp only [Deep.nblk_alloc, Deep.nblk_setCell]; omega)))))
      (first
        | (have _g := hB5; go_at_call 37; with_reducible refine (HG6.out _ ?hq6).mono ?_; (case hq6 => (repeat (first | with_reducible exact hB5 | with_reducible refine Below.al2 ?_ (Nat.le_refl _)))); rintro e v6 ⟨rfl, hb6⟩; have hB6 : Below w1.heap.size w1 v6 := bjoin hb6 (by repeat (first | with_reducible exact hB5 | with_reducible refine Below.al2 ?_ (Nat.le_refl _))); have hz1 := hB1.size; have hz2 := hB2.size; have hz3 := hB3.size; have hz4 := hB4.size; have hz5 := hB5.size; have hz6 := hB6.size; first
          | (with_reducible refine rb6 (((((((Box.new _ _ _).below hb1).below hb2).below hb3).below hb4).below hb5).below hb6) ?_; rintro hbx ⟨⟨z0, z1, z2, z3, z4, z5⟩, f0, f1, f2, f3, f4, f5⟩)
          | (with_reducible refine rb6 ((((((Box.new _ _ _).below hb2).below hb3).below hb4).below hb5).below hb6) ?_; rintro hbx ⟨⟨z0, z1, z2, z3, z4, z5⟩, f0, f1, f2, f3, f4, f5⟩)
          | (with_reducible refine rb6 (((((Box.new _ _ _).below hb3).below hb4).below hb5).below hb6) ?_; rintro hbx ⟨⟨z0, z1, z2, z3, z4, z5⟩, f0, f1, f2, f3, f4, f5⟩)
          | (with_reducible refine rb6 ((((Box.new _ _ _).below hb4).below hb5).below hb6) ?_; rintro hbx ⟨⟨z0, z1, z2, z3, z4, z5⟩, f0, f1, f2, f3, f4, f5⟩)
          | (with_reducible refine rb6 (((Box.new _ _ _).below hb5).below hb6) ?_; rintro hbx ⟨⟨z0, z1, z2, z3, z4, z5⟩, f0, f1, f2, f3, f4, f5⟩)
          | (with_reducible refine rb6 ((Box.new _ _ _).below hb6) ?_; rintro hbx ⟨⟨z0, z1, z2, z3, z4, z5⟩, f0, f1, f2, f3, f4, f5⟩)
          | skip)
        | (have _g := hB4; go_at_call 37; with_reducible refine (HG5.out _ ?hq5).mono ?_; (case hq5 => (repeat (first | with_reducible exact hB4 | with_reducible refine Below.al2 ?_ (Nat.le_refl _)))); rintro e v5 ⟨rfl, hb5⟩; have hB5 : Below w1.heap.size w1 v5 := bjoin hb5 (by repeat (first | with_reducible exact hB4 | with_reducible refine Below.al2 ?_ (Nat.le_refl _))))
        | (have _g := hB3; go_at_call 38; with_reducible refine (HNUM.out _ ?hq4).mono ?_; (case hq4 => (repeat (first | with_reducible exact hB3 | with_reducible refine Below.al2 ?_ (Nat.le_refl _)))); rintro e v4 ⟨rfl, hb4⟩; have hB4 : Below w1.heap.size w1 v4 := bjoin hb4 (by repeat (first | with_reducible exact hB3 | with_reducible refine Below.al2 ?_ (Nat.le_refl _))))
        | (have _g := hB2; go_at_call 37; with_reducible refine (HG3.out _ ?hq3).mono ?_; (case hq3 => (repeat (first | with_reducible exact hB2 | with_reducible refine Below.al2 ?_ (Nat.le_refl _)))); rintro e v3 ⟨rfl, hb3⟩; have hB3 : Below w1.heap.size w1 v3 := bjoin hb3 (by repeat (first | with_reducible exact hB2 | with_reducible refine Below.al2 ?_ (Nat.le_refl _))))
        | (have _g := hB1; go_at_call 37; with_reducible refine (HG2.out _ ?hq2).mono ?_; (case hq2 => (repeat (first | with_reducible exact hB1 | with_reducible refine Below.al2 ?_ (Nat.le_refl _)))); rintro e v2 ⟨rfl, hb2⟩; have hB2 : Below w1.heap.size w1 v2 := bjoin hb2 (by repeat (first | with_reducible exact hB1 | with_reducible refine Below.al2 ?_ (Nat.le_refl _))))
        | (go_at_call 37; with_reducible refine (HG1.out _ ?hq1).mono ?_; (case hq1 => (repeat (first | with_reducible exact hD | with_reducible refine Below.al2 ?_ (Nat.le_refl _)))); rintro e v1 ⟨rfl, hb1⟩; have hB1 : Below w1.heap.size w1 v1 := bjoin hb1 (by repeat (first | with_reducible exact hD | with_reducible refine Below.al2 ?_ (Nat.le_refl _)))))
    all_goals
      go_wp2_with fail
      go_meet
      case rel => first
        | with_reducible exact ⟨_, rfl, RB.late hB6⟩
        | (refine ⟨_, rfl, ?_⟩; with_reducible exact RB.early hbx hB6 (by first | assumption | omega | (simp only [Deep.nblk_alloc]; omega)) _ _ _ _ _ _)
  case rest =>
    obtain ⟨M, rfl, hRB⟩ := hcut
    obtain ⟨X, rfl⟩ : ∃ x, x = wc := ⟨_, rfl⟩
    have HRX := hide hRB
    clear hRB HG1 HG2 HG3 HG5 HG6 HNUM HEV
    have km := KM.out X HRX.out.2.1
    go_wp2_with fail
    go_loopg [21] n (fun q i wr => ∃ (k : Nat) (ar : Option Addr) (cr nr : Nat), k ≤ n ∧ q = n - k ∧ i = .int .i64 (k : Int) ∧ nr = (rowsOf (xs.take k)).length ∧ RB w1 wr M #[.string ack, .string control, .int .i64 cd, .string tag, .slice ar nr cr, .string pointer] ∧ FB strC 1 9 X.heap.size wr (.slice ar nr cr) (rowsOf (xs.take k)) ∧ X.heap.size ≤ wr.heap.size)
    case atStart => exact ⟨0, none, 0, 0, Nat.zero_le _, rfl, rfl, rfl, HRX.out, FB.nil _ _ _ _ _, Nat.le_refl _⟩
    case round =>
      obtain ⟨k, ar, cr, nr, hk, rfl, rfl, hnr, hR, hF, hX⟩ := hrel
      obtain ⟨Y, rfl⟩ : ∃ x, x = wr := ⟨_, rfl⟩
      have HR := hide hR
      have HF := hide hF
      have HNR := hide hnr
      have HX := hide hX
      have hnr6 : nr ≤ 262144 := by rw [hnr]; exact rows_count HSZ.out k
      clear hR hF hnr hX km
      by_cases hlt : k < n
      · have hki : (k : Int) < (n : Int) := by omega
        have k1 : k < xs.length := by have := HN.out; omega
        obtain ⟨a', cap', e', hc⟩ := (At.kept kept_seg HV1.out HR.out.2.1).form
        injection e' with ea eb ec
        subst ea ec
        clear eb
        obtain ⟨b, off, rfl, hlo, hbl, hcell, hcs, fv, hcell2, hfields⟩ := hc k k1
        have HYES := hide (fun h => rowsOf_yes k1 h)
        have HNO := hide (fun h => rowsOf_no k1 h)
        have HZ1 : Hid (xs[k].fields.length ≤ 1048576) := by
          have h2 := mem_le segSz xs xs[k] (List.getElem_mem k1)
          have h6 : xs[k].fields.length ≤ segSz xs[k] := by unfold segSz lenSum; omega
          have h := HSZ.out
          unfold msgSz lenSum at h
          show _ ≤ _
          omega
        obtain ⟨sg, hsg⟩ : ∃ s, xs[k] = s := ⟨_, rfl⟩
        rw [hsg] at hcell hfields HYES HNO HZ1
        obtain ⟨af, cf, rfl⟩ := form_at hfields
        have HFS := hide hfields
        clear hc hcs hsg hfields
        obtain ⟨Y1, hY1⟩ : ∃ Y1, Y.alloc (Obj.cells #[.string sg.name, .slice af sg.fields.length cf] 45) = Y1 := ⟨_, rfl⟩
        have hb1 : Below Y.heap.size Y Y1 := by rw [← hY1]; exact (Below.refl _ _).alloc (Nat.le_refl _) _
        have sY1 : Y1.heap.size = Y.heap.size + 1 := by rw [← hY1]; simp
        have HSB : Hid (Box Y1 Y.heap.size 45 #[.string sg.name, .slice af sg.fields.length cf]) := by rw [← hY1]; exact Box.new _ _ _
        have HR1 : Hid (RB w1 Y1 M #[.string ack, .string control, .int .i64 cd, .string tag, .slice ar nr cr, .string pointer]) := ⟨HR.out.1.below hb1, bjoin hb1 HR.out.2.1, HR.out.2.2⟩
        have HF1 := hide (HF.out.below hb1)
        have HFS1 := hide (At.kept kept_field HFS.out hb1)
        have n0 : Y1.cell? ⟨Y.heap.size, 0, none⟩ = some (.string sg.name) := HSB.out.cell 0 (by simp)
        have n1 : Y1.cell? ⟨Y.heap.size, 1, none⟩ = some (.slice af sg.fields.length cf) := HSB.out.cell 1 (by simp)
        have HB1Y := hide hb1
        have HSY := hide sY1
        clear hb1
        cases hrb : rdtB sg
        · have e1 : (sg.name.toList == [82, 68, 84]) = false := hrb
          have HNO2 := hide (HNO.out hrb)
          clear hrb
          go_wp2_with fail
          go_roundg (n - (k + 1))
          case measure => omega
          case rel => exact ⟨k + 1, ar, cr, nr, by omega, rfl, by go_num, by rw [HNO2.out]; exact HNR.out, HR1.out, by rw [HNO2.out]; exact HF1.out, by have := HX.out; have := HSY.out; omega⟩
        · have e1 : (sg.name.toList == [82, 68, 84]) = true := hrb
          have HYES2 := hide (HYES.out hrb)
          have HPK := hide (rdt_pick hrb)
          obtain ⟨rw1, hrw1⟩ : ∃ t, getFrom [sg] ⟨#[82, 68, 84]⟩ 1 1 = t := ⟨_, rfl⟩
          have HGR := hide (fun W (h : Below Y1.heap.size Y1 W) => comp_any sg.name sg.fields 1 1 (.slice af sg.fields.length cf) W (by decide) (by decide) (by decide) (by decide) (At.kept kept_field HFS1.out h) HZ1.out)
          rw [← HPK.out, hrw1] at HGR
          rw [hrw1] at HYES2
          clear hrb hrw1 HYES HNO HPK
          obtain ⟨D, hDe⟩ : ∃ D, Y1.drew = D := ⟨_, rfl⟩
          have hD : Below Y1.heap.size Y1 D := by rw [← hDe]; exact (Below.refl _ _).drew
          have hSd : (fun X : World => X.cell? ⟨M, 4, none⟩ = some (.slice ar nr cr) ∧ X.cell? ⟨Y.heap.size, 0, none⟩ = some (.string sg.name) ∧ X.cell? ⟨Y.heap.size, 1, none⟩ = some (.slice af sg.fields.length cf)) D := ⟨(HR1.out.1.below hD).cell 4 (by simp), (HSB.out.below hD).cell 0 (by simp), (HSB.out.below hD).cell 1 (by simp)⟩
          have hDe' := hDe
          go_upto_region 6 with fail
          refine wp_region_two (fun X : World => X.cell? ⟨M, 4, none⟩ = some (.slice ar nr cr) ∧ X.cell? ⟨Y.heap.size, 0, none⟩ = some (.string sg.name) ∧ X.cell? ⟨Y.heap.size, 1, none⟩ = some (.slice af sg.fields.length cf)) 6 (by kernel_rfl) ?_
          rw [hDe]
          clear hDe hDe'
          refine wpTwo_take (i := 0) (some 28) (v := ?v0) rfl rfl (by kernel_rfl) (by kernel_rfl) (by kernel_rfl) (by kernel_rfl) (fun _ _ _ h => h) hSd (Or.inl ⟨by rfl, ?hy0⟩) ?rest0
          case hy0 => (intro w hSw; (try dsimp only at hSw); go_simp; try with_reducible rfl)
          try simp only [Act.put, List.setIfInBounds_toArray, List.set_cons_zero, List.set_cons_succ]
          refine wpTwo_take (i := 1) (some 29) (v := ?v1) rfl rfl (by kernel_rfl) (by kernel_rfl) (by kernel_rfl) (by kernel_rfl) (fun _ _ _ h => h) hSd (Or.inl ⟨by rfl, ?hy1⟩) ?rest1
          case hy1 => (intro w hSw; (try dsimp only at hSw); go_simp; try with_reducible rfl)
          try simp only [Act.put, List.setIfInBounds_toArray, List.set_cons_zero, List.set_cons_succ]
          refine wpTwo_take (i := 2) (some 30) (v := ?v2) rfl rfl (by kernel_rfl) (by kernel_rfl) (by kernel_rfl) (by kernel_rfl) (fun _ _ _ h => h) hSd (Or.inl ⟨by rfl, ?hy2⟩) ?rest2
          case hy2 => (intro w hSw; (try dsimp only at hSw); go_simp; try with_reducible rfl)
          try simp only [Act.put, List.setIfInBounds_toArray, List.set_cons_zero, List.set_cons_succ]
          refine wpTwo_one (j := 3) (by kernel_rfl) rfl (fun K hK => ?_)
          go_simp
          refine (HGR.out D hD).mono ?_
          rintro e Z ⟨rfl, hbZ⟩
          dsimp only
          have hYZ : Below Y1.heap.size Y1 Z := bjoin hbZ hD
          have hw1Z : Below w1.heap.size w1 Z := bjoin hYZ HR1.out.2.1
          have hSz : (fun X : World => X.cell? ⟨M, 4, none⟩ = some (.slice ar nr cr) ∧ X.cell? ⟨Y.heap.size, 0, none⟩ = some (.string sg.name) ∧ X.cell? ⟨Y.heap.size, 1, none⟩ = some (.slice af sg.fields.length cf)) Z := ⟨(HR1.out.1.below hYZ).cell 4 (by simp), (HSB.out.below hYZ).cell 0 (by simp), (HSB.out.below hYZ).cell 1 (by simp)⟩
          refine hK.out _ _ (fun _ => hSz) ?_
          clear hK K
          try simp only [Act.put, List.setIfInBounds_toArray, List.set_cons_zero, List.set_cons_succ]
          have hSa : (fun X : World => X.cell? ⟨M, 4, none⟩ = some (.slice ar nr cr) ∧ X.cell? ⟨Y.heap.size, 0, none⟩ = some (.string sg.name) ∧ X.cell? ⟨Y.heap.size, 1, none⟩ = some (.slice af sg.fields.length cf)) (Z.alloc (.cells #[.string rw1] 9)) := ⟨((HR1.out.1.below hYZ).alloc _).cell 4 (by simp), ((HSB.out.below hYZ).alloc _).cell 0 (by simp), ((HSB.out.below hYZ).alloc _).cell 1 (by simp)⟩
          refine wpTwo_one (j := 4) (by kernel_rfl) rfl (fun K hK => ?_)
          go_simp
          refine hK.out _ _ (fun _ => hSa) ?_
          clear hK K
          try simp only [Act.put, List.setIfInBounds_toArray, List.set_cons_zero, List.set_cons_succ]
          obtain ⟨v', Z', hr2, hF', hOn, hat⟩ := app1 (C := strC) (c := 1) (bytes := 16) (z := .string ByteArray.empty) Tryz.underlying26 info_string rfl (by decide) (fun _ => rfl) strC_one (HF1.out.below hYZ) 26 rw1 (by have := hYZ.size; have := HX.out; have := HSY.out; omega) (by rw [← HNR.out]; omega) (by decide)
          have hML : M < X.heap.size := HRX.out.1.lt
          have hown := (HF1.out.below hYZ).own
          have hyl : Y.heap.size < Y1.heap.size := by have := HSY.out; omega
          have hMn : M ∉ (Value.slice ar nr cr).ownBlock.toList := fun hm => by have := (hown M hm).1; omega
          have hSn : Y.heap.size ∉ (Value.slice ar nr cr).ownBlock.toList := fun hm => by have := (HF.out.own _ hm).2; omega
          have hBX' : Box Z' M 28 #[.string ack, .string control, .int .i64 cd, .string tag, .slice ar nr cr, .string pointer] := ((HR1.out.1.below hYZ).only hOn hMn)
          have hBS' := ((HSB.out.below hYZ).only hOn hSn)
          have hw1s : w1.heap.size ≤ X.heap.size := HRX.out.2.1.size
          have hw1Z' : Below w1.heap.size w1 Z' := hw1Z.trans (hOn.below hw1Z.size fun d hd => by have := (hown d hd).1; omega)
          have hS6 : (fun X : World => X.cell? ⟨M, 4, none⟩ = some (.slice ar nr cr) ∧ X.cell? ⟨Y.heap.size, 0, none⟩ = some (.string sg.name) ∧ X.cell? ⟨Y.heap.size, 1, none⟩ = some (.slice af sg.fields.length cf)) Z' := ⟨hBX'.cell 4 (by simp), hBS'.cell 0 (by simp), hBS'.cell 1 (by simp)⟩
          have r4 : Z'.cell? ⟨M, 4, none⟩ = some (.slice ar nr cr) := hBX'.cell 4 (by simp)
          have rf4 := hBX'.frozen 4
          obtain ⟨a8, c8, e8, _, _⟩ := hF'.form
          rw [List.length_append, List.length_singleton, ← HNR.out] at e8
          subst e8
          refine wpTwo_one (j := 5) (by kernel_rfl) rfl (fun K hK => ?_)
          refine step_app rfl _ _ 26 rfl hr2 (by first | rfl | simp [Act.eval, Act.put]) (by first | rfl | simp [Act.eval, Act.put]) ?_
          show K (Act.put _ (some 33) _) _
          refine hK.out _ _ (fun _ => hS6) ?_
          clear hK K
          try simp only [Act.put, List.setIfInBounds_toArray, List.set_cons_zero, List.set_cons_succ]
          refine wpTwo_one (j := 6) (by kernel_rfl) rfl (fun K hK => ?_)
          go_simp
          refine hK.out _ _ (fun h => absurd h (by decide)) ?_
          clear hK K
          refine wpTwo_one (j := 7) (by kernel_rfl) rfl (fun K hK => ?_)
          go_simp
          refine hK.out _ _ (fun h => absurd h (by decide)) ?_
          clear hK K
          refine wpTwo_done (by kernel_rfl) ?_ _
          have hZs := hOn.size
          have hYs := hYZ.size
          have HREL : Hid (RB w1 (Z'.setCell ⟨M, 4, none⟩ (.slice a8 (nr + 1) c8)) M #[.string ack, .string control, .int .i64 cd, .string tag, .slice a8 (nr + 1) c8, .string pointer] ∧ FB strC 1 9 X.heap.size (Z'.setCell ⟨M, 4, none⟩ (.slice a8 (nr + 1) c8)) (.slice a8 (nr + 1) c8) (rowsOf (xs.take (k + 1))) ∧ X.heap.size ≤ (Z'.setCell ⟨M, 4, none⟩ (.slice a8 (nr + 1) c8)).heap.size) := by
            refine ⟨⟨?_, hw1Z'.setCell (p := ⟨M, 4, none⟩) HR.out.2.2 _, HR.out.2.2⟩, ?_, ?_⟩
            · have := hBX'.set 4 (.slice a8 (nr + 1) c8)
              simpa using this
            · rw [HYES2.out]
              exact hF'.keep fun b hb => Deep.blk_setCell_other _ ⟨M, 4, none⟩ _ b (by have := (hF'.own b hb).1; dsimp only; omega)
            · rw [Deep.nblk_setCell]; have := HX.out; have := HSY.out; omega
          have HLEN : Hid (nr + 1 = (rowsOf (xs.take (k + 1))).length) := by show _ = _; rw [HYES2.out, List.length_append, List.length_singleton, ← HNR.out]
          clear hSd hSz hSa hS6 r4 rf4 hr2 hF' hOn hat hown hMn hSn hBX' hBS' hw1Z' hw1Z hYZ hbZ hZs hYs hML hw1s
          go_wp2_with fail
          go_roundg (n - (k + 1))
          case measure => omega
          case rel => exact ⟨k + 1, a8, c8, nr + 1, by omega, rfl, by go_num, HLEN.out, HREL.out.1, HREL.out.2.1, HREL.out.2.2⟩
      · have hki : ¬ (k : Int) < (n : Int) := by omega
        have hkn : xs.take k = xs := List.take_of_length_le (by have := HN.out; omega)
        rw [hkn] at HF HNR
        clear hkn
        have HRESY := hide (HRES.out.below HR.out.2.1)
        refine rb6 HR.out.1 ?_
        rintro _ ⟨⟨y0, y1, y2, y3, y4, y5⟩, -⟩
        refine rb6 HRESY.out ?_
        rintro _ ⟨⟨q0, q1, q2, q3, q4, q5⟩, f0, f1, f2, f3, f4, f5⟩
        have hRl : w.heap.size + 1 < Y.heap.size := HRESY.out.lt
        go_wp2_with fail
        refine bodyPost_ret (v := .agg #[.string ack, .string control, .int .i64 cd, .string tag, .slice ar nr cr, .string pointer]) (loose_res (R := w.heap.size + 1) rfl (HRESY.out.fill6 _ _ _ _ _ _)) rfl ?_
        rw [HLO.out]
        refine ⟨ar, cr, by unfold rplV; dsimp only; rw [← HNR.out], ?_, below_fill6 (bjoin' HR.out.2.1 HB1.out) (Nat.le_succ _) _ _ _ _ _ _⟩
        show FB strC 1 9 w.heap.size _ (.slice ar (rowsOf xs).length cr) (rowsOf xs)
        rw [← HNR.out]
        have hw1s : w1.heap.size ≤ X.heap.size := HRX.out.2.1.size
        have hsw := HSW.out
        refine FB.mono (FB.keep HF.out fun b hb => ?_) (by omega)
        have := (HF.out.own b hb).1
        iterate 6 (refine (Deep.blk_setCell_other _ _ _ _ (by dsimp only; omega)).trans ?_)
        rfl
end Go.Proofs.YtfcmhnfdbobnlaaGreatDoor.Msg
