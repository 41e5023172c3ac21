import Derived.Test.YtjpdgcodjnnljaaParsePieceswithSpecWReq2
import Derived.Test.YtjpdgcodjnnljaaQryToSzwithMsgEq3
import Derived.Test.YtjpdgcodjnnljaaMarkSegwithHeldMsg
import Derived.Test.YtjpdgcodjnnljaaImplCswithImplShort
namespace Go.Proofs.Ytjpdgcodjnnljaa.Msg
open Go.ChangeShapes Go.WideShapes Go.ChangeAt Go.RowKit
set_option linter.unusedVariables false
set_option linter.unusedSimpArgs false

/-! what both write -/
theorem toList_nil (s : ByteArray) : s.toList = [] ↔ s.size = 0 := by
  rw [← toList_size, List.length_eq_zero_iff]
theorem writeM_bad (r : Req) (h : okR r = false) : writeM r = [] := by
  obtain ⟨kind, control, tag, query, page, pointer⟩ := r
  unfold okR at h
  simp only at h
  unfold writeM
  simp only
  split
  · rename_i k1
    rw [if_pos k1] at h
    split
    · rename_i hp
      rw [toList_nil] at hp
      cases hl : newL control tag query page with
      | some c => rfl
      | none =>
        exfalso
        unfold newL at hl
        split at hl
        · rename_i h1
          split at hl
          · rename_i h2
            simp only [Bool.and_eq_true, decide_eq_true_eq] at h1 h2
            simp [h1.1, h1.2, h2.1, h2.2.1, h2.2.2, hp] at h
          · cases hl
        · cases hl
    · rfl
  · rename_i k1
    rw [if_neg k1] at h
    split
    · rename_i k2
      rw [if_pos k2] at h
      split
      · rename_i hp
        cases hl : nextL control tag query pointer with
        | some c => rfl
        | none =>
          exfalso
          unfold nextL at hl
          split at hl
          · rename_i h1
            split at hl
            · rename_i h2
              simp only [Bool.and_eq_true, decide_eq_true_eq] at h1 h2
              rw [h1.1, h1.2, h2.1, h2.2.1, decide_eq_true h2.2.2, decide_eq_true hp] at h
              exact absurd h (by decide)
            · cases hl
          · cases hl
      · rfl
    · rename_i k2
      rw [if_neg k2] at h
      split
      · rename_i k3
        split
        · rename_i hq
          rw [toList_nil, toList_nil] at hq
          split
          · rename_i h1
            simp only [Bool.and_eq_true] at h1
            simp [h1.1, h1.2, hq.1, hq.2.1, hq.2.2, k3] at h
          · rfl
        · rfl
      · rfl
theorem okR1 {control tag query pointer : ByteArray} {page : Int} (h : okR ⟨1, control, tag, query, page, pointer⟩ = true) : 1 ≤ page ∧ page ≤ 50 ∧ writeM ⟨1, control, tag, query, page, pointer⟩ = newM control tag query (decT page.toNat) := by
  unfold okR at h
  simp only [if_pos, Bool.and_eq_true, decide_eq_true_eq] at h
  obtain ⟨h1, h2, h3, h4, h5, h6⟩ := h
  refine ⟨h4, h5, ?_⟩
  have hp := (toList_nil pointer).2 h6
  simp [writeM, newL, h1, h2, h3, h4, h5, hp]
theorem okR2 {control tag query pointer : ByteArray} {page : Int} (h : okR ⟨2, control, tag, query, page, pointer⟩ = true) : writeM ⟨2, control, tag, query, page, pointer⟩ = nextM control tag query pointer := by
  unfold okR at h
  simp only [show ¬ (2 : Int) = 1 from by decide, if_neg, if_pos, not_false_eq_true, Bool.and_eq_true, decide_eq_true_eq] at h
  obtain ⟨h1, h2, h3, h4, h5, h6⟩ := h
  simp [writeM, nextL, h1, h2, h3, h4, h5, h6]
theorem okR3 {control tag query pointer : ByteArray} {page : Int} (h : okR ⟨3, control, tag, query, page, pointer⟩ = true) : writeM ⟨3, control, tag, query, page, pointer⟩ = cancelM control tag := by
  unfold okR at h
  simp only [show ¬ (3 : Int) = 1 from by decide, show ¬ (3 : Int) = 2 from by decide, if_neg, not_false_eq_true, Bool.and_eq_true, decide_eq_true_eq] at h
  obtain ⟨h1, h2, _, h4, h5, h6⟩ := h
  have hq := (toList_nil query).2 h4
  have hp := (toList_nil pointer).2 h6
  simp [writeM, h1, h2, hq, h5, hp]
theorem okR_kind {r : Req} (h : okR r = true) : r.kind = 1 ∨ r.kind = 2 ∨ r.kind = 3 := by
  unfold okR at h
  by_cases k1 : r.kind = 1
  · exact .inl k1
  by_cases k2 : r.kind = 2
  · exact .inr (.inl k2)
  · simp only [if_neg k1, if_neg k2, Bool.and_eq_true, decide_eq_true_eq] at h
    exact .inr (.inr h.2.2.1)
/-- WriteRequest of the specification -/
theorem writeSpec_any (r : Req) (w : World) (h1 : r.control.size ≤ 1048576) (h2 : r.tag.size ≤ 1048576) (h3 : r.query.size ≤ 1048576) (h4 : r.pointer.size ≤ 1048576) :
    Calls Try.prog 36 #[reqV r] w (ReadPost w (writeM r)) := by
  cases hok : okR r with
  | false => rw [writeM_bad r hok]; exact writeS_bad r w h1 h2 h3 h4 hok
  | true =>
    obtain ⟨kind, control, tag, query, page, pointer⟩ := r
    have hk := okR_kind hok
    simp only at h1 h2 h3 h4 hk
    rcases hk with rfl | rfl | rfl
    · obtain ⟨p1, p2, e⟩ := okR1 hok
      obtain ⟨u, rfl⟩ := Int.eq_ofNat_of_zero_le (show 0 ≤ page by omega)
      rw [e]
      exact writeS_new control tag query pointer u w h1 h2 h3 h4 (by omega) hok
    · rw [okR2 hok]; exact writeS_next control tag query pointer page w h1 h2 h3 h4 hok
    · rw [okR3 hok]; exact writeS_cancel control tag query pointer page w h1 h2 h3 h4 hok

/-! how many texts such a message holds -/
theorem cWord (s : ByteArray) : cField (wordF s) ≤ 1 := by
  unfold wordF
  split
  · simp [cField, sumOf]
  · simp [cField, sumOf, cRep, oneC]
theorem cTrim (xs : List Field) : cFields (trimE List.isEmpty xs) ≤ cFields xs := by
  unfold cFields trimE
  exact sum_le cField xs _
theorem cHead (kr : Rep) (ctl : ByteArray) : cFields (headF kr ctl) ≤ kr.length + 2 := by
  have h1 := cWord ctl
  have h2 := cWord v251
  have h3 := cRep_len kr
  simp only [cFields, headF, sumOf, List.map_cons, List.map_nil, List.sum_cons, List.sum_nil]
  have e0 : cField ([] : Field) = 0 := rfl
  have e1 : cField [kr] = kr.length := by simp [cField, sumOf, h3]
  omega
theorem cWrite (r : Req) : 1 + cMsg (writeM r) ≤ 4611686018427387904 := by
  have t1 : ∀ s, cFields (trimE List.isEmpty [wordF s]) ≤ 1 := fun s => by have := cTrim [wordF s]; have := cWord s; simp [cFields, sumOf] at *; omega
  have t2 : ∀ s, cFields (trimE List.isEmpty [([] : Field), wordF s]) ≤ 1 := fun s => by have := cTrim [([] : Field), wordF s]; have := cWord s; have e0 : cField ([] : Field) = 0 := rfl; simp [cFields, sumOf, e0] at *; omega
  have t3 : ∀ a b c, cFields (trimE List.isEmpty [wordF a, wordF b, wordF c]) ≤ 3 := fun a b c => by have := cTrim [wordF a, wordF b, wordF c]; have := cWord a; have := cWord b; have := cWord c; simp [cFields, sumOf] at *; omega
  have z : cMsg ([] : List Seg) = 0 := rfl
  have kN : ∀ a b c d, cMsg (newM a b c d) ≤ 100 := fun a b c d => by
    have := cHead [⟨#[81, 66, 80]⟩, ⟨#[90, 48, 49]⟩] a; have := t3 ⟨#[81]⟩ b c; have := t2 d
    simp [cMsg, sumOf, newM, cSeg] at *; omega
  have kX : ∀ a b c d, cMsg (nextM a b c d) ≤ 100 := fun a b c d => by
    have := cHead [⟨#[81, 66, 80]⟩, ⟨#[90, 48, 49]⟩] a; have := t3 ⟨#[81]⟩ b c; have := t1 d
    simp [cMsg, sumOf, nextM, cSeg] at *; omega
  have kC : ∀ a b, cMsg (cancelM a b) ≤ 100 := fun a b => by
    have := cHead [⟨#[81, 67, 78]⟩, ⟨#[74, 48, 49]⟩] a; have := t1 b
    simp [cMsg, sumOf, cancelM, cSeg] at *; omega
  have : cMsg (writeM r) ≤ 100 := by
    unfold writeM
    repeat' split
    all_goals first | with_reducible exact kN _ _ _ _ | with_reducible exact kX _ _ _ _ | with_reducible exact kC _ _ | (rw [z]; omega)
  omega
end Go.Proofs.Ytjpdgcodjnnljaa.Msg

namespace Go.Proofs.Ytjpdgcodjnnljaa.Msg
open Go.ChangeShapes Go.WideShapes Go.ChangeAt Go.RowKit
set_option linter.unusedVariables false
set_option linter.unusedSimpArgs false

theorem form_segsAt {lo : Nat} {w : World} {v : Value} {xs : List Seg} (h : SegsAt lo w v xs) : ∃ a c, v = .slice a xs.length c := by
  obtain ⟨a, c, e, _⟩ := h.form
  exact ⟨a, c, e⟩
theorem form_osegs {w : World} {v : Value} {xs : List Seg} {bs : List Nat} (h : OSegs w v xs bs) : ∃ a c, v = .slice a xs.length c :=
  form_segsAt (OAt.toAt toAt_seg h (lo := 0) (fun _ _ => Nat.zero_le _))
theorem only_cell' {bs : List Nat} {w w' : World} (h : Only bs w w') {b o : Nat} (hb : b < w.heap.size) (hn : b ∉ bs) : w'.cell? ⟨b, o, none⟩ = w.cell? ⟨b, o, none⟩ := cellSame (h.block b hb hn)

set_option maxRecDepth 100000 in
set_option maxHeartbeats 4000000 in
theorem lawWReq (r : Req) (w : World) (g1 : r.control.size ≤ 9223372036854775807) (g2 : r.tag.size ≤ 9223372036854775807) (g3 : r.query.size ≤ 9223372036854775807) (g4 : r.pointer.size ≤ 9223372036854775807)
    (hI : ∀ u : Nat, u < 100 → ∀ W, Calls Try.prog 188 #[.int .i64 (u : Int)] W fun e w' => e = .returned (.string (decT u)) ∧ w' = W) :
    Calls Try.prog 8 #[reqV r] w fun e w' => e = .returned (.bool true) ∧ Below w.heap.size w w' := by
  obtain ⟨X0, hX0⟩ : ∃ X0, w.alloc (Obj.cells #[.int .i64 r.kind, .string r.control, .string r.tag, .string r.query, .int .i64 r.page, .string r.pointer] 62) = X0 := ⟨_, rfl⟩
  have s0 : X0.heap.size = w.heap.size + 1 := by rw [← hX0]; simp
  have HB0 : Hid (Below w.heap.size w X0) := by rw [← hX0]; exact (Below.refl _ _).alloc (Nat.le_refl _) _
  have KEEP : Hid (∀ X, Below X0.heap.size X0 X → X.cell? ⟨w.heap.size, 0, none⟩ = some (.int .i64 r.kind) ∧ X.cell? ⟨w.heap.size, 1, none⟩ = some (.string r.control) ∧ X.cell? ⟨w.heap.size, 2, none⟩ = some (.string r.tag) ∧ X.cell? ⟨w.heap.size, 3, none⟩ = some (.string r.query) ∧ X.cell? ⟨w.heap.size, 4, none⟩ = some (.int .i64 r.page) ∧ X.cell? ⟨w.heap.size, 5, none⟩ = some (.string r.pointer)) := fun X h => by
    refine ⟨?_, ?_, ?_, ?_, ?_, ?_⟩ <;> exact (h.cell (by rw [s0]; simp)).trans (by rw [← hX0]; simp)
  have HSZ := hide (fun W => szReq_any r W g1 g2 g3 g4)
  have HTO := hide (fun W => toReq_any r W)
  obtain ⟨p0, p1, p2, p3, p4, p5⟩ := KEEP.out X0 (Below.refl _ _)
  have HS : Hid (reqSz r = r.control.size + r.tag.size + r.query.size + r.pointer.size) := rfl
  by_cases hsz : ((reqSz r : Nat) : Int) ≤ 1048576
  · have hs' := HS.out
    have HSP := hide (fun W => writeSpec_any r W (by omega) (by omega) (by omega) (by omega))
    have HIM := hide (fun W => writeRequest_any r W (by omega) (by omega) (by omega) (by omega) hI)
    have hrest : rest 1048576 (reqSz r) = 1048576 - (reqSz r : Int) := rest_yes hsz
    have HC := hide (cWrite r)
    have HNN := hide (show ¬ (1048576 : Int) - (reqSz r : Int) < 0 by omega)
    rw [hrest] at HSZ
    clear hrest hs' hI g1 g2 g3 g4 hsz
    obtain ⟨kind, control, tag, query, page, pointer⟩ := r
    obtain ⟨xs, hxs⟩ : ∃ xs, writeM ⟨kind, control, tag, query, page, pointer⟩ = xs := ⟨_, rfl⟩
    rw [hxs] at HSP HIM HC
    obtain ⟨sz, hszz⟩ : ∃ sz : Nat, reqSz ⟨kind, control, tag, query, page, pointer⟩ = sz := ⟨_, rfl⟩
    rw [hszz] at HSZ HNN HS
    clear hxs hszz HS
    unfold reqV at HSP HIM HSZ HTO ⊢
    dsimp only at HSP HIM HSZ HTO p0 p1 p2 p3 p4 p5 KEEP hX0 ⊢
    go_enter Try.func8, Try.ntmps8
    go_wp2_with fail
    refine (HSZ.out _).mono ?_
    rintro e W1 ⟨rfl, hb1⟩
    have hnn := HNN.out
    obtain ⟨q0, q1, q2, q3, q4, q5⟩ := KEEP.out W1 hb1
    clear p0 p1 p2 p3 p4 p5
    go_wp2_with fail
    refine (HTO.out _).mono ?_
    rintro e W2 ⟨rfl, hb2⟩
    go_wp2_with fail
    refine (HSP.out _).mono ?_
    rintro e W3 ⟨u1, rfl, hA1, hb3⟩
    obtain ⟨a1, c1, rfl⟩ := form_segsAt hA1
    have b13 := bjoin' hb3 (bjoin' hb2 hb1)
    have HA1 := hide hA1
    obtain ⟨W4, hW4⟩ : ∃ W4, W3.alloc (Obj.cells #[.slice a1 xs.length c1] 55) = W4 := ⟨_, rfl⟩
    have s4 : W4.heap.size = W3.heap.size + 1 := by rw [← hW4]; simp
    have b34 : Below W3.heap.size W3 W4 := by rw [← hW4]; exact (Below.refl _ _).alloc (Nat.le_refl _) _
    have x1 : W4.cell? ⟨W3.heap.size, 0, none⟩ = some (.slice a1 xs.length c1) := by rw [← hW4]; simp
    have b04 := bjoin' b34 b13
    clear q0 q1 q2 q3 q4 q5
    obtain ⟨q0, q1, q2, q3, q4, q5⟩ := KEEP.out W4 b04
    have HB04 := hide b04
    have HB34 := hide b34
    have HS4 := hide s4
    have HX1 := hide x1
    have s03 : X0.heap.size ≤ W3.heap.size := b13.size
    clear hb1 hb2 hb3 b13 b34 b04 hA1 s4 x1 hnn
    go_wp2_with fail
    refine (HTO.out _).mono ?_
    rintro e W5 ⟨rfl, hb5⟩
    go_wp2_with fail
    refine (HIM.out _).mono ?_
    rintro e W6 ⟨u2, rfl, bs2, hO2, hnd2, hfr2, hb6⟩
    obtain ⟨a2, c2, rfl⟩ := form_osegs hO2
    have b46 := bjoin' hb6 hb5
    have s5 := hb5.size
    have s4 := HS4.out
    have HL2 : Hid (∀ c ∈ bs2, W4.heap.size ≤ c ∧ c < W6.heap.size) := fun c hc => ⟨by have := hfr2 c hc; omega, OAt.lt ltO_seg hO2 c hc⟩
    obtain ⟨W7, hW7⟩ : ∃ W7, W6.alloc (Obj.cells #[.slice a2 xs.length c2] 55) = W7 := ⟨_, rfl⟩
    have s7 : W7.heap.size = W6.heap.size + 1 := by rw [← hW7]; simp
    have b67 : Below W6.heap.size W6 W7 := by rw [← hW7]; exact (Below.refl _ _).alloc (Nat.le_refl _) _
    have b47 := bjoin' b67 b46
    have s46 := b46.size
    have x1 : W7.cell? ⟨W3.heap.size, 0, none⟩ = some (.slice a1 xs.length c1) := by rw [b47.cell (p := ⟨W3.heap.size, 0, none⟩) (by dsimp only; omega)]; exact HX1.out
    have x2 : W7.cell? ⟨W6.heap.size, 0, none⟩ = some (.slice a2 xs.length c2) := by rw [← hW7]; simp
    have HA7 : Hid (SegsAt 0 W7 (.slice a1 xs.length c1) xs) := At.kept kept_seg (At.kept kept_seg HA1.out HB34.out) b47
    have HO7 : Hid (OSegs W7 (.slice a2 xs.length c2) xs bs2) := OAt.kept keptO_seg hO2 b67.size (fun c hc => b67.block c (OAt.lt ltO_seg hO2 c hc))
    have HND := hide hnd2
    have HB47 := hide b47
    have HS7 := hide s7
    have h36 : W3.heap.size < W6.heap.size := by omega
    have H36 := hide h36
    clear q0 q1 q2 q3 q4 q5 hb5 hb6 b46 b67 b47 hO2 hnd2 hfr2 s5 s4 s7 s46 hX0 hW4 h36
    go_wp2_with fail
    refine (eqMsg_any xs _ _ _ (OAt.toAt toAt_seg HO7.out (lo := 0) (fun _ _ => Nat.zero_le _)) HA7.out).mono ?_
    rintro e W8 ⟨rfl, hb8⟩
    have s7 := HS7.out
    have h36 := H36.out
    have s8 := hb8.size
    have y1 : W8.cell? ⟨W3.heap.size, 0, none⟩ = some (.slice a1 xs.length c1) := by rw [hb8.cell (p := ⟨W3.heap.size, 0, none⟩) (by dsimp only; omega)]; exact x1
    have y2 : W8.cell? ⟨W6.heap.size, 0, none⟩ = some (.slice a2 xs.length c2) := by rw [hb8.cell (p := ⟨W6.heap.size, 0, none⟩) (by dsimp only; omega)]; exact x2
    have HO8 : Hid (OSegs W8 (.slice a2 xs.length c2) xs bs2) := OAt.kept keptO_seg HO7.out s8 (fun c hc => hb8.block c (by have := HL2.out c hc; omega))
    have HB48 := hide (bjoin' hb8 HB47.out)
    have H68 := hide (show W6.heap.size < W8.heap.size by omega)
    clear hb8 x1 x2 s8 s7 h36 hW7
    go_wp2_with fail
    refine (markMsg_any xs _ bs2 1 _ (by omega) HC.out HND.out HO8.out).mono ?_
    rintro e W9 ⟨rfl, hon, hO9⟩
    have s9 := hon.size
    have h68 := H68.out
    have h36 := H36.out
    have hs4 := HS4.out
    have hn6 : W6.heap.size ∉ bs2 := fun h => by have := HL2.out _ h; omega
    have hn3 : W3.heap.size ∉ bs2 := fun h => by have := HL2.out _ h; omega
    have z1 : W9.cell? ⟨W3.heap.size, 0, none⟩ = some (.slice a1 xs.length c1) := by rw [only_cell' hon (by omega) hn3]; exact y1
    have z2 : W9.cell? ⟨W6.heap.size, 0, none⟩ = some (.slice a2 xs.length c2) := by rw [only_cell' hon h68 hn6]; exact y2
    have HA9 : Hid (SegsAt 0 W9 (.slice a2 xs.length c2) (mkMsg 1 xs)) := OAt.toAt toAt_seg hO9 (fun _ _ => Nat.zero_le _)
    have HB49 : Hid (Below W4.heap.size W4 W9) := HB48.out.trans (hon.below (by have := HB48.out.size; omega) (fun b hb => (HL2.out b hb).1))
    have H69 := hide (show W6.heap.size < W9.heap.size by omega)
    clear hon hO9 y1 y2 s9 h68 h36 hs4 hn6 hn3
    go_wp2_with fail
    refine (heldMsg_any xs _ 1 _ (by omega) HC.out HA9.out).mono ?_
    rintro e W10 ⟨rfl, hb10⟩
    have b410 := bjoin' hb10 HB49.out
    have hq0 : ¬ (((1 + cMsg xs : Nat) : Int)) < 0 := by omega
    have h69 := H69.out
    have h36 := H36.out
    have v1 : W10.cell? ⟨W3.heap.size, 0, none⟩ = some (.slice a1 xs.length c1) := by rw [hb10.cell (p := ⟨W3.heap.size, 0, none⟩) (by dsimp only; omega)]; exact z1
    obtain ⟨q0, q1, q2, q3, q4, q5⟩ := KEEP.out W10 (bjoin' b410 HB04.out)
    have HB410 := hide b410
    have HV1 := hide v1
    have H310 := hide (show W3.heap.size < W10.heap.size by have := hb10.size; omega)
    clear hb10 b410 z1 z2 h69 h36 v1
    go_wp2_with fail
    refine (HTO.out _).mono ?_
    rintro e W11 ⟨rfl, hb11⟩
    go_wp2_with fail
    refine (HIM.out _).mono ?_
    rintro e W12 ⟨u3, rfl, bs3, hO3, _, _, hb12⟩
    obtain ⟨a3, c3, rfl⟩ := form_osegs hO3
    obtain ⟨W13, hW13⟩ : ∃ W13, W12.alloc (Obj.cells #[.slice a3 xs.length c3] 55) = W13 := ⟨_, rfl⟩
    have b1213 : Below W12.heap.size W12 W13 := by rw [← hW13]; exact (Below.refl _ _).alloc (Nat.le_refl _) _
    have b1013 := bjoin' b1213 (bjoin' hb12 hb11)
    have b413 := bjoin' b1013 HB410.out
    have x1 : W13.cell? ⟨W3.heap.size, 0, none⟩ = some (.slice a1 xs.length c1) := by rw [b1013.cell (p := ⟨W3.heap.size, 0, none⟩) H310.out]; exact HV1.out
    have x2 : W13.cell? ⟨W12.heap.size, 0, none⟩ = some (.slice a3 xs.length c3) := by rw [← hW13]; simp
    have HA13 : Hid (SegsAt 0 W13 (.slice a1 xs.length c1) xs) := At.kept kept_seg (At.kept kept_seg HA1.out HB34.out) b413
    have HO13 : Hid (OSegs W13 (.slice a3 xs.length c3) xs bs3) := OAt.kept keptO_seg hO3 b1213.size (fun c hc => b1213.block c (OAt.lt ltO_seg hO3 c hc))
    have HB013 := hide (bjoin' (bjoin' b413 HB04.out) HB0.out)
    clear q0 q1 q2 q3 q4 q5 hb11 hb12 b1213 b1013 b413 hO3
    go_wp2_with fail
    refine (eqMsg_any xs _ _ _ (OAt.toAt toAt_seg HO13.out (lo := 0) (fun _ _ => Nat.zero_le _)) HA13.out).mono ?_
    rintro e W14 ⟨rfl, hb14⟩
    have HB014 := hide (bjoin' hb14 HB013.out)
    clear hb14 x1 x2
    go_wp2_with fail
    go_ret
    exact ⟨rfl, HB014.out⟩
  · have hrest : rest 1048576 (reqSz r) = -1 := rest_no hsz
    rw [hrest] at HSZ
    clear hrest hI hsz HS g1 g2 g3 g4
    obtain ⟨kind, control, tag, query, page, pointer⟩ := r
    unfold reqV at HSZ ⊢
    dsimp only at HSZ p0 p1 p2 p3 p4 p5 KEEP hX0 ⊢
    go_enter Try.func8, Try.ntmps8
    go_wp2_with fail
    refine (HSZ.out _).mono ?_
    rintro e W1 ⟨rfl, hb1⟩
    have HW1 := hide (bjoin' hb1 HB0.out)
    clear hb1
    go_wp2_with fail
    go_ret
    exact ⟨rfl, HW1.out⟩
end Go.Proofs.Ytjpdgcodjnnljaa.Msg
