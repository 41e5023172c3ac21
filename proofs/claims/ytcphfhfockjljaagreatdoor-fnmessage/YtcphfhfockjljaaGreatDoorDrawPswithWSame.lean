import Derived.Test.YtcphfhfockjljaaGreatDoorMsgEncodewithDrawRedowithDrawPar
import Derived.Test.YtcphfhfockjljaaGreatDoorMsgEqwithMsgEq2withMsgTo
import Derived.Deep.LoopGhost
import Derived.Test.YtcphfhfockjljaaGreatDoorFlatKitwithFlatAppwithCutPure
namespace Go.Proofs.YtcphfhfockjljaaGreatDoor.Msg
open Go.ChangeShapes Go.WideShapes Go.ChangeAt Go.RowKit
set_option linter.unusedVariables false
set_option linter.unusedSimpArgs false

/-! DrawParse -/
def drTexts : List ByteArray := [⟨#[]⟩, ⟨#[77, 83, 72]⟩, ⟨#[77, 83, 72, 124, 94, 126, 124, 38]⟩, ⟨#[77, 83, 72, 124, 94, 126, 97, 38]⟩, ⟨#[77, 83, 72, 124, 94, 126, 92, 38, 120]⟩, ⟨#[77, 83, 72, 124, 94, 126, 92, 38, 13, 13]⟩, ⟨#[77, 83, 72, 124, 94, 126, 92, 38, 13, 122, 122, 122, 124, 97]⟩, ⟨#[77, 83, 72, 124, 94, 126, 92, 38, 124, 92, 88, 92]⟩, ⟨#[77, 83, 72, 124, 94, 126, 92, 38, 124, 92, 70]⟩, ⟨#[77, 83, 72, 124, 94, 126, 92, 38, 13, 77, 83, 72, 124, 94, 126, 92, 38]⟩, ⟨#[77, 83, 72, 124, 94, 126, 92, 38, 124, 97, 94, 94, 126, 94, 98, 126, 126, 94, 94, 124, 124]⟩, ⟨#[77, 83, 72, 124, 94, 126, 92, 38, 13, 90, 90, 90, 97]⟩]
theorem drTexts_sz (k : Nat) : (drTexts.getD k ⟨#[]⟩).size ≤ 100 := by
  rw [List.getD_eq_getElem?_getD]
  by_cases h : k < drTexts.length
  · rw [List.getElem?_eq_getElem h]
    exact (by decide : ∀ x ∈ drTexts, x.size ≤ 100) _ (List.getElem_mem h)
  · rw [List.getElem?_eq_none (by omega)]; exact Nat.zero_le _
set_option maxRecDepth 100000 in
set_option maxHeartbeats 2000000 in
theorem drawParse_any (cs : List UInt8) (v : Value) (w : World) {lo : Nat} (hv : CodeAt lo w v cs) (hl : cs.length ≤ 1048576) :
    Calls Tryz.prog 11 #[v] w (TextPost w 100100) := by
  have HV := hide hv
  obtain ⟨va, vc, rfl, _⟩ := code_form hv
  have HT1 := hide (take_any cs (.slice va cs.length vc) 0 16 w HV.out hl (by decide) (by decide))
  have HT2 := hide (take_any cs (.slice va cs.length vc) 1 12 w HV.out hl (by decide) (by decide))
  have HDT := hide (drawText_any cs (.slice va cs.length vc) 2 w HV.out hl (by decide))
  have hA := tk_lt cs 0 16 (by decide)
  have hX := tk_lt cs 1 12 (by decide)
  obtain ⟨A, hAe⟩ : ∃ A, tk cs 0 16 = A := ⟨_, rfl⟩
  obtain ⟨X, hXe⟩ : ∃ A, tk cs 1 12 = A := ⟨_, rfl⟩
  rw [hAe] at HT1 hA
  rw [hXe] at HT2 hX
  have HBK := hide (bulk_any X w hX)
  have c0 : ((0 : Nat) : Int) = 0 := rfl
  have c01 : ((0 + 1 : Nat) : Int) = 1 := rfl
  have c1 : ((1 : Nat) : Int) = 1 := rfl
  have c11 : ((1 + 1 : Nat) : Int) = 2 := rfl
  have c2 : ((2 : Nat) : Int) = 2 := rfl
  rw [c0, c01] at HT1
  rw [c1, c11] at HT2
  rw [c2] at HDT
  have HB0 : Hid (Below w.heap.size w w) := Below.refl _ _
  clear hv hAe hXe c0 c01 c1 c11 c2
  go_enter Tryz.func11, Tryz.ntmps11
  go_wp2_with fail
  refine HT1.out.mono ?_
  rintro e y ⟨rfl, hy⟩
  (try rw [hy])
  clear hy y
  go_wp2_with fail
  refine HT2.out.mono ?_
  rintro e y ⟨rfl, hy⟩
  (try rw [hy])
  clear hy y
  have hcase : A = 15 ∨ A = 14 ∨ A ≤ 13 := by omega
  rcases hcase with rfl | rfl | h13
  · obtain ⟨x3, hx3⟩ : ∃ x, w.alloc (Obj.cells #[.string ⟨#[]⟩, .string ⟨#[77, 83, 72]⟩, .string ⟨#[77, 83, 72, 124, 94, 126, 124, 38]⟩, .string ⟨#[77, 83, 72, 124, 94, 126, 97, 38]⟩, .string ⟨#[77, 83, 72, 124, 94, 126, 92, 38, 120]⟩, .string ⟨#[77, 83, 72, 124, 94, 126, 92, 38, 13, 13]⟩, .string ⟨#[77, 83, 72, 124, 94, 126, 92, 38, 13, 122, 122, 122, 124, 97]⟩, .string ⟨#[77, 83, 72, 124, 94, 126, 92, 38, 124, 92, 88, 92]⟩, .string ⟨#[77, 83, 72, 124, 94, 126, 92, 38, 124, 92, 70]⟩, .string ⟨#[77, 83, 72, 124, 94, 126, 92, 38, 13, 77, 83, 72, 124, 94, 126, 92, 38]⟩, .string ⟨#[77, 83, 72, 124, 94, 126, 92, 38, 124, 97, 94, 94, 126, 94, 98, 126, 126, 94, 94, 124, 124]⟩, .string ⟨#[77, 83, 72, 124, 94, 126, 92, 38, 13, 90, 90, 90, 97]⟩] 9) = x := ⟨_, rfl⟩
    have HNB : Hid (Box x3 w.heap.size 9 (drTexts.map Value.string).toArray) := by rw [← hx3]; exact Box.new _ _ _
    have HB3 : Hid (Below w.heap.size w x3) := by rw [← hx3]; exact (Below.refl _ _).alloc (Nat.le_refl _) _
    obtain ⟨g, hg⟩ : ∃ g, drTexts.getD X ⟨#[]⟩ = g := ⟨_, rfl⟩
    have hXl : X < drTexts.length := hX
    have n0 : x3.cell? ⟨w.heap.size, X, none⟩ = some (.string g) := by
      have q := HNB.out.cell X (by simpa using hXl)
      rw [List.getElem_toArray, List.getElem_map] at q
      rw [← hg, List.getD_eq_getElem?_getD, List.getElem?_eq_getElem hXl]
      exact q
    have hgz := drTexts_sz X
    rw [hg] at hgz
    have hx12 : (X : Int) < 12 := by omega
    have hx0 : (0 : Int) ≤ (X : Int) := by omega
    rw [← hx3] at n0 HB3
    clear hg hx3 HNB hXl
    go_wp2_with fail
    go_ret
    exact ⟨_, rfl, by omega, HB3.out⟩
  · go_wp2_with fail
    refine HBK.out.mono ?_
    rintro e z2 ⟨t, rfl, ht, hb2⟩
    have HB3 := hide hb2
    clear hb2
    go_wp2_with fail
    go_ret
    exact ⟨_, rfl, ht, HB3.out⟩
  · have n15 : ((A : Int) == 15) = false := by simp; omega
    have n14 : ((A : Int) == 14) = false := by simp; omega
    go_wp2_with fail
    refine HDT.out.mono ?_
    rintro e z2 ⟨t, qq, rfl, ht, hb2⟩
    have HB3 := hide hb2
    clear hb2
    go_wp2_with fail
    go_ret
    exact ⟨_, rfl, by omega, HB3.out⟩
end Go.Proofs.YtcphfhfockjljaaGreatDoor.Msg

namespace Go.Proofs.YtcphfhfockjljaaGreatDoor.Msg
open Go.ChangeShapes Go.WideShapes Go.ChangeAt Go.RowKit
set_option linter.unusedVariables false
set_option linter.unusedSimpArgs false

/-! wSameTexts, wSameMessage of two that are one -/
set_option maxHeartbeats 2000000 in
theorem wTexts_yes (xs : List ByteArray) (v u : Value) (w : World) {lo lo2 : Nat} (hv : StrsAt lo w v xs) (hu : StrsAt lo2 w u xs) :
    Calls Tryz.prog 23 #[v, u] w fun e w' => e = .returned (.bool true) ∧ Below w.heap.size w w' := by
  have hl1 := hv.1
  obtain ⟨a, cap, rfl, hc⟩ := hv.form
  obtain ⟨a2, cap2, rfl, hc2⟩ := hu.form
  clear hv hu
  obtain ⟨n, hn⟩ : ∃ n, xs.length = n := ⟨_, rfl⟩
  rw [hn]
  rw [hn] at hl1
  have HC : Hid (∀ k (h1 : k < xs.length), ∃ b off b2 off2, a = some ⟨b, off, none⟩ ∧ a2 = some ⟨b2, off2, none⟩ ∧ b < w.heap.size ∧ b2 < w.heap.size ∧ w.cell? ⟨b, off + k, none⟩ = some (.string (xs[k])) ∧ w.cell? ⟨b2, off2 + k, none⟩ = some (.string (xs[k]))) := fun k h1 => by
    obtain ⟨b, off, e1, _, l1, r1⟩ := hc k h1
    obtain ⟨b2, off2, e2, _, l2, r2⟩ := hc2 k h1
    exact ⟨b, off, b2, off2, e1, e2, l1, l2, by simpa using r1.1, by simpa using r2.1⟩
  have HN := hide hn
  clear hc hc2 hn
  go_enter Tryz.func23, Tryz.ntmps23
  go_wp2_with fail
  go_loopg [5] n (fun q i wr => ∃ k : Nat, k ≤ n ∧ q = n - k ∧ i = .int .i64 (k : Int) ∧ Below w.heap.size w wr)
  case atStart => exact ⟨0, Nat.zero_le _, rfl, rfl, Below.refl _ _⟩
  case round =>
    obtain ⟨k, hk, rfl, rfl, hb⟩ := hrel
    by_cases hlt : k < n
    · have hki : (k : Int) < (n : Int) := by omega
      have k1 : k < xs.length := by have := HN.out; omega
      obtain ⟨b, off, b2, off2, rfl, rfl, l1, l2, r1, r2⟩ := HC.out k k1
      have h1 := (hb.cell (p := ⟨b, off + k, none⟩) l1).trans r1
      have h2 := (hb.cell (p := ⟨b2, off2 + k, none⟩) l2).trans r2
      obtain ⟨x, hx⟩ : ∃ x, xs[k] = x := ⟨_, rfl⟩
      rw [hx] at h1 h2
      clear r1 r2 hx k1
      go_wp2_with fail
      go_quiet (fail)
      go_wp2_with fail
      go_roundg (n - (k + 1))
      case measure => omega
      case rel => exact ⟨k + 1, by omega, rfl, by go_num, below_drewN hb _⟩
    · have hki : ¬ (k : Int) < (n : Int) := by omega
      go_wp2_with fail
      go_ret
      exact ⟨rfl, hb⟩
set_option maxRecDepth 100000 in
set_option maxHeartbeats 8000000 in
theorem wMsg_yes (xs : List Seg) (v u : Value) (w : World) {lo lo2 : Nat} (hv : SegsAt lo w v xs) (hu : SegsAt lo2 w u xs) :
    Calls Tryz.prog 10 #[.agg #[v], .agg #[u]] w fun e w' => e = .returned (.bool true) ∧ Below w.heap.size w w' := by
  have hl1 := hv.1
  obtain ⟨w2, hw2⟩ : ∃ w2, (w.alloc (Obj.cells #[v] 25)).alloc (Obj.cells #[u] 25) = w2 := ⟨_, rfl⟩
  have hb0 : Below w.heap.size w w2 := by rw [← hw2]; exact ((Below.refl w.heap.size w).alloc (Nat.le_refl _) _).alloc (by simp) _
  have c0 : w2.cell? ⟨w.heap.size, 0, none⟩ = some v := by rw [← hw2]; simp
  have c1 : w2.cell? ⟨w.heap.size + 1, 0, none⟩ = some u := by rw [← hw2]; simp
  have hs2 : w2.heap.size = w.heap.size + 2 := by rw [← hw2]; simp
  have hv2 := At.kept kept_seg hv hb0
  have hu2 := At.kept kept_seg hu hb0
  obtain ⟨a, cap, rfl, hc⟩ := hv2.form
  obtain ⟨a2, cap2, rfl, hc2⟩ := hu2.form
  have HB0 := hide hb0
  have HW2 := hide hw2
  clear hv hu hv2 hu2 hb0 hw2
  obtain ⟨n, hn⟩ : ∃ n, xs.length = n := ⟨_, rfl⟩
  have HN := hide hn
  rw [hn] at c0 c1 hl1 HW2 ⊢
  have KB : Hid (∀ X, Below w2.heap.size w2 X → X.cell? ⟨w.heap.size, 0, none⟩ = some (.slice a n cap) ∧ X.cell? ⟨w.heap.size + 1, 0, none⟩ = some (.slice a2 n cap2)) := fun X h =>
    ⟨(h.cell (p := ⟨w.heap.size, 0, none⟩) (by rw [hs2]; simp)).trans c0, (h.cell (p := ⟨w.heap.size + 1, 0, none⟩) (by rw [hs2]; simp)).trans c1⟩
  have HC : Hid (∀ k (h1 : k < xs.length), ∃ b off b2 off2 ve ue, a = some ⟨b, off, none⟩ ∧ a2 = some ⟨b2, off2, none⟩ ∧ b < w2.heap.size ∧ b2 < w2.heap.size ∧ (w2.cell? ⟨b, off + k * 2, none⟩ = some (.string (xs[k]).name) ∧ w2.cell? ⟨b, off + k * 2 + 1, none⟩ = some ve) ∧ (w2.cell? ⟨b2, off2 + k * 2, none⟩ = some (.string (xs[k]).name) ∧ w2.cell? ⟨b2, off2 + k * 2 + 1, none⟩ = some ue) ∧ FieldsAt lo w2 ve (xs[k]).fields ∧ FieldsAt lo2 w2 ue (xs[k]).fields) := fun k h1 => by
    obtain ⟨b, off, e1, _, l1, r0, _, ve, r1, s1⟩ := hc k h1
    obtain ⟨b2, off2, e2, _, l2, q0, _, ue, q1, s2⟩ := hc2 k h1
    exact ⟨b, off, b2, off2, ve, ue, e1, e2, l1, l2, ⟨r0, r1⟩, ⟨q0, q1⟩, s1, s2⟩
  have hw2 := HW2.out
  clear hc hc2 hn HW2
  go_enter Tryz.func10, Tryz.ntmps10
  go_wp2_with fail
  go_loopg [5] n (fun q i wr => ∃ k : Nat, k ≤ n ∧ q = n - k ∧ i = .int .i64 (k : Int) ∧ Below w2.heap.size w2 wr)
  case atStart => exact ⟨0, Nat.zero_le _, rfl, rfl, Below.refl _ _⟩
  case round =>
    obtain ⟨k, hk, rfl, rfl, hb⟩ := hrel
    clear c0 c1
    obtain ⟨Y, rfl⟩ : ∃ x, x = wr := ⟨_, rfl⟩
    obtain ⟨c0, c1⟩ := KB.out Y hb
    have HBR := hide hb
    clear hb
    by_cases hlt : k < n
    · have hki : (k : Int) < (n : Int) := by omega
      have k1 : k < xs.length := by have := HN.out; omega
      obtain ⟨b, off, b2, off2, ve, ue, rfl, rfl, l1, l2, ⟨r0, r1⟩, ⟨q0, q1⟩, s1, s2⟩ := HC.out k k1
      obtain ⟨⟨nm, fs⟩, hsg⟩ : ∃ s, xs[k] = s := ⟨_, rfl⟩
      rw [hsg] at r0 q0 s1 s2
      dsimp only at r0 q0 s1 s2
      have hlf := s1.1
      obtain ⟨af, cf, rfl, hcf⟩ := s1.form
      obtain ⟨af2, cf2, rfl, hcf2⟩ := s2.form
      obtain ⟨nf, hnf⟩ : ∃ n, fs.length = n := ⟨_, rfl⟩
      have HNF := hide hnf
      rw [hnf] at r1 q1 hlf
      have g0 : Y.cell? ⟨b, off + k * 2, none⟩ = some (.string nm) := (HBR.out.cell (p := ⟨b, off + k * 2, none⟩) l1).trans r0
      have g1 : Y.cell? ⟨b, off + k * 2 + 1, none⟩ = some (.slice af nf cf) := (HBR.out.cell (p := ⟨b, off + k * 2 + 1, none⟩) l1).trans r1
      obtain ⟨Y1, hY1⟩ : ∃ x, Y.alloc (Obj.cells #[.string nm, .slice af nf cf] 41) = x := ⟨_, rfl⟩
      have hbY1 : Below w2.heap.size w2 Y1 := by rw [← hY1]; exact HBR.out.alloc HBR.out.size _
      have d0 : Y1.cell? ⟨w.heap.size + 1, 0, none⟩ = some (.slice (some ⟨b2, off2, none⟩) n cap2) := (KB.out Y1 hbY1).2
      have d1 : Y1.cell? ⟨b2, off2 + k * 2, none⟩ = some (.string nm) := (hbY1.cell (p := ⟨b2, off2 + k * 2, none⟩) l2).trans q0
      have d2 : Y1.cell? ⟨b2, off2 + k * 2 + 1, none⟩ = some (.slice af2 nf cf2) := (hbY1.cell (p := ⟨b2, off2 + k * 2 + 1, none⟩) l2).trans q1
      obtain ⟨Y2, hY2⟩ : ∃ x, Y1.alloc (Obj.cells #[.string nm, .slice af2 nf cf2] 41) = x := ⟨_, rfl⟩
      have hbY2 : Below w2.heap.size w2 Y2 := by rw [← hY2]; exact hbY1.alloc hbY1.size _
      have sY1 : Y1.heap.size = Y.heap.size + 1 := by rw [← hY1]; simp
      have sY2 : Y2.heap.size = Y.heap.size + 2 := by rw [← hY2]; simp [sY1]
      have o1 : Box Y2 Y.heap.size 41 #[.string nm, .slice af nf cf] := by rw [← hY2, ← hY1]; exact (Box.new _ _ _).alloc _
      have o2 : Box Y2 (Y.heap.size + 1) 41 #[.string nm, .slice af2 nf cf2] := by rw [← hY2, ← sY1]; exact Box.new _ _ _
      have e0 : Y2.cell? ⟨Y.heap.size, 0, none⟩ = some (.string nm) := o1.cell 0 (by simp)
      have e1 : Y2.cell? ⟨Y.heap.size, 1, none⟩ = some (.slice af nf cf) := o1.cell 1 (by simp)
      have e2 : Y2.cell? ⟨Y.heap.size + 1, 0, none⟩ = some (.string nm) := o2.cell 0 (by simp)
      have e3 : Y2.cell? ⟨Y.heap.size + 1, 1, none⟩ = some (.slice af2 nf cf2) := o2.cell 1 (by simp)
      have KF : Hid (∀ X, Below Y2.heap.size Y2 X → X.cell? ⟨Y.heap.size, 1, none⟩ = some (.slice af nf cf) ∧ X.cell? ⟨Y.heap.size + 1, 1, none⟩ = some (.slice af2 nf cf2)) := fun X h =>
        ⟨(h.cell (p := ⟨Y.heap.size, 1, none⟩) (by dsimp only; omega)).trans e1, (h.cell (p := ⟨Y.heap.size + 1, 1, none⟩) (by dsimp only; omega)).trans e3⟩
      have HCF : Hid (∀ j (h1 : j < fs.length), ∃ b off b2 off2 ve ue, af = some ⟨b, off, none⟩ ∧ af2 = some ⟨b2, off2, none⟩ ∧ b < w2.heap.size ∧ b2 < w2.heap.size ∧ w2.cell? ⟨b, off + j, none⟩ = some ve ∧ w2.cell? ⟨b2, off2 + j, none⟩ = some ue ∧ RepsAt lo w2 ve (fs[j]) ∧ RepsAt lo2 w2 ue (fs[j])) := fun j h1 => by
        obtain ⟨b, off, e1, _, l1, ve, r1, s1⟩ := hcf j h1
        obtain ⟨b2, off2, e2, _, l2, ue, q1, s2⟩ := hcf2 j h1
        exact ⟨b, off, b2, off2, ve, ue, e1, e2, l1, l2, by simpa using r1, by simpa using q1, s1, s2⟩
      have HYY : Hid ((Y.alloc (Obj.cells #[.string nm, .slice af nf cf] 41)).alloc (Obj.cells #[.string nm, .slice af2 nf cf2] 41) = Y2) := by rw [hY1]; exact hY2
      have HBY2 := hide hbY2
      have HSY := hide sY2
      rw [← HYY.out] at e0 e1 e2 e3
      rw [← hY1] at d0 d1 d2
      clear hcf hcf2 s1 s2 r0 r1 q0 q1 hsg hnf o1 o2 hbY1 hbY2 hY1 hY2 k1 sY1 sY2
      have sY1 : (Y.alloc (Obj.cells #[.string nm, .slice af nf cf] 41)).heap.size = Y.heap.size + 1 := by simp
      go_wp2_with fail
      rw [HYY.out]
      rw [HYY.out] at e0 e1 e2 e3
      clear d0 d1 d2 sY1 g0 g1 c0 c1 e0 e1 e2 e3
      go_loopg [8] nf (fun q j wr => ∃ kf : Nat, kf ≤ nf ∧ q = nf - kf ∧ j = .int .i64 (kf : Int) ∧ Below Y2.heap.size Y2 wr)
      case atStart => exact ⟨0, Nat.zero_le _, rfl, rfl, Below.refl _ _⟩
      case round =>
        obtain ⟨kf, hkf, rfl, rfl, hb⟩ := hrel
        obtain ⟨Z, rfl⟩ : ∃ x, x = wr := ⟨_, rfl⟩
        have HBZ := hide hb
        clear hb
        obtain ⟨e1, e3⟩ := KF.out Z HBZ.out
        by_cases hlt2 : kf < nf
        · have hkfi : (kf : Int) < (nf : Int) := by omega
          obtain ⟨b3, off3, b4, off4, vr, ur, rfl, rfl, l3, l4, r3, r4, s3, s4⟩ := HCF.out kf (by have := HNF.out; omega)
          obtain ⟨f, hf⟩ : ∃ f, fs[kf]'(by have := HNF.out; omega) = f := ⟨_, rfl⟩
          rw [hf] at s3 s4
          have hlr := s3.1
          obtain ⟨ar, cr, rfl, hcr⟩ := s3.form
          obtain ⟨ar2, cr2, rfl, hcr2⟩ := s4.form
          obtain ⟨nr, hnr⟩ : ∃ n, f.length = n := ⟨_, rfl⟩
          have HNR := hide hnr
          rw [hnr] at r3 r4 hlr
          have KR : Hid (∀ X, Below Y2.heap.size Y2 X → X.cell? ⟨Y.heap.size, 1, none⟩ = some (.slice (some ⟨b3, off3, none⟩) nf cf) ∧ X.cell? ⟨Y.heap.size + 1, 1, none⟩ = some (.slice (some ⟨b4, off4, none⟩) nf cf2) ∧ X.cell? ⟨b3, off3 + kf, none⟩ = some (.slice ar nr cr) ∧ X.cell? ⟨b4, off4 + kf, none⟩ = some (.slice ar2 nr cr2)) := fun X h =>
            ⟨(KF.out X h).1, (KF.out X h).2, ((bjoin h HBY2.out).cell (p := ⟨b3, off3 + kf, none⟩) l3).trans r3, ((bjoin h HBY2.out).cell (p := ⟨b4, off4 + kf, none⟩) l4).trans r4⟩
          have HCR : Hid (∀ j (h1 : j < f.length), ∃ b off b2 off2 ve ue, ar = some ⟨b, off, none⟩ ∧ ar2 = some ⟨b2, off2, none⟩ ∧ b < w2.heap.size ∧ b2 < w2.heap.size ∧ w2.cell? ⟨b, off + j, none⟩ = some ve ∧ w2.cell? ⟨b2, off2 + j, none⟩ = some ue ∧ StrsAt lo w2 ve (f[j]) ∧ StrsAt lo2 w2 ue (f[j])) := fun j h1 => by
            obtain ⟨b, off, e1, _, l1, ve, r1, s1⟩ := hcr j h1
            obtain ⟨b2, off2, e2, _, l2, ue, q1, s2⟩ := hcr2 j h1
            exact ⟨b, off, b2, off2, ve, ue, e1, e2, l1, l2, by simpa using r1, by simpa using q1, s1, s2⟩
          clear hcr hcr2 s3 s4 r3 r4 hf hnr e1 e3
          obtain ⟨e1, e3, e5, e7⟩ := KR.out Z HBZ.out
          go_wp2_with fail
          go_quiet (fail)
          clear e1 e3 e5 e7
          go_wp2_with fail
          go_loopg [9] nr (fun q j wr => ∃ kr : Nat, kr ≤ nr ∧ q = nr - kr ∧ j = .int .i64 (kr : Int) ∧ Below Y2.heap.size Y2 wr)
          case atStart => exact ⟨0, Nat.zero_le _, rfl, rfl, below_drewN HBZ.out _⟩
          case round =>
            obtain ⟨kr, hkr, rfl, rfl, hb⟩ := hrel
            obtain ⟨U, rfl⟩ : ∃ x, x = wr := ⟨_, rfl⟩
            have HBU := hide hb
            clear hb
            obtain ⟨e1, e3, e5, e7⟩ := KR.out U HBU.out
            by_cases hlt3 : kr < nr
            · have hkri : (kr : Int) < (nr : Int) := by omega
              obtain ⟨b5, off5, b6, off6, vs, us, rfl, rfl, l5, l6, r5, r6, s5, s6⟩ := HCR.out kr (by have := HNR.out; omega)
              obtain ⟨rp, hrp⟩ : ∃ f', f[kr]'(by have := HNR.out; omega) = f' := ⟨_, rfl⟩
              rw [hrp] at s5 s6
              have KS : Hid (∀ X, Below Y2.heap.size Y2 X → X.cell? ⟨Y.heap.size, 1, none⟩ = some (.slice (some ⟨b3, off3, none⟩) nf cf) ∧ X.cell? ⟨Y.heap.size + 1, 1, none⟩ = some (.slice (some ⟨b4, off4, none⟩) nf cf2) ∧ X.cell? ⟨b3, off3 + kf, none⟩ = some (.slice (some ⟨b5, off5, none⟩) nr cr) ∧ X.cell? ⟨b4, off4 + kf, none⟩ = some (.slice (some ⟨b6, off6, none⟩) nr cr2) ∧ X.cell? ⟨b5, off5 + kr, none⟩ = some vs ∧ X.cell? ⟨b6, off6 + kr, none⟩ = some us) := fun X h =>
                ⟨(KR.out X h).1, (KR.out X h).2.1, (KR.out X h).2.2.1, (KR.out X h).2.2.2, ((bjoin h HBY2.out).cell (p := ⟨b5, off5 + kr, none⟩) l5).trans r5, ((bjoin h HBY2.out).cell (p := ⟨b6, off6 + kr, none⟩) l6).trans r6⟩
              have HST := hide (fun X (h : Below Y2.heap.size Y2 X) => wTexts_yes rp vs us X (At.kept kept_str s5 (bjoin h HBY2.out)) (At.kept kept_str s6 (bjoin h HBY2.out)))
              obtain ⟨D, hDe⟩ : ∃ D, U.drew = D := ⟨_, rfl⟩
              have hD0 : Below Y2.heap.size Y2 U.drew := HBU.out.drew
              have hD : Below Y2.heap.size Y2 D := by rw [← hDe]; exact hD0
              clear hrp s5 s6 r5 r6
              go_wp2_with fail
              go_region_held3 (fun X => X.cell? ⟨Y.heap.size, 1, none⟩ = some (.slice (some ⟨b3, off3, none⟩) nf cf) ∧ X.cell? ⟨Y.heap.size + 1, 1, none⟩ = some (.slice (some ⟨b4, off4, none⟩) nf cf2) ∧ X.cell? ⟨b3, off3 + kf, none⟩ = some (.slice (some ⟨b5, off5, none⟩) nr cr) ∧ X.cell? ⟨b4, off4 + kf, none⟩ = some (.slice (some ⟨b6, off6, none⟩) nr cr2) ∧ X.cell? ⟨b5, off5 + kr, none⟩ = some vs ∧ X.cell? ⟨b6, off6 + kr, none⟩ = some us)
                (first | with_reducible exact KS.out _ hD0 | with_reducible exact KS.out _ hD | with_reducible exact KS.out _ hB9)
                ((go_at_call 23; refine (HST.out _ hD).mono ?_; rintro e W9 ⟨rfl, hb9⟩; have hB9 : Below Y2.heap.size Y2 W9 := bjoin hb9 hD))
              go_wp2_with fail
              go_roundg (nr - (kr + 1))
              case measure => omega
              case rel => exact ⟨kr + 1, by omega, rfl, by go_num, hB9⟩
            · have hkri : ¬ (kr : Int) < (nr : Int) := by omega
              go_wp2_with fail
              go_roundg (nf - (kf + 1))
              case measure => omega
              case rel => exact ⟨kf + 1, by omega, rfl, by go_num, HBU.out⟩
        · have hkfi : ¬ (kf : Int) < (nf : Int) := by omega
          have HBB := hide (bjoin HBZ.out HBY2.out)
          go_wp2_with fail
          go_roundg (n - (k + 1))
          case measure => omega
          case rel => exact ⟨k + 1, by omega, rfl, by go_num, HBB.out⟩
    · have hki : ¬ (k : Int) < (n : Int) := by omega
      go_wp2_with fail
      go_ret
      exact ⟨rfl, bjoin HBR.out HB0.out⟩
end Go.Proofs.YtcphfhfockjljaaGreatDoor.Msg
