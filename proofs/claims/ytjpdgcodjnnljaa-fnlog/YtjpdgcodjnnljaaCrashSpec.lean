import Derived.Test.YtjpdgcodjnnljaaCrashFns2
import Derived.Deep.CutBlock
import Derived.Deep.DeepCutAuto
namespace Go.Proofs.Ytjpdgcodjnnljaa.Msg
open Go.ChangeShapes Go.WideShapes Go.ChangeAt Go.RowKit
set_option linter.unusedVariables false
set_option linter.unusedSimpArgs false

theorem bj {w W c : World} (h2 : Below W.heap.size W c) (h1 : Below w.heap.size w W) : Below w.heap.size w c := h1.trans (h2.mono h1.size)
/-- what a crash leaves -/
def crash (S N : ByteArray) (ps : List Int) : ByteArray := if okD S N then ⟨(crashT S.data.toList N.data.toList ps (N.size - S.size)).toArray⟩ else ⟨#[]⟩
theorem okD_le {S N : ByteArray} (h : okD S N = true) : S.size ≤ N.size := by
  unfold okD at h
  simp only [Bool.and_eq_true, decide_eq_true_eq] at h
  exact h.1
theorem byteD (N : ByteArray) (i : Nat) (h : i < N.size) : N.data.toList.getD i 0 = N[i] := by
  rw [List.getD_eq_getElem?_getD, List.getElem?_eq_getElem (by simpa using h)]
  rfl

set_option maxRecDepth 100000 in
set_option maxHeartbeats 4000000 in
theorem crashS_any (S N : ByteArray) (ps : List Int) (v : Value) (w : World) {lo : Nat} (hv : IntsAt lo w v ps) (hN : N.size ≤ 1048576) (hS : S.size ≤ 1048576) :
    Calls Try.prog 47 #[.agg #[.string S, .string N], v] w fun e w' => e = .returned (.agg #[.string (crash S N ps), .string (crash S N ps)]) ∧ Below w.heap.size w w' := by
  obtain ⟨i0, hi, hz0, hz1, hz2⟩ := u8_facts
  obtain ⟨x1, hx1⟩ : ∃ x1, w.alloc (Obj.cells #[.string S, .string N] 32) = x1 := ⟨_, rfl⟩
  obtain ⟨w1, hw1⟩ : ∃ w1, x1.alloc (Obj.cells #[.string ⟨#[]⟩, .string ⟨#[]⟩] 32) = w1 := ⟨_, rfl⟩
  have sx1 : x1.heap.size = w.heap.size + 1 := by rw [← hx1]; simp
  have sw1 : w1.heap.size = w.heap.size + 1 + 1 := by rw [← hw1]; simp [sx1]
  have bx1 : Below w.heap.size w x1 := by rw [← hx1]; exact (Below.refl _ _).alloc (Nat.le_refl _) _
  have bw1 : Below x1.heap.size x1 w1 := by rw [← hw1]; exact (Below.refl _ _).alloc (Nat.le_refl _) _
  have k0 : w1.cell? ⟨w.heap.size, 0, none⟩ = some (.string S) := (bw1.cell (p := ⟨w.heap.size, 0, none⟩) (by rw [sx1]; simp)).trans (by rw [← hx1]; simp)
  have k1 : w1.cell? ⟨w.heap.size, 1, none⟩ = some (.string N) := (bw1.cell (p := ⟨w.heap.size, 1, none⟩) (by rw [sx1]; simp)).trans (by rw [← hx1]; simp)
  have r0 : w1.cell? ⟨w.heap.size + 1, 0, none⟩ = some (.string ⟨#[]⟩) := by rw [← hw1, ← sx1]; simp
  have r1 : w1.cell? ⟨w.heap.size + 1, 1, none⟩ = some (.string ⟨#[]⟩) := by rw [← hw1, ← sx1]; simp
  have rf : ∀ i, w1.frozen? ⟨w.heap.size + 1, i, none⟩ = false := fun i => by rw [← hw1, ← sx1]; simp
  have HB1 := hide (bj bw1 bx1)
  have KEEP : Hid (∀ X, Below w1.heap.size w1 X → X.cell? ⟨w.heap.size, 0, none⟩ = some (.string S) ∧ X.cell? ⟨w.heap.size, 1, none⟩ = some (.string N)) := fun X h =>
    ⟨(h.cell (p := ⟨w.heap.size, 0, none⟩) (by rw [sw1]; dsimp only; omega)).trans k0, (h.cell (p := ⟨w.heap.size, 1, none⟩) (by rw [sw1]; dsimp only; omega)).trans k1⟩
  have KRES : Hid (∀ X, Below w1.heap.size w1 X → X.cell? ⟨w.heap.size + 1, 0, none⟩ = some (.string ⟨#[]⟩) ∧ X.cell? ⟨w.heap.size + 1, 1, none⟩ = some (.string ⟨#[]⟩) ∧ X.frozen? ⟨w.heap.size + 1, 0, none⟩ = false ∧ X.frozen? ⟨w.heap.size + 1, 1, none⟩ = false ∧ w.heap.size + 1 < X.heap.size) := fun X h =>
    ⟨(h.cell (p := ⟨w.heap.size + 1, 0, none⟩) (by rw [sw1]; dsimp only; omega)).trans r0, (h.cell (p := ⟨w.heap.size + 1, 1, none⟩) (by rw [sw1]; dsimp only; omega)).trans r1, (h.frozen (p := ⟨w.heap.size + 1, 0, none⟩) (by rw [sw1]; dsimp only; omega)).trans (rf 0), (h.frozen (p := ⟨w.heap.size + 1, 1, none⟩) (by rw [sw1]; dsimp only; omega)).trans (rf 1), by have := h.size; omega⟩
  have HV := hide (At.kept kept_int hv (bj bw1 bx1))
  have hl := hv.1
  obtain ⟨av, cv, hform, _⟩ := ints_form hv
  subst hform
  clear k0 k1 r0 r1 rf bx1 bw1 hv
  have HSW := hide sw1
  clear sw1
  cases hok : okD S N
  · have HX : Hid (crash S N ps = ⟨#[]⟩) := by unfold crash; rw [hok]; exact rfl
    obtain ⟨p0, p1⟩ := KEEP.out w1 (Below.refl _ _)
    go_enter Try.func47, Try.ntmps47
    go_wp2_with fail
    refine (diskOk_any S N _ hN hS).mono ?_
    rintro e W ⟨rfl, hb⟩
    rw [hok]
    obtain ⟨q0, q1, q2, q3, q4⟩ := KRES.out W hb
    have HB := hide (bj hb HB1.out)
    clear hb p0 p1
    go_wp2_with fail
    exact bodyPost_ret (v := .agg #[.string ⟨#[]⟩, .string ⟨#[]⟩]) (by simp [results, Try.results47, go_sem, q0, q1, q4]) rfl ⟨by rw [HX.out], (HB.out.setCell (by simp) _).setCell (by simp) _⟩
  · have hle := okD_le hok
    have HX : Hid (crash S N ps = ⟨(crashT S.data.toList N.data.toList ps (N.size - S.size)).toArray⟩) := by unfold crash; rw [hok]; exact rfl
    obtain ⟨p0, p1⟩ := KEEP.out w1 (Below.refl _ _)
    go_enter Try.func47, Try.ntmps47
    go_wp2_with fail
    refine (diskOk_any S N _ hN hS).mono ?_
    rintro e W ⟨rfl, hb⟩
    rw [hok]
    obtain ⟨n, hn⟩ : ∃ n, N.size - S.size = n := ⟨_, rfl⟩
    have HNN : Hid (N.size = S.size + n) := by show _ = _; omega
    have hn6 : n ≤ 1048576 := by omega
    rw [hn] at HX
    clear hn
    obtain ⟨q0, q1⟩ := KEEP.out W hb
    have hconv : Sem.run Try.prog (convert 9 22 (.string S)) W = .ok (.slice (some ⟨W.heap.size, 0, none⟩) S.size (grownCap W S.size 0 5)) (Lib.bytesWorld W 5 S) := Lib.run_convert_string_bytes W 9 22 5 S Try.underlying9 Try.underlying22 Try.underlying5
    have hbuf := BufB.of_text W S (by omega)
    have hbw := bytesWorld_below W S
    obtain ⟨W1, hW1⟩ : ∃ W1, Lib.bytesWorld W 5 S = W1 := ⟨_, rfl⟩
    rw [hW1] at hconv hbuf hbw
    have HBUF := hide hbuf
    have HBW := hide hbw
    have HBX := hide hb
    obtain ⟨s0, s1⟩ := KEEP.out W1 (bj hbw hb)
    have hws := hb.size
    have HSL : Hid (S.data.toList.length = S.size) := by show _ = _; simp
    clear hbuf hbw hb p0 p1 hW1
    go_wp2_with fail
    clear q0 q1 s0 s1 hconv
    go_loopg [5, 6, 7] n (fun m v5 en i wr => ∃ k : Nat, k ≤ n ∧ m = n - k ∧ i = .int .i64 ((S.size + k : Nat) : Int) ∧ en = .int .i64 (((crashT S.data.toList N.data.toList ps k).length : Nat) : Int) ∧ BufB W.heap.size wr v5 (crashO S.data.toList N.data.toList ps k) ∧ Below W.heap.size W wr)
    case atStart =>
      refine ⟨0, Nat.zero_le _, by simp, by simp, ?_, ?_, HBW.out⟩
      · show _ = Value.int .i64 ((S.data.toList.length : Nat) : Int)
        rw [HSL.out]
      · have : crashO S.data.toList N.data.toList ps 0 = S.data.toList := by simp [crashO, crashT]
        rw [this]
        exact HBUF.out
    case round =>
      obtain ⟨k, hk, rfl, rfl, rfl, hB, hbr⟩ := hrel
      obtain ⟨Wr, rfl⟩ : ∃ x, x = wr := ⟨_, rfl⟩
      obtain ⟨V5, rfl⟩ : ∃ x, x = u5 := ⟨_, rfl⟩
      obtain ⟨s0, s1⟩ := KEEP.out Wr (bj hbr HBX.out)
      have HBB := hide hB
      have HBR := hide hbr
      have hwr := hbr.size
      have hO := crashO_len S.data.toList N.data.toList ps k
      rw [HSL.out] at hO
      have hNN := HNN.out
      have hTL := crashT_len S.data.toList N.data.toList ps k
      rw [HSL.out] at hTL
      by_cases hlt : k < n
      · have hki : ((S.size + k : Nat) : Int) < (N.size : Int) := by omega
        have hkN : S.size + k < N.size := by omega
        have HIV := hide (At.kept kept_int HV.out (bj hbr HBX.out))
        clear hbr hB
        go_wp2_with fail
        refine (kept_any S.size (S.size + k) ps _ Wr HIV.out (by omega) (by omega)).mono ?_
        rintro e W2 ⟨rfl, rfl⟩
        cases hkp : keptB S.size ps (S.size + k)
        · have HNO := hide (crashO_no (S := S.data.toList) (N := N.data.toList) (ps := ps) (k := k) (by rw [HSL.out]; exact hkp))
          have HBA := hide (HBB.out.below (w' := W2.alloc (Obj.cells #[.int .u8 0] 5)) ((Below.refl _ _).alloc (Nat.le_refl _) _))
          clear hkp
          go_wp2_with (first
            | (at_builtin; refine wpList_oneB _ rfl _ _ 22 9 rfl W.heap.size i0 Try.underlying22 Try.underlying9 hi hz0 hz1 hz2 _ (crashO S.data.toList N.data.toList ps k) rfl HBA.out ⟨W2.heap.size, 0, none⟩ 0 (by simp) rfl (by omega) (by rw [Deep.nblk_alloc]; omega) ?_)
            | fail)
          intro v' w6 hown' hb6
          have HREL : Hid (BufB W.heap.size w6 v' (crashO S.data.toList N.data.toList ps (k + 1)) ∧ Below W.heap.size W w6 ∧ (crashT S.data.toList N.data.toList ps (k + 1)).length = (crashT S.data.toList N.data.toList ps k).length) :=
            ⟨by rw [HNO.out.1]; exact hown', (HBR.out.alloc hwr _).trans hb6, by rw [HNO.out.2]⟩
          clear hown' hb6
          go_wp2_with fail
          go_roundg (n - (k + 1))
          case measure => omega
          case rel => exact ⟨k + 1, by omega, rfl, by go_num, by rw [HREL.out.2.2], HREL.out.1, HREL.out.2.1⟩
        · have HNO := hide (crashO_yes (S := S.data.toList) (N := N.data.toList) (ps := ps) (k := k) (by rw [HSL.out]; exact hkp))
          have HGD := hide (byteD N (S.size + k) hkN)
          have HBA := hide (HBB.out.below (w' := W2.alloc (Obj.cells #[.int .u8 ((N[S.size + k]'hkN).toNat : Int)] 5)) ((Below.refl _ _).alloc (Nat.le_refl _) _))
          clear hkp
          go_wp2_with (first
            | (at_builtin; refine wpList_oneB _ rfl _ _ 22 9 rfl W.heap.size i0 Try.underlying22 Try.underlying9 hi hz0 hz1 hz2 _ (crashO S.data.toList N.data.toList ps k) rfl HBA.out ⟨W2.heap.size, 0, none⟩ (N[S.size + k]'hkN) (by simp) rfl (by omega) (by rw [Deep.nblk_alloc]; omega) ?_)
            | fail)
          intro v' w6 hown' hb6
          have HREL : Hid (BufB W.heap.size w6 v' (crashO S.data.toList N.data.toList ps (k + 1)) ∧ Below W.heap.size W w6 ∧ (crashT S.data.toList N.data.toList ps (k + 1)).length = S.size + k + 1) :=
            ⟨by rw [HNO.out.1, HSL.out, HGD.out]; exact hown', (HBR.out.alloc hwr _).trans hb6, by rw [HNO.out.2, HSL.out]⟩
          clear hown' hb6
          go_wp2_with fail
          go_roundg (n - (k + 1))
          case measure => omega
          case rel => exact ⟨k + 1, by omega, rfl, by go_num, by rw [HREL.out.2.2]; go_num, HREL.out.1, HREL.out.2.1⟩
      · obtain rfl : k = n := by omega
        have hki : ¬ ((S.size + k : Nat) : Int) < (N.size : Int) := by omega
        obtain ⟨g5, cap5, rfl, hc5, hcm5, hstr⟩ := hB.string (n := (crashT S.data.toList N.data.toList ps k).length) (by omega)
        rw [crashO_take] at hstr
        rw [hO] at hc5
        rw [hO]
        obtain ⟨L, hL⟩ : ∃ L, (crashT S.data.toList N.data.toList ps k).length = L := ⟨_, rfl⟩
        rw [hL] at hstr hTL
        rw [hL]
        rw [← HX.out] at hstr
        have hLc : (L : Int) ≤ (cap5 : Int) := by omega
        obtain ⟨q0, q1, q2, q3, q4⟩ := KRES.out Wr (bj hbr HBX.out)
        have HBE := hide (bj hbr (bj HBX.out HB1.out))
        clear hbr hB hO hL
        go_wp2_with fail
        exact bodyPost_ret (v := .agg #[.string (crash S N ps), .string (crash S N ps)]) (by simp [results, Try.results47, go_sem, q0, q1, q4]) rfl ⟨rfl, (HBE.out.setCell (by simp) _).setCell (by simp) _⟩
end Go.Proofs.Ytjpdgcodjnnljaa.Msg
