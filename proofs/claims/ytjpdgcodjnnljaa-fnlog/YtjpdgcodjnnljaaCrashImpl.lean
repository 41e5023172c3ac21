import Derived.Test.YtjpdgcodjnnljaaCrashSpec
import Derived.Deep.RegionHeld3
namespace Go.Proofs.Ytjpdgcodjnnljaa.Msg
open Go.ChangeShapes Go.WideShapes Go.ChangeAt Go.RowKit
set_option linter.unusedVariables false
set_option linter.unusedSimpArgs false

theorem ext_all (P : ByteArray) : P.extract 0 P.size = P := by simp

set_option maxRecDepth 100000 in
set_option maxHeartbeats 4000000 in
theorem crashI_any (S N : ByteArray) (ps : List Int) (v : Value) (w : World) {lo : Nat} (hv : IntsAt lo w v ps) (hN : N.size ≤ 1048576) (hS : S.size ≤ 1048576) :
    Calls Try.prog 17 #[.agg #[.string S, .string N], v] w fun e w' => e = .returned (.agg #[.string (crash S N ps), .string (crash S N ps)]) ∧ Below w.heap.size w w' := by
  obtain ⟨i0, hi, hz0, hz1, hz2⟩ := u8_facts
  obtain ⟨x1, hx1⟩ : ∃ x1, w.alloc (Obj.cells #[.string S, .string N] 32) = x1 := ⟨_, rfl⟩
  obtain ⟨w1, hw1⟩ : ∃ w1, x1.alloc (Obj.cells #[.string ⟨#[]⟩, .string ⟨#[]⟩] 32) = w1 := ⟨_, rfl⟩
  have sx1 : x1.heap.size = w.heap.size + 1 := by rw [← hx1]; simp
  have sw1 : w1.heap.size = w.heap.size + 1 + 1 := by rw [← hw1]; simp [sx1]
  have bx1 : Below w.heap.size w x1 := by rw [← hx1]; exact (Below.refl _ _).alloc (Nat.le_refl _) _
  have bw1 : Below x1.heap.size x1 w1 := by rw [← hw1]; exact (Below.refl _ _).alloc (Nat.le_refl _) _
  have k0 : w1.cell? ⟨w.heap.size, 0, none⟩ = some (.string S) := (bw1.cell (p := ⟨w.heap.size, 0, none⟩) (by rw [sx1]; simp)).trans (by rw [← hx1]; simp)
  have k1 : w1.cell? ⟨w.heap.size, 1, none⟩ = some (.string N) := (bw1.cell (p := ⟨w.heap.size, 1, none⟩) (by rw [sx1]; simp)).trans (by rw [← hx1]; simp)
  have r0 : w1.cell? ⟨w.heap.size + 1, 0, none⟩ = some (.string ⟨#[]⟩) := by rw [← hw1, ← sx1]; simp
  have r1 : w1.cell? ⟨w.heap.size + 1, 1, none⟩ = some (.string ⟨#[]⟩) := by rw [← hw1, ← sx1]; simp
  have rf : ∀ i, w1.frozen? ⟨w.heap.size + 1, i, none⟩ = false := fun i => by rw [← hw1, ← sx1]; simp
  have HB1 := hide (bj bw1 bx1)
  have KEEP : Hid (∀ X, Below w1.heap.size w1 X → X.cell? ⟨w.heap.size, 0, none⟩ = some (.string S) ∧ X.cell? ⟨w.heap.size, 1, none⟩ = some (.string N)) := fun X h =>
    ⟨(h.cell (p := ⟨w.heap.size, 0, none⟩) (by rw [sw1]; dsimp only; omega)).trans k0, (h.cell (p := ⟨w.heap.size, 1, none⟩) (by rw [sw1]; dsimp only; omega)).trans k1⟩
  have KRES : Hid (∀ X, Below w1.heap.size w1 X → X.cell? ⟨w.heap.size + 1, 0, none⟩ = some (.string ⟨#[]⟩) ∧ X.cell? ⟨w.heap.size + 1, 1, none⟩ = some (.string ⟨#[]⟩) ∧ X.frozen? ⟨w.heap.size + 1, 0, none⟩ = false ∧ X.frozen? ⟨w.heap.size + 1, 1, none⟩ = false ∧ w.heap.size + 1 < X.heap.size) := fun X h =>
    ⟨(h.cell (p := ⟨w.heap.size + 1, 0, none⟩) (by rw [sw1]; dsimp only; omega)).trans r0, (h.cell (p := ⟨w.heap.size + 1, 1, none⟩) (by rw [sw1]; dsimp only; omega)).trans r1, (h.frozen (p := ⟨w.heap.size + 1, 0, none⟩) (by rw [sw1]; dsimp only; omega)).trans (rf 0), (h.frozen (p := ⟨w.heap.size + 1, 1, none⟩) (by rw [sw1]; dsimp only; omega)).trans (rf 1), by have := h.size; omega⟩
  have HV := hide (At.kept kept_int hv (bj bw1 bx1))
  have hl := hv.1
  obtain ⟨av, cv, hform, _⟩ := ints_form hv
  subst hform
  clear k0 k1 r0 r1 rf bx1 bw1 hv
  have HSW := hide sw1
  clear sw1
  cases hok : okD S N
  · have HX : Hid (crash S N ps = ⟨#[]⟩) := by unfold crash; rw [hok]; exact rfl
    obtain ⟨p0, p1⟩ := KEEP.out w1 (Below.refl _ _)
    go_enter Try.func17, Try.ntmps17
    go_wp2_with fail
    refine (isDisk_any S N _ hN hS).mono ?_
    rintro e W ⟨rfl, hb⟩
    rw [hok]
    obtain ⟨q0, q1, q2, q3, q4⟩ := KRES.out W hb
    have HB := hide (bj hb HB1.out)
    clear hb p0 p1
    go_wp2_with fail
    exact bodyPost_ret (v := .agg #[.string ⟨#[]⟩, .string ⟨#[]⟩]) (by simp [results, Try.results17, go_sem, q0, q1, q4]) rfl ⟨by rw [HX.out], (HB.out.setCell (by simp) _).setCell (by simp) _⟩
  · have hle := okD_le hok
    have HX : Hid (crash S N ps = ⟨(crashT S.data.toList N.data.toList ps (N.size - S.size)).toArray⟩) := by unfold crash; rw [hok]; exact rfl
    obtain ⟨p0, p1⟩ := KEEP.out w1 (Below.refl _ _)
    go_enter Try.func17, Try.ntmps17
    go_wp2_with fail
    refine (isDisk_any S N _ hN hS).mono ?_
    rintro e W ⟨rfl, hb⟩
    rw [hok]
    obtain ⟨q0, q1⟩ := KEEP.out W hb
    have hconv : Sem.run Try.prog (convert 9 22 (.string S)) W = .ok (.slice (some ⟨W.heap.size, 0, none⟩) S.size (grownCap W S.size 0 5)) (Lib.bytesWorld W 5 S) := Lib.run_convert_string_bytes W 9 22 5 S Try.underlying9 Try.underlying22 Try.underlying5
    have hbuf := BufB.of_text W S (by omega)
    have hbw := bytesWorld_below W S
    obtain ⟨W1, hW1⟩ : ∃ W1, Lib.bytesWorld W 5 S = W1 := ⟨_, rfl⟩
    rw [hW1] at hconv hbuf hbw
    have HBUF := hide hbuf
    have HBW := hide hbw
    have HBX := hide hb
    obtain ⟨s0, s1⟩ := KEEP.out W1 (bj hbw hb)
    have hws := hb.size
    have HSL : Hid (S.data.toList.length = S.size) := by show _ = _; simp
    have HNL : Hid (N.data.toList.length = N.size) := by show _ = _; simp
    clear hbuf hbw hb p0 p1 hW1
    go_wp2_with fail
    clear q0 q1 s0 s1 hconv
    go_loopg [5, 6, 7] (N.size - S.size) (fun m v5 bg i wr => ∃ b j : Nat, b ≤ N.size ∧ S.size ≤ b ∧ j ≤ b ∧ m = N.size - b ∧ i = .int .i64 (j : Int) ∧ bg = .int .i64 (b : Int) ∧ (b < N.size → b / 32 = S.size / 32 + j ∧ (b = S.size ∨ b % 32 = 0)) ∧ BufB W.heap.size wr v5 (crashT S.data.toList N.data.toList ps (b - S.size)) ∧ Below W.heap.size W wr)
    case atStart =>
      refine ⟨S.size, 0, hle, Nat.le_refl _, Nat.zero_le _, rfl, rfl, rfl, fun _ => ⟨by omega, .inl rfl⟩, ?_, HBW.out⟩
      rw [Nat.sub_self]
      exact HBUF.out
    case round =>
      obtain ⟨b, j, hbN, hSb, hjb, rfl, rfl, rfl, hgeo, hB, hbr⟩ := hrel
      obtain ⟨Wr, rfl⟩ : ∃ x, x = wr := ⟨_, rfl⟩
      obtain ⟨V5, rfl⟩ : ∃ x, x = u5 := ⟨_, rfl⟩
      obtain ⟨s0, s1⟩ := KEEP.out Wr (bj hbr HBX.out)
      have HBB := hide hB
      have HBR := hide hbr
      have hwr := hbr.size
      by_cases hlt : b < N.size
      · obtain ⟨hg1, hg2⟩ := hgeo hlt
        have hki : (b : Int) < (N.size : Int) := by omega
        have HIV := hide (At.kept kept_int HV.out (bj hbr HBX.out))
        have KR : Hid (∀ X, Below Wr.heap.size Wr X → X.cell? ⟨w.heap.size, 1, none⟩ = some (.string N) ∧ Below Wr.heap.size Wr X) := fun X h => ⟨(KEEP.out X (bj h (bj HBR.out HBX.out))).2, h⟩
        obtain ⟨e, he⟩ : ∃ e, sectEnd b N.size = e := ⟨_, rfl⟩
        have HE := hide he
        have heN : e ≤ N.size := by rw [← he]; unfold sectEnd; omega
        have hbe : b < e := by rw [← he]; unfold sectEnd; omega
        have hb32 : b - b % 32 + 32 ≤ 1048608 := by omega
        have HMIN : Hid ((if (N.size : Int) < ((b - b % 32 : Nat) : Int) + 32 then (N.size : Int) else ((b - b % 32 : Nat) : Int) + 32) = (e : Int)) := by show _ = _; rw [← he]; unfold sectEnd; split <;> omega
        clear hbr hB hgeo he
        go_upto_region 8 with fail
        go_cut [8] (fun v8 wx => v8 = .int .i64 (e : Int) ∧ Below Wr.heap.size Wr wx)
        case first =>
          obtain ⟨wd, hwd⟩ : ∃ wd, Wr.drew = wd := ⟨_, rfl⟩
          have hbd : Below Wr.heap.size Wr wd := by rw [← hwd]; exact (Below.refl _ _).drew
          have hbd0 := (Below.refl Wr.heap.size Wr).drew
          go_region_held3 (fun X => X.cell? ⟨w.heap.size, 1, none⟩ = some (.string N) ∧ Below Wr.heap.size Wr X)
            (first | with_reducible exact KR.out _ hbd0 | with_reducible exact KR.out _ hbd)
            ((go_at_call 57; refine (sectorEnd_any b _ (by omega)).mono ?_; rintro e2 w2 ⟨rfl, rfl⟩))
          have HBD := hide hbd
          clear hbd hbd0 hwd
          go_wp2_with fail
          all_goals
            go_meet
            case rel => exact ⟨by
              have hmm := HMIN.out
              first
              | (rw [if_pos (by assumption)] at hmm; rw [hmm])
              | (rw [if_neg (by assumption)] at hmm; rw [hmm])
              | (rw [if_neg (by omega)] at hmm; rw [hmm]), HBD.out⟩
        case rest =>
          obtain ⟨rfl, hbc⟩ := hcut
          obtain ⟨Wc, rfl⟩ : ∃ x, x = wc := ⟨_, rfl⟩
          have HIC := hide (At.kept kept_int HIV.out hbc)
          have s1' := (KR.out Wc hbc).1
          have hbe' : (b : Int) ≤ (e : Int) := by omega
          have heN' : (e : Int) ≤ (N.size : Int) := by omega
          have HBC := hide hbc
          have hwc := hbc.size
          have hex : (N.extract b e).size = e - b := by rw [ByteArray.size_extract]; omega
          obtain ⟨P, hP⟩ : ∃ P, N.extract b e = P := ⟨_, rfl⟩
          have HP := hide hP
          rw [hP] at hex
          clear hbc s0 s1
          go_upto_region 10 with fail
          obtain ⟨p, hp⟩ : ∃ p, ps.getD j 0 = p := ⟨_, rfl⟩
          have HPP := hide hp
          obtain ⟨m, hm⟩ : ∃ m, keepM p (e - b) = m := ⟨_, rfl⟩
          have HM := hide hm
          have hmle : m ≤ e - b := by rw [← hm]; unfold keepM; omega
          have hexi : (P.size : Int) = (e : Int) - (b : Int) := by omega
          clear hp
          go_cut [10] (fun v10 wx => v10 = .string (P.extract 0 m) ∧ wx = Wc)
          case first =>
            by_cases h1 : p < 0
            · have hm0 : m = 0 := by rw [← hm]; unfold keepM; omega
              have hnn : ¬ (P.size : Int) < 0 := by omega
              clear hm
              go_wp2_with (go_at_call 58; refine (at_any ps _ j Wc HIC.out (by omega)).mono ?_; rintro e2 W2 ⟨rfl, rfl⟩; rw [HPP.out])
              all_goals
                go_meet
                case rel => exact ⟨by rw [hm0]; simp, rfl⟩
            · by_cases h2 : (P.size : Int) < p
              · have hm0 : m = P.size := by rw [← hm]; unfold keepM; omega
                have h0p : 0 ≤ p := by omega
                clear hm
                go_wp2_with (go_at_call 58; refine (at_any ps _ j Wc HIC.out (by omega)).mono ?_; rintro e2 W2 ⟨rfl, rfl⟩; rw [HPP.out])
                all_goals
                  go_meet
                  case rel => exact ⟨by rw [hm0, ext_all, ← hex, ext_all], rfl⟩
              · obtain ⟨u, rfl⟩ := Int.eq_ofNat_of_zero_le (show 0 ≤ p by omega)
                have hm0 : m = u := by rw [← hm]; unfold keepM; omega
                have h3 : (u : Int) ≤ (P.size : Int) := by omega
                clear hm
                go_wp2_with (go_at_call 58; refine (at_any ps _ j Wc HIC.out (by omega)).mono ?_; rintro e2 W2 ⟨rfl, rfl⟩; rw [HPP.out])
                all_goals
                  go_meet
                  case rel => exact ⟨by rw [hm0], rfl⟩
          case rest =>
            obtain ⟨rfl, rfl⟩ := hcut
            have HBUFC := hide (HBB.out.below HBC.out)
            have hTl := crashT_len S.data.toList N.data.toList ps (b - S.size)
            rw [HSL.out] at hTl
            have HKD : Hid ((P.extract 0 m).data.toList = (N.data.toList.drop b).take (keepM (ps.getD j 0) (e - b))) := by
              show _ = _
              rw [HPP.out, HM.out, ← HP.out]
              simp only [ByteArray.data_extract, Array.toList_extract, List.extract_eq_take_drop]
              rw [List.drop_zero, Nat.sub_zero, List.take_take, Nat.min_eq_left hmle]
            have HCS := hide (crash_sector (S := S.data.toList) (N := N.data.toList) (ps := ps) (b := b) (j := j) (by rw [HSL.out]; exact hSb) (by rw [HNL.out]; exact hlt) (by rw [HSL.out]; exact hg1) (by rw [HSL.out]; exact hg2) (e - b) (by rw [HNL.out, HE.out]; exact Nat.le_refl _))
            have hksz : (P.extract 0 m).size ≤ 1048576 := by rw [ByteArray.size_extract]; omega
            go_wp2_with fail
            refine (putAt_any W.heap.size (crashT S.data.toList N.data.toList ps (b - S.size)) _ b (P.extract 0 m) _ HBUFC.out (by omega) (by omega) (by omega) hksz).mono ?_
            rintro e2 W3 ⟨u3, rfl, hO3, hb3⟩
            rw [HKD.out, ← HSL.out, ← HCS.out, HSL.out, show b - S.size + (e - b) = e - S.size by omega] at hO3
            have HO3 := hide hO3
            have HB3 : Hid (Below W.heap.size W W3) := (HBR.out.trans (HBC.out.mono hwr)).trans hb3
            have HGEO : Hid (e < N.size → e / 32 = S.size / 32 + (j + 1) ∧ (e = S.size ∨ e % 32 = 0)) := fun h => by
              have he := HE.out
              unfold sectEnd at he
              exact ⟨by omega, .inr (by omega)⟩
            clear hO3 hb3
            go_wp2_with fail
            go_roundg (N.size - e)
            case measure => omega
            case rel => exact ⟨e, j + 1, heN, by omega, by omega, rfl, by go_num, rfl, HGEO.out, HO3.out, HB3.out⟩
      · obtain rfl : b = N.size := by omega
        have hki : ¬ (N.size : Int) < (N.size : Int) := by omega
        obtain ⟨g5, cap5, rfl, hc5, hcm5, hstr⟩ := hB.string (n := (crashT S.data.toList N.data.toList ps (N.size - S.size)).length) (Nat.le_refl _)
        rw [List.take_length, ← HX.out] at hstr
        obtain ⟨q0, q1, q2, q3, q4⟩ := KRES.out Wr (bj hbr HBX.out)
        have HBE := hide (bj hbr (bj HBX.out HB1.out))
        clear hbr hB
        go_wp2_with fail
        exact bodyPost_ret (v := .agg #[.string (crash S N ps), .string (crash S N ps)]) (by simp [results, Try.results17, go_sem, q0, q1, q4]) rfl ⟨rfl, (HBE.out.setCell (by simp) _).setCell (by simp) _⟩
end Go.Proofs.Ytjpdgcodjnnljaa.Msg
