import Derived.Test.YtcphfhfockjljaaGreatDoorDrawMsg
import Derived.Test.YtcphfhfockjljaaGreatDoorPhasewithSpoilKitwithDrawLong
import Derived.Test.YtcphfhfockjljaaGreatDoorDrawSizewithDrawEncwithDrawGt
import Derived.Test.YtcphfhfockjljaaGreatDoorMsgOkwithParseByteswithParsePlain
namespace Go.Proofs.YtcphfhfockjljaaGreatDoor.Msg
open Go.ChangeShapes Go.WideShapes Go.ChangeAt Go.RowKit
set_option linter.unusedVariables false
set_option linter.unusedSimpArgs false

/-! texts that are drawn: only that they are small is wanted -/
def TextPost (w : World) (n : Nat) (e : Ending) (w' : World) : Prop := ∃ t : ByteArray, e = .returned (.string t) ∧ t.size ≤ n ∧ Below w.heap.size w w'
set_option maxRecDepth 100000 in
set_option maxHeartbeats 4000000 in
theorem spoilText_any (cs : List UInt8) (v : Value) (p : Nat) (s : ByteArray) (w : World) {lo : Nat} (hv : CodeAt lo w v cs) (hl : cs.length ≤ 1048576) (hp : p ≤ 4000000) (hs : s.size ≤ 500000) :
    Calls Tryz.prog 52 #[v, .int .i64 (p : Int), .string s] w (TextPost w (s.size + 1)) := by
  have HT1 := hide (take_any cs v p 6 w hv hl (by omega) (by decide))
  have HT2 := hide (take_any cs v (p + 1) (s.size + 1) w hv hl (by omega) (by omega))
  have HT3 := hide (take_any cs v (p + 1 + 1) 128 w hv hl (by omega) (by decide))
  obtain ⟨aa, cap, rfl, _⟩ := code_form hv
  have ha := tk_lt cs p 6 (by decide)
  have hat := tk_lt cs (p + 1) (s.size + 1) (by omega)
  have hx := tk_lt cs (p + 1 + 1) 128 (by decide)
  have eN : ((s.size + 1 : Nat) : Int) = (s.size : Int) + 1 := by omega
  rw [eN] at HT2
  obtain ⟨A, hAe⟩ : ∃ A, tk cs p 6 = A := ⟨_, rfl⟩
  obtain ⟨AT, hATe⟩ : ∃ A, tk cs (p + 1) (s.size + 1) = A := ⟨_, rfl⟩
  obtain ⟨X, hXe⟩ : ∃ A, tk cs (p + 1 + 1) 128 = A := ⟨_, rfl⟩
  rw [hAe] at HT1 ha
  rw [hATe] at HT2 hat
  rw [hXe] at HT3 hx
  obtain ⟨p1, hp1⟩ : ∃ q, p + 1 = q := ⟨_, rfl⟩
  rw [hp1] at HT1 HT2 HT3
  obtain ⟨p2, hp2⟩ : ∃ q, p1 + 1 = q := ⟨_, rfl⟩
  rw [hp2] at HT2 HT3
  obtain ⟨p3, hp3⟩ : ∃ q, p2 + 1 = q := ⟨_, rfl⟩
  rw [hp3] at HT3
  clear hAe hATe hXe hv eN hp1 hp2 hp3
  have HB0 : Hid (Below w.heap.size w w) := Below.refl _ _
  have HQ := hide (fun W => Frame.byte_any (X : Int) W (by omega) (by omega))
  have eX : (X : Int).toNat = X := by omega
  rw [eX] at HQ
  obtain ⟨ch, hch⟩ : ∃ c, UInt8.ofNat X = c := ⟨_, rfl⟩
  rw [hch] at HQ
  clear hch eX
  have hat' : AT ≤ s.size := by omega
  have z1 : (s.extract 0 AT).size = AT := by rw [ByteArray.size_extract]; omega
  have z2 : (s.extract (AT + 1) s.size).size = s.size - (AT + 1) := by rw [ByteArray.size_extract]; omega
  have z3 : (s.extract AT s.size).size = s.size - AT := by rw [ByteArray.size_extract]; omega
  have zc : ∀ c : UInt8, (⟨#[c]⟩ : ByteArray).size = 1 := fun _ => rfl
  have m0 : (0 : Int) ≤ (AT : Int) := by omega
  have m1 : (AT : Int) ≤ (s.size : Int) := by omega
  have w1 : IntKind.i64.wrap ((AT : Int) + 1) = (AT : Int) + 1 := by rw [IntKind.wrap_i64]; omega
  have w2 : IntKind.i64.wrap ((s.size : Int) + 1) = (s.size : Int) + 1 := by rw [IntKind.wrap_i64]; omega
  have m3 : ((AT : Int) + 1).toNat = AT + 1 := by omega
  have m4 : (0 : Int) ≤ (AT : Int) + 1 := by omega
  obtain ⟨s1, hs1⟩ : ∃ t, s.extract 0 AT = t := ⟨_, rfl⟩
  obtain ⟨s2, hs2⟩ : ∃ t, s.extract (AT + 1) s.size = t := ⟨_, rfl⟩
  obtain ⟨s3, hs3⟩ : ∃ t, s.extract AT s.size = t := ⟨_, rfl⟩
  rw [hs1] at z1
  rw [hs2] at z2
  rw [hs3] at z3
  have HZ1 := hide z1
  have HZ2 := hide z2
  have HZ3 := hide z3
  have HZC := hide zc
  have n1 : ¬ 9223372036854775807 < s1.size + s2.size := by omega
  have n2 : ¬ 9223372036854775807 < s1.size + 1 := by omega
  have n3 : ¬ 9223372036854775807 < s1.size + 1 + s2.size := by omega
  have n4 : ¬ 9223372036854775807 < s1.size + 1 + s3.size := by omega
  clear z1 z2 z3 zc
  go_enter Tryz.func52, Tryz.ntmps52
  go_wp2_with fail
  refine HT1.out.mono ?_
  rintro e y ⟨rfl, hy⟩
  (try rw [hy])
  clear hy y
  go_wp2_with fail
  refine HT2.out.mono ?_
  rintro e y ⟨rfl, hy⟩
  (try rw [hy])
  clear hy y
  go_wp2_with fail
  refine HT3.out.mono ?_
  rintro e y ⟨rfl, hy⟩
  (try rw [hy])
  clear hy y
  by_cases hlt : (AT : Int) < (s.size : Int)
  · have m5 : (AT : Int) + 1 ≤ (s.size : Int) := by omega
    by_cases h0 : (A : Int) = 0
    · have h0b : ((A : Int) == 0) = true := by simpa using h0
      go_upto_region 6 with fail
      go_region_held3 (fun X : World => True) (exact trivial) (fail)
      all_goals
        go_wp2_with fail
        go_ret
        exact ⟨_, rfl, by rw [ByteArray.size_append, HZ1.out, HZ2.out]; omega, HB0.out.drew⟩
    · have h0b : ((A : Int) == 0) = false := by simpa using h0
      by_cases h4 : (A : Int) < 4
      · go_upto_region 8 with fail
        go_region_held3 (fun X : World => True) (exact trivial)
          (first | (go_at_call 59; refine (HQ.out _).mono ?_; rintro e w2 ⟨rfl, hb2⟩))
        all_goals
          go_wp2_with fail
          go_ret
          exact ⟨_, rfl, by rw [ByteArray.size_append, ByteArray.size_append, HZ1.out, HZ2.out, HZC.out]; omega, bjoinD hb2⟩
      · by_cases h5 : (A : Int) = 4
        · have h5b : ((A : Int) == 4) = true := by simpa using h5
          go_upto_region 10 with fail
          go_region_held3 (fun X : World => True) (exact trivial)
            (first | (go_at_call 59; refine (HQ.out _).mono ?_; rintro e w2 ⟨rfl, hb2⟩))
          all_goals
            go_wp2_with fail
            go_ret
            exact ⟨_, rfl, by rw [ByteArray.size_append, ByteArray.size_append, HZ1.out, HZ3.out, HZC.out]; omega, bjoinD hb2⟩
        · have h5b : ((A : Int) == 4) = false := by simpa using h5
          go_wp2_with fail
          go_ret
          exact ⟨_, rfl, by rw [HZ1.out]; omega, HB0.out⟩
  · by_cases h5 : (A : Int) = 4
    · have h5b : ((A : Int) == 4) = true := by simpa using h5
      have n40 : ¬ (A : Int) < 4 := by omega
      have n00 : ((A : Int) == 0) = false := by simp; omega
      go_upto_region 10 with fail
      go_region_held3 (fun X : World => True) (exact trivial)
        (first | (go_at_call 59; refine (HQ.out _).mono ?_; rintro e w2 ⟨rfl, hb2⟩))
      all_goals
        go_wp2_with fail
        go_ret
        exact ⟨_, rfl, by rw [ByteArray.size_append, ByteArray.size_append, HZ1.out, HZ3.out, HZC.out]; omega, bjoinD hb2⟩
    · have h5b : ((A : Int) == 4) = false := by simpa using h5
      go_wp2_with fail
      all_goals
        go_ret
        exact ⟨_, rfl, by rw [HZ1.out]; omega, HB0.out⟩
end Go.Proofs.YtcphfhfockjljaaGreatDoor.Msg

namespace Go.Proofs.YtcphfhfockjljaaGreatDoor.Msg
open Go.ChangeShapes Go.WideShapes Go.ChangeAt Go.RowKit
set_option linter.unusedVariables false
set_option linter.unusedSimpArgs false

/-! l2Bulk -/
theorem longU (b : ByteArray) (hb1 : 1 ≤ b.size) (hb2 : b.size ≤ 100) (n : Nat) (hn : n ≤ 100000) (w : World) : Calls Tryz.prog 50 #[.int .i64 (n : Int), .string b] w fun e w' => (∃ t : ByteArray, e = .returned (.string t) ∧ t.size ≤ n + b.size) ∧ Below w.heap.size w w' := by
  refine (long_any b hb1 hb2 n hn w).mono ?_
  rintro e w' ⟨rfl, hw⟩
  refine ⟨⟨_, rfl, longS_sz _ _ _⟩, ?_⟩
  first | exact hw | (rw [hw]; exact Below.refl _ _)
set_option maxRecDepth 100000 in
set_option maxHeartbeats 4000000 in
theorem bulk_any (x : Nat) (w : World) (hx : x < 12) : Calls Tryz.prog 24 #[.int .i64 (x : Int)] w (TextPost w 100100) := by
  have k8 : (⟨#[77, 83, 72, 124, 94, 126, 92, 38]⟩ : ByteArray).size = 8 := rfl
  have h8 := hide k8
  clear k8
  have hcase : x = 0 ∨ x = 1 ∨ x = 2 ∨ x = 3 ∨ x = 4 ∨ x = 5 ∨ x = 6 ∨ x = 7 ∨ x = 8 ∨ x = 9 ∨ x = 10 ∨ x = 11 := by omega
  rcases hcase with rfl | rfl | rfl | rfl | rfl | rfl | rfl | rfl | rfl | rfl | rfl | rfl
  · have HL := hide (longU ⟨#[124]⟩ (by decide) (by decide) 39992 (by decide) w)
    go_enter Tryz.func24, Tryz.ntmps24
    go_wp2_with fail
    refine HL.out.mono ?_
    rintro e w1 ⟨⟨t, rfl, ht⟩, hb⟩
    have ht2 : t.size ≤ 100050 := Nat.le_trans ht (by decide)
    have hn1 : ¬ 9223372036854775807 < 8 + t.size := by omega
    have hn2 : ¬ 9223372036854775807 < 8 + 1 + t.size := by omega
    have hn3 : ¬ 9223372036854775807 < 9 + t.size := by omega
    go_wp2_with fail
    go_ret
    exact ⟨_, rfl, by (first | (rw [ByteArray.size_append, ByteArray.size_append] ; show 8 + 1 + _ ≤ _; omega) | (rw [ByteArray.size_append]; show 8 + _ ≤ _; omega)), hb⟩
  · have HL := hide (longU ⟨#[124]⟩ (by decide) (by decide) 39993 (by decide) w)
    go_enter Tryz.func24, Tryz.ntmps24
    go_wp2_with fail
    refine HL.out.mono ?_
    rintro e w1 ⟨⟨t, rfl, ht⟩, hb⟩
    have ht2 : t.size ≤ 100050 := Nat.le_trans ht (by decide)
    have hn1 : ¬ 9223372036854775807 < 8 + t.size := by omega
    have hn2 : ¬ 9223372036854775807 < 8 + 1 + t.size := by omega
    have hn3 : ¬ 9223372036854775807 < 9 + t.size := by omega
    go_wp2_with fail
    go_ret
    exact ⟨_, rfl, by (first | (rw [ByteArray.size_append, ByteArray.size_append] ; show 8 + 1 + _ ≤ _; omega) | (rw [ByteArray.size_append]; show 8 + _ ≤ _; omega)), hb⟩
  · have HL := hide (longU ⟨#[97, 126]⟩ (by decide) (by decide) 59 (by decide) w)
    go_enter Tryz.func24, Tryz.ntmps24
    go_wp2_with fail
    refine HL.out.mono ?_
    rintro e w1 ⟨⟨t, rfl, ht⟩, hb⟩
    have ht2 : t.size ≤ 100050 := Nat.le_trans ht (by decide)
    have hn1 : ¬ 9223372036854775807 < 8 + t.size := by omega
    have hn2 : ¬ 9223372036854775807 < 8 + 1 + t.size := by omega
    have hn3 : ¬ 9223372036854775807 < 9 + t.size := by omega
    go_wp2_with fail
    go_ret
    exact ⟨_, rfl, by (first | (rw [ByteArray.size_append, ByteArray.size_append] ; show 8 + 1 + _ ≤ _; omega) | (rw [ByteArray.size_append]; show 8 + _ ≤ _; omega)), hb⟩
  · have HL := hide (longU ⟨#[97, 126]⟩ (by decide) (by decide) 61 (by decide) w)
    go_enter Tryz.func24, Tryz.ntmps24
    go_wp2_with fail
    refine HL.out.mono ?_
    rintro e w1 ⟨⟨t, rfl, ht⟩, hb⟩
    have ht2 : t.size ≤ 100050 := Nat.le_trans ht (by decide)
    have hn1 : ¬ 9223372036854775807 < 8 + t.size := by omega
    have hn2 : ¬ 9223372036854775807 < 8 + 1 + t.size := by omega
    have hn3 : ¬ 9223372036854775807 < 9 + t.size := by omega
    go_wp2_with fail
    go_ret
    exact ⟨_, rfl, by (first | (rw [ByteArray.size_append, ByteArray.size_append] ; show 8 + 1 + _ ≤ _; omega) | (rw [ByteArray.size_append]; show 8 + _ ≤ _; omega)), hb⟩
  · have HL := hide (longU ⟨#[97, 94]⟩ (by decide) (by decide) 39 (by decide) w)
    go_enter Tryz.func24, Tryz.ntmps24
    go_wp2_with fail
    refine HL.out.mono ?_
    rintro e w1 ⟨⟨t, rfl, ht⟩, hb⟩
    have ht2 : t.size ≤ 100050 := Nat.le_trans ht (by decide)
    have hn1 : ¬ 9223372036854775807 < 8 + t.size := by omega
    have hn2 : ¬ 9223372036854775807 < 8 + 1 + t.size := by omega
    have hn3 : ¬ 9223372036854775807 < 9 + t.size := by omega
    go_wp2_with fail
    go_ret
    exact ⟨_, rfl, by (first | (rw [ByteArray.size_append, ByteArray.size_append] ; show 8 + 1 + _ ≤ _; omega) | (rw [ByteArray.size_append]; show 8 + _ ≤ _; omega)), hb⟩
  · have HL := hide (longU ⟨#[97, 94]⟩ (by decide) (by decide) 41 (by decide) w)
    go_enter Tryz.func24, Tryz.ntmps24
    go_wp2_with fail
    refine HL.out.mono ?_
    rintro e w1 ⟨⟨t, rfl, ht⟩, hb⟩
    have ht2 : t.size ≤ 100050 := Nat.le_trans ht (by decide)
    have hn1 : ¬ 9223372036854775807 < 8 + t.size := by omega
    have hn2 : ¬ 9223372036854775807 < 8 + 1 + t.size := by omega
    have hn3 : ¬ 9223372036854775807 < 9 + t.size := by omega
    go_wp2_with fail
    go_ret
    exact ⟨_, rfl, by (first | (rw [ByteArray.size_append, ByteArray.size_append] ; show 8 + 1 + _ ≤ _; omega) | (rw [ByteArray.size_append]; show 8 + _ ≤ _; omega)), hb⟩
  · have HL := hide (longU ⟨#[124, 97]⟩ (by decide) (by decide) 60 (by decide) w)
    go_enter Tryz.func24, Tryz.ntmps24
    go_wp2_with fail
    refine HL.out.mono ?_
    rintro e w1 ⟨⟨t, rfl, ht⟩, hb⟩
    have ht2 : t.size ≤ 100050 := Nat.le_trans ht (by decide)
    have hn1 : ¬ 9223372036854775807 < 8 + t.size := by omega
    have hn2 : ¬ 9223372036854775807 < 8 + 1 + t.size := by omega
    have hn3 : ¬ 9223372036854775807 < 9 + t.size := by omega
    go_wp2_with fail
    go_ret
    exact ⟨_, rfl, by (first | (rw [ByteArray.size_append, ByteArray.size_append] ; show 8 + 1 + _ ≤ _; omega) | (rw [ByteArray.size_append]; show 8 + _ ≤ _; omega)), hb⟩
  · have HL := hide (longU ⟨#[124, 97]⟩ (by decide) (by decide) 62 (by decide) w)
    go_enter Tryz.func24, Tryz.ntmps24
    go_wp2_with fail
    refine HL.out.mono ?_
    rintro e w1 ⟨⟨t, rfl, ht⟩, hb⟩
    have ht2 : t.size ≤ 100050 := Nat.le_trans ht (by decide)
    have hn1 : ¬ 9223372036854775807 < 8 + t.size := by omega
    have hn2 : ¬ 9223372036854775807 < 8 + 1 + t.size := by omega
    have hn3 : ¬ 9223372036854775807 < 9 + t.size := by omega
    go_wp2_with fail
    go_ret
    exact ⟨_, rfl, by (first | (rw [ByteArray.size_append, ByteArray.size_append] ; show 8 + 1 + _ ≤ _; omega) | (rw [ByteArray.size_append]; show 8 + _ ≤ _; omega)), hb⟩
  · have HL := hide (longU ⟨#[13, 90, 90, 49]⟩ (by decide) (by decide) 996 (by decide) w)
    go_enter Tryz.func24, Tryz.ntmps24
    go_wp2_with fail
    refine HL.out.mono ?_
    rintro e w1 ⟨⟨t, rfl, ht⟩, hb⟩
    have ht2 : t.size ≤ 100050 := Nat.le_trans ht (by decide)
    have hn1 : ¬ 9223372036854775807 < 8 + t.size := by omega
    have hn2 : ¬ 9223372036854775807 < 8 + 1 + t.size := by omega
    have hn3 : ¬ 9223372036854775807 < 9 + t.size := by omega
    go_wp2_with fail
    go_ret
    exact ⟨_, rfl, by (first | (rw [ByteArray.size_append, ByteArray.size_append] ; show 8 + 1 + _ ≤ _; omega) | (rw [ByteArray.size_append]; show 8 + _ ≤ _; omega)), hb⟩
  · have HL := hide (longU ⟨#[13, 90, 90, 49]⟩ (by decide) (by decide) 1000 (by decide) w)
    go_enter Tryz.func24, Tryz.ntmps24
    go_wp2_with fail
    refine HL.out.mono ?_
    rintro e w1 ⟨⟨t, rfl, ht⟩, hb⟩
    have ht2 : t.size ≤ 100050 := Nat.le_trans ht (by decide)
    have hn1 : ¬ 9223372036854775807 < 8 + t.size := by omega
    have hn2 : ¬ 9223372036854775807 < 8 + 1 + t.size := by omega
    have hn3 : ¬ 9223372036854775807 < 9 + t.size := by omega
    go_wp2_with fail
    go_ret
    exact ⟨_, rfl, by (first | (rw [ByteArray.size_append, ByteArray.size_append] ; show 8 + 1 + _ ≤ _; omega) | (rw [ByteArray.size_append]; show 8 + _ ≤ _; omega)), hb⟩
  · have HL := hide (longU ⟨#[13, 90, 90, 49]⟩ (by decide) (by decide) 996 (by decide) w)
    go_enter Tryz.func24, Tryz.ntmps24
    go_wp2_with fail
    refine HL.out.mono ?_
    rintro e w1 ⟨⟨t, rfl, ht⟩, hb⟩
    have ht2 : t.size ≤ 100050 := Nat.le_trans ht (by decide)
    have hn1 : ¬ 9223372036854775807 < 8 + t.size := by omega
    have hn2 : ¬ 9223372036854775807 < 8 + 1 + t.size := by omega
    have hn3 : ¬ 9223372036854775807 < 9 + t.size := by omega
    go_wp2_with fail
    go_ret
    exact ⟨_, rfl, by (first | (rw [ByteArray.size_append, ByteArray.size_append] ; show 8 + 1 + _ ≤ _; omega) | (rw [ByteArray.size_append]; show 8 + _ ≤ _; omega)), hb⟩
  · have HL := hide (longU ⟨#[13, 90, 90, 49]⟩ (by decide) (by decide) 1000 (by decide) w)
    go_enter Tryz.func24, Tryz.ntmps24
    go_wp2_with fail
    refine HL.out.mono ?_
    rintro e w1 ⟨⟨t, rfl, ht⟩, hb⟩
    have ht2 : t.size ≤ 100050 := Nat.le_trans ht (by decide)
    have hn1 : ¬ 9223372036854775807 < 8 + t.size := by omega
    have hn2 : ¬ 9223372036854775807 < 8 + 1 + t.size := by omega
    have hn3 : ¬ 9223372036854775807 < 9 + t.size := by omega
    go_wp2_with fail
    go_ret
    exact ⟨_, rfl, by (first | (rw [ByteArray.size_append, ByteArray.size_append] ; show 8 + 1 + _ ≤ _; omega) | (rw [ByteArray.size_append]; show 8 + _ ≤ _; omega)), hb⟩
end Go.Proofs.YtcphfhfockjljaaGreatDoor.Msg

namespace Go.Proofs.YtcphfhfockjljaaGreatDoor.Msg
open Go.ChangeShapes Go.WideShapes Go.ChangeAt Go.RowKit
set_option linter.unusedVariables false
set_option linter.unusedSimpArgs false

set_option maxHeartbeats 1000000 in
theorem repOk_any (x : Rep) (v : Value) (w : World) {lo : Nat} (hv : StrsAt lo w v x) :
    Calls Tryz.prog 94 #[.agg #[v]] w fun e w' => e = .returned (.bool (repB x)) ∧ Below w.heap.size w w' := by
  have hl := hv.1
  have hb := (Below.refl w.heap.size w).alloc (Nat.le_refl _) (Obj.cells #[v] 51)
  obtain ⟨a, cap, rfl, hc⟩ := (At.kept kept_str hv hb).form
  have HC := hide hc
  clear hc hv
  have HR : Hid (repB x = (decide (x.length ≤ 20) && (endB ByteArray.size x && x.all plainB))) := rfl
  by_cases h20 : (20 : Int) < (x.length : Int)
  · go_enter Tryz.func94, Tryz.ntmps94
    go_wp2_with fail
    go_ret
    exact ⟨ret_bool (by rw [HR.out, decide_eq_false (by omega)]; rfl), hb⟩
  · have HLoop : Hid (endB ByteArray.size x = true → repB x = x.all plainB) := fun he => by rw [HR.out, he, decide_eq_true (by omega)]; rfl
    by_cases h0 : x.length = 0
    · have hz : ¬ (0 : Int) < (x.length : Int) := by omega
      have HE := hide (endB_nil ByteArray.size x h0)
      have hx : x = [] := List.length_eq_zero_iff.1 h0
      have HX : Hid (repB x = true) := by rw [HLoop.out HE.out, hx]; rfl
      clear hx h0
      go_enter Tryz.func94, Tryz.ntmps94
      go_wp2_with fail
      go_loop [4] (fun i => i = .int .i64 0) (fun _ => 0)
      case atStart => rfl
      case round =>
        subst hrel
        go_wp2_with fail
        go_ret
        exact ⟨ret_bool HX.out.symm, hb⟩
    · have hz : (0 : Int) < (x.length : Int) := by omega
      have hi : x.length - 1 < x.length := by omega
      obtain ⟨b, off, rfl, _, hbl, hr⟩ := HC.out (x.length - 1) hi
      have hlast : (w.alloc (Obj.cells #[.slice (some ⟨b, off, none⟩) x.length cap] 51)).cell? ⟨b, off + (x.length - 1), none⟩ = some (.string (x[x.length - 1]'hi)) := by simpa using hr.1
      have hsz : (x[x.length - 1]'hi).size ≤ 9223372036854775807 := hr.2
      have HE : Hid (endB ByteArray.size x = decide (0 < (x[x.length - 1]'hi).size)) := endB_at ByteArray.size x (by omega)
      clear hr
      generalize x[x.length - 1]'hi = z at *
      have hn1 : ((x.length : Int) - 1).toNat = x.length - 1 := by omega
      by_cases hl0 : z.size = 0
      · have hl' : ((z.size : Int) == 0) = true := by rw [beq_iff_eq]; omega
        have HX : Hid (repB x = false) := by rw [HR.out, HE.out, decide_eq_false (p := 0 < z.size) (by omega), Bool.false_and, Bool.and_false]; trivial
        clear hl0
        go_enter Tryz.func94, Tryz.ntmps94
        go_wp2_with fail
        go_ret
        exact ⟨ret_bool HX.out.symm, hb⟩
      · have hl' : ((z.size : Int) == 0) = false := by rw [beq_eq_false_iff_ne]; omega
        have HX : Hid (repB x = x.all plainB) := HLoop.out (by rw [HE.out]; exact decide_eq_true (by omega))
        clear hl0
        go_enter Tryz.func94, Tryz.ntmps94
        go_wp2_with fail
        clear hl' hlast hsz hn1
        go_loop [4] (fun i => ∃ k : Nat, k ≤ x.length ∧ i = .int .i64 k ∧ (x.take k).all plainB = true) (fun i => x.length - (intOf i).toNat)
        case atStart => exact ⟨0, Nat.zero_le _, rfl, rfl⟩
        case round =>
          obtain ⟨k, hk, rfl, hall⟩ := hrel
          have HA := hide hall
          clear hall
          by_cases hlt : k < x.length
          · obtain ⟨b', off', e, _, _, hr⟩ := HC.out k hlt
            simp only [Option.some.injEq, Addr.mk.injEq, and_true] at e
            obtain ⟨rfl, rfl⟩ := e
            have hcell : (w.alloc (Obj.cells #[.slice (some ⟨b, off, none⟩) x.length cap] 51)).cell? ⟨b, off + k, none⟩ = some (.string x[k]) := by simpa using hr.1
            have hsz := hr.2
            clear hr
            go_wp2_with fail
            refine (plain_any x[k] _ hsz).mono ?_
            rintro e w' ⟨rfl, rfl⟩
            cases hp : plainB x[k]
            · have HF := hide (all_fail hlt hp)
              clear hp
              go_wp2_with fail
              go_ret
              exact ⟨ret_bool (by rw [HX.out, HF.out]), hb⟩
            · have HF := hide (all_step hlt HA.out hp)
              clear hp
              go_wp2_with fail
              go_round
              case rel => exact ⟨k + 1, by omega, by go_num, HF.out⟩
              case measure => simp [intOf]; omega
          · have HF := hide (all_done (by omega) HA.out)
            go_wp2_with fail
            go_ret
            exact ⟨ret_bool (by rw [HX.out, HF.out]), hb⟩
end Go.Proofs.YtcphfhfockjljaaGreatDoor.Msg
