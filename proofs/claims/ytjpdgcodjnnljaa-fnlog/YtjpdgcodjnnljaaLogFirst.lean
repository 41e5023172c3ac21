import Derived.Test.YtjpdgcodjnnljaaLogBld
import Derived.Test.YtjpdgcodjnnljaaMsgEq
import Derived.Test.YtjpdgcodjnnljaaMarkText
import Derived.BigQuiet
import Derived.Deep.RegionHeld3
namespace Go.Proofs.Ytjpdgcodjnnljaa.Msg
open Go.ChangeShapes Go.WideShapes Go.ChangeAt Go.RowKit Go.Shelf
set_option linter.unusedVariables false
set_option linter.unusedSimpArgs false

theorem w64 (n : Int) (h1 : -9223372036854775808 ≤ n) (h2 : n ≤ 9223372036854775807) : wrap64 n = n := by unfold wrap64; omega
theorem bits_or_i64 (a b : Nat) (ha : a < 1099511627776) (hb : b < 1099511627776) : bits .or .i64 (a : Int) (b : Int) = ((a ||| b : Nat) : Int) := by
  have hx : a ||| b < 2 ^ 40 := Nat.or_lt_two_pow (by omega) (by omega)
  have h1 : (BitVec.ofInt 64 (a : Int)).toNat = a := by
    rw [BitVec.ofInt_natCast, BitVec.toNat_ofNat]; exact Nat.mod_eq_of_lt (by omega)
  have h2 : (BitVec.ofInt 64 (b : Int)).toNat = b := by
    rw [BitVec.ofInt_natCast, BitVec.toNat_ofNat]; exact Nat.mod_eq_of_lt (by omega)
  show IntKind.i64.wrap ((BitVec.ofInt 64 (a : Int) ||| BitVec.ofInt 64 (b : Int)).toNat : Int) = _
  rw [BitVec.toNat_or, h1, h2, IntKind.wrap_i64]
  omega
theorem or_sum (k a b : Nat) (ha : a < 2 ^ k) : a ||| 2 ^ k * b = a + 2 ^ k * b := by
  rw [Nat.or_comm, ← Nat.two_pow_add_eq_or_of_lt ha, Nat.add_comm]
theorem or_three (a b c : Nat) (ha : a < 256) (hb : b < 256) (hc : c < 256) :
    bits .or .i64 (bits .or .i64 (wrap64 (a : Int)) (wrap64 (wrap64 (b : Int) * 256))) (wrap64 (wrap64 (c : Int) * 65536)) = ((a + b * 256 + c * 65536 : Nat) : Int) := by
  have e1 : wrap64 (a : Int) = (a : Int) := w64 _ (by omega) (by omega)
  have e2 : wrap64 (b : Int) = (b : Int) := w64 _ (by omega) (by omega)
  have e3 : wrap64 (c : Int) = (c : Int) := w64 _ (by omega) (by omega)
  have e4 : wrap64 ((b : Int) * 256) = ((2 ^ 8 * b : Nat) : Int) := by rw [w64 _ (by omega) (by omega)]; omega
  have e5 : wrap64 ((c : Int) * 65536) = ((2 ^ 16 * c : Nat) : Int) := by rw [w64 _ (by omega) (by omega)]; omega
  rw [e1, e2, e3, e4, e5, bits_or_i64 _ _ (by omega) (by omega), or_sum 8 a b (by omega), bits_or_i64 _ _ (by omega) (by omega), or_sum 16 _ c (by omega)]
  omega
theorem getD_byte (s : ByteArray) (i : Nat) (h : i < s.size) : s.data.toList.getD i 0 = s[i] := byteD s i h

set_option maxRecDepth 100000 in
set_option maxHeartbeats 1000000 in
theorem sizeOf_any (s : ByteArray) (w : World) (h : 32 ≤ s.size) (hs : s.size ≤ 1048576) :
    Calls Try.prog 116 #[.string s] w fun e w' => e = .returned (.int .i64 ((sizeL s.data.toList : Nat) : Int)) ∧ Below w.heap.size w w' := by
  have h0 : 0 < s.size := by omega
  have h1 : (1 : Int) < (s.size : Int) := by omega
  have h2 : (2 : Int) < (s.size : Int) := by omega
  go_enter Try.func116, Try.ntmps116
  go_wp2_with fail
  go_quiet (fail)
  go_wp2_with fail
  go_ret
  have e : ((sizeL s.data.toList : Nat) : Int) = bits .or .i64 (bits .or .i64 (wrap64 ((s[0]'(by omega)).toNat : Int)) (wrap64 (wrap64 ((s[1]'(by omega)).toNat : Int) * 256))) (wrap64 (wrap64 ((s[2]'(by omega)).toNat : Int) * 65536)) := by
    rw [or_three _ _ _ (UInt8.toNat_lt _) (UInt8.toNat_lt _) (UInt8.toNat_lt _)]
    unfold sizeL
    rw [getD_byte s 0 (by omega), getD_byte s 1 (by omega), getD_byte s 2 (by omega)]
  rw [e]
  exact ⟨rfl, below_drewN (Below.refl _ _) nq⟩

def firstV (I : ByteArray) : Value := match firstB I with
  | some p => .tuple #[.string p.1, .int .i64 (p.2 : Int)]
  | none => .tuple #[.string ⟨#[]⟩, .int .i64 0]

set_option maxRecDepth 100000 in
set_option maxHeartbeats 2000000 in
theorem firstRecord_any (I : ByteArray) (w : World) (hI : I.size ≤ 1048576) :
    Calls Try.prog 93 #[.string I] w fun e w' => e = .returned (firstV I) ∧ Below w.heap.size w w' := by
  by_cases h32 : (I.size : Int) < 32
  · have HX : Hid (firstV I = .tuple #[.string ⟨#[]⟩, .int .i64 0]) := by unfold firstV firstB; rw [if_pos (by omega)]; exact rfl
    go_enter Try.func93, Try.ntmps93
    go_wp2_with fail
    go_ret2
    exact ⟨by rw [HX.out]; rfl, Below.refl _ _⟩
  · obtain ⟨n, hn⟩ : ∃ n, sizeL I.data.toList = n := ⟨_, rfl⟩
    have hn6 : n ≤ 16777215 := by rw [← hn]; exact sizeL_le _
    obtain ⟨k, hk⟩ : ∃ k, 32 * sectN n = k := ⟨_, rfl⟩
    have hk6 : k ≤ 19200000 := by rw [← hk]; unfold sectN; omega
    have HSO := hide (fun W => sizeOf_any I W (by omega) hI)
    have HRS := hide (fun W => recordSize_any n W (by omega))
    rw [hn] at HSO
    rw [hk] at HRS
    by_cases hbig : (I.size : Int) < (k : Int)
    · have HX : Hid (firstV I = .tuple #[.string ⟨#[]⟩, .int .i64 0]) := by unfold firstV firstB; rw [if_neg (by omega), if_pos (by rw [hn, hk]; omega)]; exact rfl
      clear hn hk
      go_enter Try.func93, Try.ntmps93
      go_wp2_with fail
      refine (HSO.out _).mono ?_
      rintro e W1 ⟨rfl, hb1⟩
      go_wp2_with fail
      refine (HRS.out _).mono ?_
      rintro e W2 ⟨rfl, rfl⟩
      go_wp2_with fail
      go_ret2
      exact ⟨by rw [HX.out]; rfl, hb1⟩
    · have hkI : k ≤ I.size := by omega
      have hkI2 : (k : Int) ≤ (I.size : Int) := by omega
      have hP : (I.extract 0 k).size = k := by rw [ByteArray.size_extract]; omega
      have HUM := hide (fun W => unmark_any (I.extract 0 k) (sectN n) W (by rw [hP, hk]) (by unfold sectN; omega))
      have hpl : unmC (I.extract 0 k).data.toList (sectN n) = unmC I.data.toList (sectN n) := by
        have : ∀ j, 32 * j ≤ k → unmC (I.extract 0 k).data.toList j = unmC I.data.toList j := by
          intro j
          induction j with
          | zero => intro _; rfl
          | succ j ih =>
            intro hj
            unfold unmC
            rw [ih (by omega)]
            congr 1
            simp only [ByteArray.data_extract, Array.toList_extract, List.extract_eq_take_drop, List.drop_zero, Nat.sub_zero]
            rw [List.drop_take, List.take_take, Nat.min_eq_left (by omega)]
        exact this _ (by omega)
      rw [hpl] at HUM
      obtain ⟨U, hU⟩ : ∃ U : ByteArray, (⟨(unmC I.data.toList (sectN n)).toArray⟩ : ByteArray) = U := ⟨_, rfl⟩
      have hUs : U.size = 31 * sectN n := by
        rw [← hU]
        show (unmC I.data.toList (sectN n)).toArray.size = _
        rw [List.size_toArray, unmC_length _ _ (by simp; omega)]
      have hUn : 3 + n ≤ U.size := by rw [hUs]; unfold sectN; omega
      have hUn2 : 3 + (n : Int) ≤ (U.size : Int) := by omega
      have hT : U.extract 3 (3 + n) = recText I := by
        apply bytes_ext
        rw [← hU]
        simp only [recText, textL, ByteArray.data_extract, Array.toList_extract, List.extract_eq_take_drop, hn]
        rw [show 3 + n - 3 = n by omega]
      rw [hU] at HUM
      obtain ⟨T, hTT⟩ : ∃ T, recText I = T := ⟨_, rfl⟩
      rw [hTT] at hT
      have hTs : T.size = n := by rw [← hTT, recText_size I (by rw [hn, hk]; omega), hn]
      have HRC := hide (fun W => record_any T W (by rw [hTs]; have := hUs; unfold sectN at this hk; omega))
      obtain ⟨P, hPP⟩ : ∃ P, I.extract 0 k = P := ⟨_, rfl⟩
      rw [hPP] at HUM
      have HV : Hid (firstV I = if ((recB T).toList == P.toList) then .tuple #[.string T, .int .i64 (k : Int)] else .tuple #[.string ⟨#[]⟩, .int .i64 0]) := by
        unfold firstV firstB
        rw [if_neg (by omega), if_neg (by rw [hn, hk]; omega), hn, hk, hTT, hPP]
        show _ = _
        cases ((recB T).toList == P.toList) <;> rfl
      obtain ⟨R, hR⟩ : ∃ R, recB T = R := ⟨_, rfl⟩
      rw [hR] at HV HRC
      obtain ⟨p, hp⟩ : ∃ p, 3 + n = p := ⟨_, rfl⟩
      rw [hp] at hT
      have hp1 : (3 : Int) + (n : Int) = (p : Int) := by omega
      have hp2 : (3 : Int) ≤ (p : Int) := by omega
      have hp3 : (p : Int) ≤ (U.size : Int) := by omega
      clear hp hUn2 hUn hn hk hpl hU hUs hR hTs hTT hP
      go_enter Try.func93, Try.ntmps93
      go_wp2_with fail
      refine (HSO.out _).mono ?_
      rintro e W1 ⟨rfl, hb1⟩
      go_wp2_with fail
      refine (HRS.out _).mono ?_
      rintro e W2 ⟨rfl, rfl⟩
      go_wp2_with fail
      refine (HUM.out _).mono ?_
      rintro e W3 ⟨rfl, hb3⟩
      have HB3 := hide (bj hb3 hb1)
      have hbr := Below.refl W3.heap.size W3
      have KB : Hid (∀ X, Below W3.heap.size W3 X → Below w.heap.size w X) := fun X h => bj h HB3.out
      clear hb1 hb3
      cases hcmp : (R.toList == P.toList)
      · have HX : Hid (firstV I = .tuple #[.string ⟨#[]⟩, .int .i64 0]) := by rw [HV.out, hcmp]; exact rfl
        go_wp2_with fail
        go_region_held3 (fun X => Below W3.heap.size W3 X)
          (first | exact (Below.refl _ _).drew | exact hb5)
          (first | (go_at_call 13; refine (HRC.out _).mono ?_; rintro e2 w5 ⟨rfl, hb2⟩; have hb5 : Below W3.heap.size W3 w5 := bj hb2 ((Below.refl _ _).drew)))
        have HB5 := hide (KB.out _ hb5)
        clear hb5 hbr
        go_wp2_with fail
        go_ret2
        exact ⟨by rw [HX.out]; rfl, HB5.out⟩
      · have HX : Hid (firstV I = .tuple #[.string T, .int .i64 (k : Int)]) := by rw [HV.out, hcmp]; exact rfl
        go_wp2_with fail
        go_region_held3 (fun X => Below W3.heap.size W3 X)
          (first | exact (Below.refl _ _).drew | exact hb5)
          (first | (go_at_call 13; refine (HRC.out _).mono ?_; rintro e2 w5 ⟨rfl, hb2⟩; have hb5 : Below W3.heap.size W3 w5 := bj hb2 ((Below.refl _ _).drew)))
        have HB5 := hide (KB.out _ hb5)
        clear hb5 hbr
        go_wp2_with fail
        go_ret2
        exact ⟨by rw [HX.out]; rfl, HB5.out⟩
end Go.Proofs.Ytjpdgcodjnnljaa.Msg
