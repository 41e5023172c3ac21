import Derived.Test.YtcphfhfockjljaaDoorParseTail
import Derived.Test.YtcphfhfockjljaaDoorImplEscwithImplReadwithImplParseSeg
namespace Go.Proofs.YtcphfhfockjljaaDoor.Msg
open Go.ChangeShapes Go.WideShapes Go.ChangeAt Go.RowKit
set_option linter.unusedVariables false
set_option linter.unusedSimpArgs false

theorem head_of {s : ByteArray} (h8 : 8 ≤ s.size) (hm : ((s.extract 0 3).toList == [77, 83, 72]) = true) (hd : delimsB (s.extract 3 8) = true) (hs : s.size ≤ 8 ∨ ∃ h8 : 8 < s.size, s[8].toNat = 13 ∨ s[8].toNat = s[3].toNat) : headB s = true := by
  unfold headB
  rw [decide_eq_true h8, hm, hd, Bool.true_and, Bool.true_and, Bool.true_and]
  rcases hs with h | ⟨h, h1⟩
  · rw [decide_eq_true h]; rfl
  · have e8 : s.data.toList[8]? = some s[8] := by rw [List.getElem?_eq_getElem (by simpa using h)]; rfl
    have e3 : s.data.toList[3]? = some s[3] := by rw [List.getElem?_eq_getElem (by simp; omega)]; rfl
    rw [e8, e3]
    rcases h1 with h1 | h1
    · have : s[8] = 13 := UInt8.toNat_inj.1 h1
      rw [this]; simp
    · have : s[8] = s[3] := UInt8.toNat_inj.1 h1
      rw [this]; simp

end Go.Proofs.YtcphfhfockjljaaDoor.Msg

namespace Go.Proofs.YtcphfhfockjljaaDoor.Msg
open Go.ChangeShapes Go.WideShapes Go.ChangeAt Go.RowKit
set_option linter.unusedVariables false
set_option linter.unusedSimpArgs false

def wordB (c : UInt8) : Bool := capB c || (digB c || lowB c)
set_option maxHeartbeats 1000000 in
theorem isWord_any (c : UInt8) (w : World) :
    Calls Tryd.prog 46 #[.int .u8 (c.toNat : Int)] w fun e w' => e = .returned (.bool (wordB c)) ∧ w' = w := by
  have HW : Hid (wordB c = (capB c || (digB c || lowB c))) := rfl
  have HLO : Hid (lowB c = (decide (97 ≤ c.toNat) && decide (c.toNat ≤ 122))) := rfl
  cases hc : capB c
  · have HC := hide hc
    cases hdg : digB c
    · have HD := hide hdg
      have HX : Hid (wordB c = lowB c) := by rw [HW.out, hc, hdg]; rfl
      clear hc hdg
      by_cases h1 : (97 : Int) ≤ (c.toNat : Int)
      · by_cases h2 : (c.toNat : Int) ≤ 122
        · have HL : Hid (lowB c = true) := by rw [HLO.out, decide_eq_true (by omega), decide_eq_true (by omega)]; rfl
          go_enter Tryd.func46, Tryd.ntmps46
          go_wp2_with fail
          refine (isCapital_any c _).mono ?_
          rintro e w2 ⟨rfl, rfl⟩
          rw [HC.out]
          go_wp2_with fail
          refine (isDigit_any c _).mono ?_
          rintro e w2 ⟨rfl, rfl⟩
          rw [HD.out]
          go_wp2_with fail
          go_ret
          exact ⟨ret_bool (by rw [HX.out, HL.out]), rfl⟩
        · have HL : Hid (lowB c = false) := by rw [HLO.out, decide_eq_false (p := c.toNat ≤ 122) (by omega), Bool.and_false]; trivial
          go_enter Tryd.func46, Tryd.ntmps46
          go_wp2_with fail
          refine (isCapital_any c _).mono ?_
          rintro e w2 ⟨rfl, rfl⟩
          rw [HC.out]
          go_wp2_with fail
          refine (isDigit_any c _).mono ?_
          rintro e w2 ⟨rfl, rfl⟩
          rw [HD.out]
          go_wp2_with fail
          go_ret
          exact ⟨ret_bool (by rw [HX.out, HL.out]; simp; omega), rfl⟩
      · have HL : Hid (lowB c = false) := by rw [HLO.out, decide_eq_false (p := 97 ≤ c.toNat) (by omega)]; rfl
        go_enter Tryd.func46, Tryd.ntmps46
        go_wp2_with fail
        refine (isCapital_any c _).mono ?_
        rintro e w2 ⟨rfl, rfl⟩
        rw [HC.out]
        go_wp2_with fail
        refine (isDigit_any c _).mono ?_
        rintro e w2 ⟨rfl, rfl⟩
        rw [HD.out]
        go_wp2_with fail
        go_ret
        exact ⟨ret_bool (by rw [HX.out, HL.out]), rfl⟩
    · have HD := hide hdg
      have HX : Hid (wordB c = true) := by rw [HW.out, hc, hdg]; rfl
      clear hc hdg
      go_enter Tryd.func46, Tryd.ntmps46
      go_wp2_with fail
      refine (isCapital_any c _).mono ?_
      rintro e w2 ⟨rfl, rfl⟩
      rw [HC.out]
      go_wp2_with fail
      refine (isDigit_any c _).mono ?_
      rintro e w2 ⟨rfl, rfl⟩
      rw [HD.out]
      go_wp2_with fail
      go_ret
      exact ⟨ret_bool HX.out.symm, rfl⟩
  · have HC := hide hc
    have HX : Hid (wordB c = true) := by rw [HW.out, hc]; rfl
    clear hc
    go_enter Tryd.func46, Tryd.ntmps46
    go_wp2_with fail
    refine (isCapital_any c _).mono ?_
    rintro e w2 ⟨rfl, rfl⟩
    rw [HC.out]
    go_wp2_with fail
    go_ret
    exact ⟨ret_bool HX.out.symm, rfl⟩

theorem idx_in (l : List UInt8) (c : UInt8) : (Lib.indexByte l c = -1 ∧ l.all (fun y => y != c) = true) ∨ (∃ i : Nat, Lib.indexByte l c = i ∧ l.all (fun y => y != c) = false) := by
  rcases indexByte_parts c l with ⟨h1, h2⟩ | ⟨i, h1, h2, h3, _⟩
  · refine .inl ⟨h1, ?_⟩
    rw [List.all_eq_true]
    intro x hx
    rw [bne_iff_ne]
    exact h2 x hx
  · refine .inr ⟨i, h1, ?_⟩
    rw [List.all_eq_false]
    exact ⟨c, by rw [h3]; simp, by simp⟩

end Go.Proofs.YtcphfhfockjljaaDoor.Msg

namespace Go.Proofs.YtcphfhfockjljaaDoor.Msg
open Go.ChangeShapes Go.WideShapes Go.ChangeAt Go.RowKit
set_option linter.unusedVariables false
set_option linter.unusedSimpArgs false

theorem prefix_three (a b c : UInt8) (l : List UInt8) : List.isPrefixOf [a, b, c] l = (l.take 3 == [a, b, c]) := by
  match l with
  | [] => rfl
  | [x] => simp [List.isPrefixOf]
  | [x, y] => simp [List.isPrefixOf]
  | x :: y :: z :: t =>
    simp only [List.isPrefixOf, List.take_succ_cons, List.take_zero, Bool.and_true]
    rw [Bool.eq_iff_iff]
    simp only [Bool.and_eq_true, beq_iff_eq, List.cons.injEq, and_true]
    exact ⟨fun ⟨h1, h2, h3⟩ => ⟨h1.symm, h2.symm, h3.symm⟩, fun ⟨h1, h2, h3⟩ => ⟨h1.symm, h2.symm, h3.symm⟩⟩
theorem prefix_msh (s : ByteArray) : Lib.hasPrefix s.data.toList (⟨#[77, 83, 72]⟩ : ByteArray).data.toList = ((s.extract 0 3).toList == [77, 83, 72]) := by
  show List.isPrefixOf [77, 83, 72] s.data.toList = _
  rw [prefix_three, txt_extract, txt_toList]
  rfl
theorem marks_at (s : ByteArray) (h8 : 8 ≤ s.size) (h : 0 < (s.extract 3 8).size) : (s.extract 3 8)[0] = s[3] := by
  rw [ByteArray.getElem_extract]
theorem bad_word {c : UInt8} (h0 : c.toNat ≠ 13) (h1 : wordB c = false) : badB c = false := by
  unfold wordB at h1
  unfold badB
  rw [decide_eq_false h0]
  cases hc : capB c <;> cases hd : digB c <;> cases hl : lowB c <;> rw [hc, hd, hl] at h1 <;> simp_all
theorem bad_word' {c : UInt8} (h1 : wordB c = true) : badB c = true := by
  unfold wordB at h1
  unfold badB
  cases hc : capB c <;> cases hd : digB c <;> cases hl : lowB c <;> rw [hc, hd, hl] at h1 <;> simp_all

set_option maxRecDepth 100000 in
set_option maxHeartbeats 4000000 in
theorem hasHeader_no (s : ByteArray) (w : World) (hs : s.size ≤ 40000) (hh : s.size < 8 ∨ ((s.extract 0 3).toList == [77, 83, 72]) = false) :
    Calls Tryd.prog 34 #[.string s] w fun e w' => e = .returned (.bool (headB s)) ∧ Below w.heap.size w w' := by
  have HB0 : Hid (Below w.heap.size w w) := Below.refl _ _
  by_cases h8 : s.size < 8
  · have HX : Hid (headB s = false) := by unfold headB; rw [decide_eq_false (p := 8 ≤ s.size) (by omega)]; rfl
    have h8' : (s.size : Int) < 8 := by omega
    clear hh h8
    go_enter Tryd.func34, Tryd.ntmps34
    go_wp2_with fail
    go_ret
    exact ⟨ret_bool HX.out.symm, HB0.out⟩
  · have hm : ((s.extract 0 3).toList == [77, 83, 72]) = false := by rcases hh with h | h; exact absurd h h8; exact h
    have HX : Hid (headB s = false) := by
      have : headB s = false := by unfold headB; rw [hm]; simp
      exact this
    have HP := hide (prefix_msh s)
    rw [hm] at HP
    have h8' : ¬ (s.size : Int) < 8 := by omega
    clear hh h8 hm
    go_enter Tryd.func34, Tryd.ntmps34
    go_wp2_with (go_at_call 45; refine (Tryd.strings_HasPrefix _ _ _).mono ?_; rintro e w2 ⟨rfl, rfl⟩; rw [HP.out])
    go_ret
    exact ⟨ret_bool HX.out.symm, HB0.out⟩

set_option maxRecDepth 100000 in
set_option maxHeartbeats 4000000 in
theorem hasHeader_yes (s : ByteArray) (w : World) (hs : s.size ≤ 40000) (h8 : 8 ≤ s.size) (hm : ((s.extract 0 3).toList == [77, 83, 72]) = true) :
    Calls Tryd.prog 34 #[.string s] w fun e w' => e = .returned (.bool (headB s)) ∧ Below w.heap.size w w' := by
  have HB0 : Hid (Below w.heap.size w w) := Below.refl _ _
  have HP := hide (prefix_msh s)
  rw [hm] at HP
  have HM := hide hm
  have h8' : ¬ (s.size : Int) < 8 := by omega
  have h38 : (8 : Int) ≤ (s.size : Int) := by omega
  have h3 : (3 : Int) ≤ (s.size : Int) := by omega
  have h5 : (s.extract 3 8).size = 5 := by rw [ByteArray.size_extract]; omega
  have HD : Hid (delimsB (s.extract 3 8) = (List.range 5).all (newAt (s.extract 3 8).data.toList)) := rfl
  have HF : Hid (delimsB (s.extract 3 8) = false → headB s = false) := fun h => by unfold headB; rw [h]; simp
  clear hm
  go_enter Tryd.func34, Tryd.ntmps34
  go_wp2_with (go_at_call 45; refine (Tryd.strings_HasPrefix _ _ _).mono ?_; rintro e w2 ⟨rfl, rfl⟩; rw [HP.out])
  go_loopg [17] 5 (fun n i wr => ∃ k : Nat, k ≤ 5 ∧ n = 5 - k ∧ i = .int .i64 k ∧ ((List.range 5).take k).all (newAt (s.extract 3 8).data.toList) = true ∧ Below w2.heap.size w2 wr)
  case atStart => exact ⟨0, Nat.zero_le _, rfl, rfl, rfl, HB0.out⟩
  case round =>
    obtain ⟨k, hk, rfl, rfl, hall, hbel⟩ := hrel
    have HA := hide hall
    have HBL := hide hbel
    clear hall hbel
    by_cases hlt : k < 5
    · have hkr : k < (List.range 5).length := by rw [List.length_range]; exact hlt
      have HRK : Hid ((List.range 5)[k] = k) := by rw [List.getElem_range]; exact rfl
      have hks : k < (s.extract 3 8).size := by omega
      have HN : Hid (newAt (s.extract 3 8).data.toList k = (!badB (s.extract 3 8)[k] && ((s.extract 3 8).data.toList.take k).all fun y => y != (s.extract 3 8)[k])) := newAt_eq _ _ (by rw [Array.length_toList]; exact hks)
      have HFA : Hid (newAt (s.extract 3 8).data.toList k = false → headB s = false) := fun h => HF.out (by rw [HD.out]; exact all_fail hkr (by rw [HRK.out]; exact h))
      have HST : Hid (newAt (s.extract 3 8).data.toList k = true → ((List.range 5).take (k + 1)).all (newAt (s.extract 3 8).data.toList) = true) := fun h => all_step hkr HA.out (by rw [HRK.out]; exact h)
      have HBD : Hid (badB (s.extract 3 8)[k] = true → headB s = false) := fun h => HFA.out (by rw [HN.out, h]; rfl)
      clear HRK hkr
      have hki : (k : Int) < 5 := by omega
      have hks' : (k : Int) < ((s.extract 3 8).size : Int) := by omega
      have hkl' : (k : Int) ≤ ((s.extract 3 8).size : Int) := by omega
      cases hw : wordB (s.extract 3 8)[k]
      · have HW := hide hw
        have HCALL : Hid (∀ w, Calls Tryd.prog 46 #[.int .u8 ((s.extract 3 8)[k].toNat : Int)] w fun e w' => e = .returned (.bool false) ∧ w' = w) := fun w => by rw [← HW.out]; exact isWord_any _ w
        clear hw
        by_cases h0 : (s.extract 3 8)[k].toNat = 13
        · have h0' : (((s.extract 3 8)[k].toNat : Int) == 13) = true := by rw [beq_iff_eq]; omega
          have HQ : Hid (headB s = false) := HBD.out (by unfold badB; rw [decide_eq_true h0]; rfl)
          clear h0
          go_wp2_with fail
          go_quiet (first | (go_at_call 46; refine Calls.quiet_of_same (HCALL.out _)))
          go_wp2_with fail
          go_ret
          exact ⟨ret_bool HQ.out.symm, below_drewN HBL.out _⟩
        · have h0' : (((s.extract 3 8)[k].toNat : Int) == 13) = false := by rw [beq_eq_false_iff_ne]; omega
          have HB : Hid (badB (s.extract 3 8)[k] = false) := bad_word h0 HW.out
          clear h0
          have HEX : Hid (((s.extract 3 8).extract 0 k).data.toList = (s.extract 3 8).data.toList.take k) := by rw [txt_extract (s.extract 3 8), txt_data]; exact rfl
          have HC8 : Hid (((((s.extract 3 8)[k].toNat : Nat) : Int).toNat.toUInt8) = (s.extract 3 8)[k]) := by
            have : ((((s.extract 3 8)[k].toNat : Nat) : Int).toNat.toUInt8) = (s.extract 3 8)[k] := by simp
            exact this
          rcases idx_in ((s.extract 3 8).data.toList.take k) (s.extract 3 8)[k] with ⟨hi1, hi2⟩ | ⟨i, hi1, hi2⟩
          · have HZ := hide (HST.out (by rw [HN.out, HB.out, hi2]; rfl))
            have HCI : Hid (∀ w, Calls Tryd.prog 47 #[.string ((s.extract 3 8).extract 0 k), .int .u8 ((s.extract 3 8)[k].toNat : Int)] w fun e w' => e = .returned (.int .i64 (-1)) ∧ w' = w) := fun w => by
              have := Tryd.strings_IndexByte ((s.extract 3 8).extract 0 k) ((s.extract 3 8)[k].toNat : Int) w
              rw [HEX.out, HC8.out, hi1] at this
              exact this
            clear hi1 hi2
            go_wp2_with fail
            go_quiet (first | (go_at_call 46; refine Calls.quiet_of_same (HCALL.out _)) | (go_at_call 47; refine Calls.quiet_of_same (HCI.out _)))
            go_wp2_with fail
            go_roundg (5 - (k + 1))
            case measure => omega
            case rel => exact ⟨k + 1, by omega, rfl, by go_num, HZ.out, below_drewN HBL.out _⟩
          · have HQ : Hid (headB s = false) := HFA.out (by rw [HN.out, hi2, Bool.and_false])
            have hi0 : (0 : Int) ≤ (i : Int) := by omega
            have HCI : Hid (∀ w, Calls Tryd.prog 47 #[.string ((s.extract 3 8).extract 0 k), .int .u8 ((s.extract 3 8)[k].toNat : Int)] w fun e w' => e = .returned (.int .i64 (i : Int)) ∧ w' = w) := fun w => by
              have := Tryd.strings_IndexByte ((s.extract 3 8).extract 0 k) ((s.extract 3 8)[k].toNat : Int) w
              rw [HEX.out, HC8.out, hi1] at this
              exact this
            clear hi1 hi2
            go_wp2_with fail
            go_quiet (first | (go_at_call 46; refine Calls.quiet_of_same (HCALL.out _)) | (go_at_call 47; refine Calls.quiet_of_same (HCI.out _)))
            go_wp2_with fail
            go_ret
            exact ⟨ret_bool HQ.out.symm, below_drewN HBL.out _⟩
      · have HQ : Hid (headB s = false) := HBD.out (bad_word' hw)
        have HW := hide hw
        have HCALL : Hid (∀ w, Calls Tryd.prog 46 #[.int .u8 ((s.extract 3 8)[k].toNat : Int)] w fun e w' => e = .returned (.bool true) ∧ w' = w) := fun w => by rw [← HW.out]; exact isWord_any _ w
        clear hw
        go_wp2_with fail
        go_quiet (first | (go_at_call 46; refine Calls.quiet_of_same (HCALL.out _)))
        go_wp2_with fail
        go_ret
        exact ⟨ret_bool HQ.out.symm, below_drewN HBL.out _⟩
    · have HDT : Hid (delimsB (s.extract 3 8) = true) := by rw [HD.out]; exact all_done (by rw [List.length_range]; omega) HA.out
      have hki : ¬ (k : Int) < 5 := by omega
      by_cases hs8 : s.size = 8
      · have hs8' : ((s.size : Int) == 8) = true := by rw [beq_iff_eq]; omega
        have HQ : Hid (headB s = true) := head_of h8 HM.out HDT.out (.inl (by omega))
        clear hs8
        go_wp2_with fail
        go_quiet (fail)
        go_wp2_with fail
        go_ret
        exact ⟨ret_bool HQ.out.symm, below_drewN HBL.out _⟩
      · have hs8' : ((s.size : Int) == 8) = false := by rw [beq_eq_false_iff_ne]; omega
        have h88 : (8 : Int) < (s.size : Int) := by omega
        have h88n : 8 < s.size := by omega
        have h05 : 0 < (s.extract 3 8).size := by omega
        have h05' : (0 : Int) < ((s.extract 3 8).size : Int) := by omega
        have HMA := hide (marks_at s h8 h05)
        by_cases hc : s[8].toNat = 13
        · have hc' : ((s[8].toNat : Int) == 13) = true := by rw [beq_iff_eq]; omega
          have HQ : Hid (headB s = true) := head_of h8 HM.out HDT.out (.inr ⟨h88n, .inl hc⟩)
          clear hs8 hc
          go_wp2_with fail
          go_quiet (fail)
          go_wp2_with fail
          go_ret
          exact ⟨ret_bool HQ.out.symm, below_drewN HBL.out _⟩
        · have hc' : ((s[8].toNat : Int) == 13) = false := by rw [beq_eq_false_iff_ne]; omega
          have HQ : Hid (headB s = ((s[8].toNat : Int) == ((s.extract 3 8)[0].toNat : Int))) := by
            have t : headB s = ((s[8].toNat : Int) == ((s.extract 3 8)[0].toNat : Int)) := by
              rw [HMA.out]
              by_cases he : s[8].toNat = s[3].toNat
              · rw [head_of h8 HM.out HDT.out (.inr ⟨h88n, .inr he⟩), he]; simp
              · rw [head_sep s h88n hc he]
                symm
                show _ = false
                rw [beq_eq_false_iff_ne]; omega
            exact t
          clear hs8 hc
          go_wp2_with fail
          go_quiet (fail)
          go_wp2_with fail
          go_ret
          exact ⟨ret_bool HQ.out.symm, below_drewN HBL.out _⟩

theorem hasHeader_any (s : ByteArray) (w : World) (hs : s.size ≤ 40000) :
    Calls Tryd.prog 34 #[.string s] w fun e w' => e = .returned (.bool (headB s)) ∧ Below w.heap.size w w' := by
  by_cases h8 : s.size < 8
  · exact hasHeader_no s w hs (.inl h8)
  · cases hm : ((s.extract 0 3).toList == [77, 83, 72])
    · exact hasHeader_no s w hs (.inr hm)
    · exact hasHeader_yes s w hs (by omega) hm
end Go.Proofs.YtcphfhfockjljaaDoor.Msg
