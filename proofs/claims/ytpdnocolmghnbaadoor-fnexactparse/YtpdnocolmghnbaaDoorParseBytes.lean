import Derived.Test.YtpdnocolmghnbaaDoorParseFields
import Derived.Test.YtpdnocolmghnbaaDoorMsgOk
import Derived.Deep.LoopGhost
import Derived.Deep.CutBlock
namespace Go.Proofs.YtpdnocolmghnbaaDoor.Msg
open Go.ChangeShapes Go.WideShapes Go.ChangeAt Go.RowKit
set_option linter.unusedVariables false
set_option linter.unusedSimpArgs false

def byteC (c : UInt8) : Bool := decide (c.toNat = 13) || plainC c
def bytesB (s : ByteArray) : Bool := s.data.toList.all byteC

set_option maxHeartbeats 400000 in
theorem bytes_any (s : ByteArray) (w : World) (hs : s.size ≤ 9223372036854775807) :
    Calls Tryd.prog 9 #[.string s] w fun e w' => e = .returned (.bool (bytesB s)) ∧ w' = w := by
  go_enter Tryd.func9, Tryd.ntmps9
  go_wp2
  go_loop [3] (fun i => ∃ k : Nat, k ≤ s.size ∧ i = .int .i64 k ∧ (s.data.toList.take k).all byteC = true) (fun i => s.size - (intOf i).toNat)
  case atStart => exact ⟨0, Nat.zero_le _, rfl, rfl⟩
  case round =>
    obtain ⟨k, hk, rfl, hall⟩ := hrel
    have HA := hide hall
    clear hall
    have hsz : s.data.toList.length = s.size := by simp
    by_cases hlt : k < s.size
    · have HK : Hid (∀ h, s.data.toList[k]'h = s[k]) := fun h => rfl
      have HP : Hid (byteC s[k] = (decide (s[k].toNat = 13) || (decide (32 ≤ s[k].toNat) && decide (s[k].toNat ≤ 126)))) := rfl
      by_cases h0 : s[k].toNat = 13
      · have h0' : ((s[k].toNat : Int) != 13) = false := by rw [bne_eq_false_iff_eq]; omega
        have h0'' : (s[k].toNat : Int) = 13 := by omega
        have HF : Hid (byteC s[k] = true) := by rw [HP.out, decide_eq_true h0]; rfl
        have HZ := hide (all_step (p := byteC) (xs := s.data.toList) (k := k) (by omega) HA.out (by rw [HK.out]; exact HF.out))
        clear hsz h0
        go_wp2
        go_round
        case rel => exact ⟨k + 1, by omega, by go_num, HZ.out⟩
        case measure => simp [intOf]; omega
      have h0' : ((s[k].toNat : Int) != 13) = true := by rw [bne_iff_ne]; omega
      have h0'' : ¬ (s[k].toNat : Int) = 13 := by omega
      have HP0 : Hid (byteC s[k] = (decide (32 ≤ s[k].toNat) && decide (s[k].toNat ≤ 126))) := by rw [HP.out, decide_eq_false h0]; rfl
      clear h0
      by_cases h1 : (s[k].toNat : Int) < 32
      · have HF : Hid (byteC s[k] = false) := by rw [HP0.out, decide_eq_false (by omega)]; rfl
        have HZ := hide (all_fail (p := byteC) (xs := s.data.toList) (k := k) (by omega) (by rw [HK.out]; exact HF.out))
        clear hsz
        go_wp2
        go_ret
        exact ⟨ret_bool HZ.out.symm, rfl⟩
      · by_cases h2 : (126 : Int) < (s[k].toNat : Int)
        · have HF : Hid (byteC s[k] = false) := by rw [HP0.out, decide_eq_false (p := s[k].toNat ≤ 126) (by omega), Bool.and_false]; trivial
          have HZ := hide (all_fail (p := byteC) (xs := s.data.toList) (k := k) (by omega) (by rw [HK.out]; exact HF.out))
          clear hsz
          go_wp2
          go_ret
          exact ⟨ret_bool HZ.out.symm, rfl⟩
        · have HF : Hid (byteC s[k] = true) := by rw [HP0.out, decide_eq_true (by omega), decide_eq_true (by omega)]; rfl
          have HZ := hide (all_step (p := byteC) (xs := s.data.toList) (k := k) (by omega) HA.out (by rw [HK.out]; exact HF.out))
          clear hsz
          go_wp2
          go_round
          case rel => exact ⟨k + 1, by omega, by go_num, HZ.out⟩
          case measure => simp [intOf]; omega
    · have HZ := hide (all_done (by omega) HA.out)
      clear hsz
      go_wp2
      go_ret
      exact ⟨ret_bool HZ.out.symm, rfl⟩

/-- too long a list of fields -/
def repLB (r : Rep) : Bool := decide (r.length ≤ 20)
def fldLB (f : Field) : Bool := decide (f.length ≤ 30) && f.all repLB
def longB (fs : List Field) : Bool := decide (30 < fs.length) || !(fs.all fldLB)

set_option maxHeartbeats 1000000 in
theorem tooLong_any (x : List Field) (v : Value) (w : World) {lo : Nat} (hv : FieldsAt lo w v x) :
    Calls Tryd.prog 14 #[v] w fun e w' => e = .returned (.bool (longB x)) ∧ w' = w := by
  have hl := hv.1
  obtain ⟨a, cap, rfl, hc⟩ := hv.form
  have HC := hide hc
  clear hc hv
  by_cases h30 : (30 : Int) < (x.length : Int)
  · have HR : Hid (longB x = true) := by unfold longB; rw [decide_eq_true (by omega)]; rfl
    go_enter Tryd.func14, Tryd.ntmps14
    go_wp2_with fail
    go_ret
    exact ⟨ret_bool HR.out.symm, rfl⟩
  · have HR : Hid (longB x = !(x.all fldLB)) := by unfold longB; rw [decide_eq_false (by omega)]; exact Bool.false_or _
    go_enter Tryd.func14, Tryd.ntmps14
    go_wp2_with fail
    go_loopg [3] x.length (fun n i wr => ∃ k : Nat, k ≤ x.length ∧ n = x.length - k ∧ i = .int .i64 k ∧ (x.take k).all fldLB = true ∧ wr = w)
    case atStart => exact ⟨0, Nat.zero_le _, rfl, rfl, rfl, rfl⟩
    case round =>
      obtain ⟨k, hk, rfl, rfl, hall, rfl⟩ := hrel
      have HA := hide hall
      clear hall
      by_cases hlt : k < x.length
      · obtain ⟨b, off, rfl, _, hbl, ve, hcell, hel⟩ := HC.out k hlt
        have hcell' : wr.cell? ⟨b, off + k, none⟩ = some ve := by simpa using hcell
        have hll := hel.1
        obtain ⟨a2, cap2, rfl, hc2⟩ := hel.form
        have HC2 := hide hc2
        have HP : Hid (fldLB x[k] = (decide (x[k].length ≤ 30) && x[k].all repLB)) := rfl
        clear hcell hc2 hel
        generalize hxk : x[k] = f at *
        have HXK := hide hxk
        clear hxk
        by_cases h31 : (30 : Int) < (f.length : Int)
        · have HF : Hid (x.all fldLB = false) := all_fail hlt (by rw [HXK.out, HP.out, decide_eq_false (by omega)]; rfl)
          have HQ : Hid (longB x = true) := by rw [HR.out, HF.out]; rfl
          go_wp2_with fail
          go_ret
          exact ⟨ret_bool HQ.out.symm, rfl⟩
        · have HP2 : Hid (fldLB f = f.all repLB) := by rw [HP.out, decide_eq_true (by omega)]; exact Bool.true_and _
          go_wp2_with fail
          go_loopg [4] f.length (fun n j wr2 => ∃ q : Nat, q ≤ f.length ∧ n = f.length - q ∧ j = .int .i64 q ∧ (f.take q).all repLB = true ∧ wr2 = wr)
          case atStart => exact ⟨0, Nat.zero_le _, rfl, rfl, rfl, rfl⟩
          case round =>
            obtain ⟨q, hq, rfl, rfl, hall2, rfl⟩ := hrel
            have HA2 := hide hall2
            clear hall2
            by_cases hq2 : q < f.length
            · obtain ⟨b2, off2, rfl, _, hbl2, vr, hcr, helr⟩ := HC2.out q hq2
              have hcr' : wr.cell? ⟨b2, off2 + q, none⟩ = some vr := by simpa using hcr
              have hlr := helr.1
              obtain ⟨a3, cap3, rfl, _⟩ := helr.form
              have HP3 : Hid (repLB f[q] = decide (f[q].length ≤ 20)) := rfl
              clear hcr helr
              generalize hfq : f[q] = r at *
              have HFQ := hide hfq
              clear hfq
              by_cases h20 : (20 : Int) < (r.length : Int)
              · have HF0 : Hid (f.all repLB = false) := all_fail hq2 (by rw [HFQ.out, HP3.out, decide_eq_false (by omega)])
                have HF : Hid (x.all fldLB = false) := all_fail hlt (by rw [HXK.out, HP2.out, HF0.out])
                have HQ : Hid (longB x = true) := by rw [HR.out, HF.out]; rfl
                go_wp2_with fail
                go_ret
                exact ⟨ret_bool HQ.out.symm, rfl⟩
              · have HF0 := hide (all_step (p := repLB) hq2 HA2.out (by rw [HFQ.out, HP3.out, decide_eq_true (by omega)]))
                go_wp2_with fail
                go_roundg (f.length - (q + 1))
                case measure => omega
                case rel => exact ⟨q + 1, by omega, rfl, by go_num, HF0.out, rfl⟩
            · have HF0 := hide (all_done (by omega) HA2.out)
              have HF := hide (all_step (p := fldLB) hlt HA.out (by rw [HXK.out, HP2.out, HF0.out]))
              go_wp2_with fail
              go_roundg (x.length - (k + 1))
              case measure => omega
              case rel => exact ⟨k + 1, by omega, rfl, by go_num, HF.out, rfl⟩
      · have HF := hide (all_done (by omega) HA.out)
        have HQ : Hid (longB x = false) := by rw [HR.out, HF.out]; rfl
        go_wp2_with fail
        go_ret
        exact ⟨ret_bool HQ.out.symm, rfl⟩

def lowB (c : UInt8) : Bool := decide (97 ≤ c.toNat) && decide (c.toNat ≤ 122)
def badB (c : UInt8) : Bool := decide (c.toNat = 13) || (capB c || (lowB c || digB c))
def newAt (l : List UInt8) (i : Nat) : Bool := match l[i]? with
  | none => false
  | some b => !badB b && (l.take i).all fun y => y != b
def delimsB (s : ByteArray) : Bool := (List.range 5).all (newAt s.data.toList)

theorem newAt_eq (l : List UInt8) (i : Nat) (h : i < l.length) : newAt l i = (!badB l[i] && (l.take i).all fun y => y != l[i]) := by
  unfold newAt
  rw [List.getElem?_eq_getElem h]
theorem bad_no {c : UInt8} (h0 : c.toNat ≠ 13) (h1 : capB c = false) (h2 : c.toNat < 48 ∨ (57 < c.toNat ∧ c.toNat < 97) ∨ 122 < c.toNat) : badB c = false := by
  unfold badB lowB digB
  rw [decide_eq_false h0, h1]
  rcases h2 with h | ⟨h, h'⟩ | h
  · rw [decide_eq_false (p := 97 ≤ c.toNat) (by omega), decide_eq_false (p := 48 ≤ c.toNat) (by omega)]; rfl
  · rw [decide_eq_false (p := 97 ≤ c.toNat) (by omega), decide_eq_false (p := c.toNat ≤ 57) (by omega), Bool.and_false]; rfl
  · rw [decide_eq_false (p := c.toNat ≤ 122) (by omega), decide_eq_false (p := c.toNat ≤ 57) (by omega), Bool.and_false, Bool.and_false]; rfl

set_option maxHeartbeats 2000000 in
theorem delims_any (s : ByteArray) (w : World) (hs : s.size = 5) :
    Calls Tryd.prog 10 #[.string s] w fun e w' => e = .returned (.bool (delimsB s)) ∧ w' = w := by
  have HD : Hid (delimsB s = (List.range 5).all (newAt s.data.toList)) := rfl
  go_enter Tryd.func10, Tryd.ntmps10
  go_wp2_with fail
  go_loopg [3] 5 (fun n i wr => ∃ k : Nat, k ≤ 5 ∧ n = 5 - k ∧ i = .int .i64 k ∧ ((List.range 5).take k).all (newAt s.data.toList) = true ∧ wr = w)
  case atStart => exact ⟨0, Nat.zero_le _, rfl, rfl, rfl, rfl⟩
  case round =>
    obtain ⟨k, hk, rfl, rfl, hall, rfl⟩ := hrel
    have HA := hide hall
    clear hall
    by_cases hlt : k < 5
    · have hkr : k < (List.range 5).length := by rw [List.length_range]; exact hlt
      have HRK : Hid ((List.range 5)[k] = k) := by rw [List.getElem_range]; exact rfl
      have hks : k < s.size := by omega
      have HN : Hid (newAt s.data.toList k = (!badB s[k] && (s.data.toList.take k).all fun y => y != s[k])) := newAt_eq _ _ (by simpa using hks)
      have HFA : Hid (newAt s.data.toList k = false → delimsB s = false) := fun h => by rw [HD.out]; exact all_fail hkr (by rw [HRK.out]; exact h)
      have HST : Hid (newAt s.data.toList k = true → ((List.range 5).take (k + 1)).all (newAt s.data.toList) = true) := fun h => all_step hkr HA.out (by rw [HRK.out]; exact h)
      have HBD : Hid (badB s[k] = true → delimsB s = false) := fun h => HFA.out (by rw [HN.out, h]; rfl)
      have HG : Hid (∀ j (h : j < k), s.data.toList[j]'(by simp; omega) = s[j]'(by omega)) := fun j h => rfl
      clear HRK hkr
      have hki : (k : Int) < 5 := by omega
      have hks' : (k : Int) < (s.size : Int) := by omega
      by_cases h0 : s[k].toNat = 13
      · have h0' : ((s[k].toNat : Int) == 13) = true := by rw [beq_iff_eq]; omega
        have HQ : Hid (delimsB s = false) := HBD.out (by unfold badB; rw [decide_eq_true h0]; rfl)
        clear h0
        go_wp2_with fail
        go_ret
        exact ⟨ret_bool HQ.out.symm, rfl⟩
      have h0' : ((s[k].toNat : Int) == 13) = false := by rw [beq_eq_false_iff_ne]; omega
      have H0 := hide h0
      clear h0
      cases hcap : capB s[k]
      · have HCAP := hide hcap
        clear hcap
        have hcl : s[k].toNat < 256 := s[k].toNat_lt
        by_cases hlow : 97 ≤ s[k].toNat ∧ s[k].toNat ≤ 122
        · have HQ : Hid (delimsB s = false) := HBD.out (by unfold badB lowB; rw [decide_eq_true hlow.1, decide_eq_true hlow.2, Bool.true_and, Bool.true_or, Bool.or_true, Bool.or_true])
          have h1 : (97 : Int) ≤ (s[k].toNat : Int) := by omega
          have h2 : (s[k].toNat : Int) ≤ 122 := by omega
          clear hlow
          go_wp2_with fail
          refine (capital_any s[k] _).mono ?_
          rintro e w' ⟨rfl, rfl⟩
          rw [HCAP.out]
          go_wp2_with fail
          go_ret
          exact ⟨ret_bool HQ.out.symm, rfl⟩
        by_cases hdig : 48 ≤ s[k].toNat ∧ s[k].toNat ≤ 57
        · have HQ : Hid (delimsB s = false) := HBD.out (by unfold badB digB; rw [decide_eq_true hdig.1, decide_eq_true hdig.2, Bool.true_and, Bool.or_true, Bool.or_true, Bool.or_true])
          have h1 : ¬ (97 : Int) ≤ (s[k].toNat : Int) := by omega
          have h2 : (48 : Int) ≤ (s[k].toNat : Int) := by omega
          have h3 : (s[k].toNat : Int) ≤ 57 := by omega
          clear hlow hdig
          go_wp2_with fail
          refine (capital_any s[k] _).mono ?_
          rintro e w' ⟨rfl, rfl⟩
          rw [HCAP.out]
          go_wp2_with fail
          go_ret
          exact ⟨ret_bool HQ.out.symm, rfl⟩
        have HB : Hid (badB s[k] = false) := bad_no H0.out HCAP.out (by omega)
        have HNA : Hid (newAt s.data.toList k = (s.data.toList.take k).all fun y => y != s[k]) := by rw [HN.out, HB.out]; rfl
        go_wp2_with fail
        refine (capital_any s[k] _).mono ?_
        rintro e w' ⟨rfl, rfl⟩
        rw [HCAP.out]
        go_wp2_with fail
        all_goals (
          clear hlow hdig
          go_loopg [5] k (fun n j wr => ∃ q : Nat, q ≤ k ∧ n = k - q ∧ j = .int .i64 q ∧ ((s.data.toList.take k).take q).all (fun y => y != s[k]) = true ∧ wr = w')
          case atStart => exact ⟨0, Nat.zero_le _, rfl, rfl, rfl, rfl⟩
          case round =>
            obtain ⟨q, hq, rfl, rfl, hall2, rfl⟩ := hrel
            have HA2 := hide hall2
            clear hall2
            have hlk : (s.data.toList.take k).length = k := by rw [List.length_take]; simp; omega
            by_cases hq2 : q < k
            · have hqi : (q : Int) < (k : Int) := by omega
              have hqs : q < s.size := by omega
              have HE : Hid ((s.data.toList.take k)[q]'(by omega) = s[q]) := by rw [List.getElem_take]; exact HG.out q hq2
              have hqt : q < (s.data.toList.take k).length := by omega
              by_cases he : s[q] = s[k]
              · have he' : ((s[q].toNat : Int) == (s[k].toNat : Int)) = true := by rw [beq_iff_eq, he]
                have HQ : Hid (delimsB s = false) := HFA.out (by rw [HNA.out]; exact all_fail hqt (by rw [HE.out, he]; simp))
                clear he HE hqt hlk
                go_wp2_with fail
                go_ret
                exact ⟨ret_bool HQ.out.symm, rfl⟩
              · have he' : ((s[q].toNat : Int) == (s[k].toNat : Int)) = false := by
                  rw [beq_eq_false_iff_ne]
                  intro h
                  exact he (UInt8.toNat_inj.1 (by omega))
                have HF := hide (all_step (p := fun y => y != s[k]) hqt HA2.out (by rw [HE.out]; simpa using he))
                clear he HE hqt hlk
                go_wp2_with fail
                go_roundg (k - (q + 1))
                case measure => omega
                case rel => exact ⟨q + 1, by omega, rfl, by go_num, HF.out, rfl⟩
            · have HF := hide (all_done (p := fun y => y != s[k]) (by omega) HA2.out)
              have HZ := hide (HST.out (by rw [HNA.out]; exact HF.out))
              clear hlk
              go_wp2_with fail
              go_roundg (5 - (k + 1))
              case measure => omega
              case rel => exact ⟨k + 1, by omega, rfl, by go_num, HZ.out, rfl⟩)
      · have HQ : Hid (delimsB s = false) := HBD.out (by unfold badB; rw [hcap, Bool.true_or, Bool.or_true])
        have HCAP := hide hcap
        clear hcap
        go_wp2_with fail
        refine (capital_any s[k] _).mono ?_
        rintro e w' ⟨rfl, rfl⟩
        rw [HCAP.out]
        go_wp2_with fail
        go_ret
        exact ⟨ret_bool HQ.out.symm, rfl⟩
    · have HQ : Hid (delimsB s = true) := by rw [HD.out]; exact all_done (by rw [List.length_range]; omega) HA.out
      go_wp2_with fail
      go_ret
      exact ⟨ret_bool HQ.out.symm, rfl⟩
end Go.Proofs.YtpdnocolmghnbaaDoor.Msg
