import Derived.Test.YtjpdgcodjnnljaaLogLaw2
import Derived.Test.YtjpdgcodjnnljaaLogWhole
import Derived.Deep.CutBlock
import Derived.Deep.DeepCutAuto
namespace Go.Proofs.Ytjpdgcodjnnljaa.Msg
open Go.ChangeShapes Go.WideShapes Go.ChangeAt Go.RowKit Go.Shelf
set_option linter.unusedVariables false
set_option linter.unusedSimpArgs false

/-- one text more, byte by byte -/
def textTo (more : List UInt8) (i j : Nat) : List UInt8 := (List.range j).map fun j => UInt8.ofNat (pickN more (i * 7 + j))
theorem textTo_succ (more : List UInt8) (i j : Nat) : textTo more i (j + 1) = textTo more i j ++ [UInt8.ofNat (pickN more (i * 7 + j))] := by simp [textTo, List.range_succ]
theorem textTo_len (more : List UInt8) (i j : Nat) : (textTo more i j).length = j := by simp [textTo]

theorem strs_take {lo : Nat} {w : World} {a : Option Addr} {n c : Nat} {xs : List ByteArray} (h : StrsAt lo w (.slice a n c) xs) (m : Nat) (hm : m ≤ xs.length) : StrsAt lo w (.slice a m c) (xs.take m) := by
  obtain ⟨hl, h⟩ := h
  have htl : (xs.take m).length = m := by rw [List.length_take]; omega
  refine ⟨by omega, ?_⟩
  rcases h with ⟨a', cap, e, rfl⟩ | ⟨b, off, cap, e, hlt, h⟩
  · injection e with e1 e2 e3
    subst e1 e3
    have hm0 : m = 0 := by simpa using hm
    subst hm0
    exact .inl ⟨_, _, rfl, rfl⟩
  · injection e with e1 e2 e3
    subst e1 e3
    refine .inr ⟨b, off, c, by rw [htl], hlt, fun i hi => ?_⟩
    rw [htl] at hi
    rw [List.getElem_take]
    exact h i (by omega)
def picksTo (more : List UInt8) (j : Nat) : List Int := (List.range j).map fun i => ((pickN more (i + 3) % 44 : Nat) : Int) - 4
theorem picksTo_succ (more : List UInt8) (j : Nat) : picksTo more (j + 1) = picksTo more j ++ [((pickN more (j + 3) % 44 : Nat) : Int) - 4] := by simp [picksTo, List.range_succ]
theorem picksTo_len (more : List UInt8) (j : Nat) : (picksTo more j).length = j := by simp [picksTo]
theorem pickN_byte (bs : List UInt8) (i : Nat) (h : i ≤ 255) : pickN bs i ≤ 255 := by
  unfold pickN
  split
  · exact h
  · have := (bs.getD (i % bs.length) 0).toNat_lt; omega
theorem one_text (c : UInt8) (w : World) : Sem.run Try.prog (convert 22 9 (.slice (some ⟨w.heap.size, 0, none⟩) 1 1)) (w.alloc (.cells #[.int .u8 (c.toNat : Int)] 5)) = .ok (.string (bsOf [c])) (w.alloc (.cells #[.int .u8 (c.toNat : Int)] 5)) := by
  have h : Buf w.heap.size (w.alloc (Obj.cells #[.int .u8 (c.toNat : Int)] 5)) (.slice (some ⟨w.heap.size, 0, none⟩) 1 1) [c] :=
    World.ownsRow_lit w #[_] 1 (Nat.le_refl _) (by unfold maxLen; omega) rfl
  exact h.string

set_option maxRecDepth 100000 in
set_option maxHeartbeats 8000000 in
theorem lawLog (code more : List UInt8) (vc vm : Value) (w : World) {lo1 lo2 : Nat} (hc : BytesAt lo1 w vc code) (hm : BytesAt lo2 w vm more) :
    Calls Try.prog 3 #[vc, vm] w fun e w' => e = .returned (.bool true) ∧ Below w.heap.size w w' := by
  have hlc := hc.1
  have hlm := hm.1
  obtain ⟨ac, cc, hfc, _⟩ := bytes_form hc
  obtain ⟨am, cm, hfm, _⟩ := bytes_form hm
  subst hfc hfm
  obtain ⟨lc, hlc'⟩ : ∃ lc, code.length = lc := ⟨_, rfl⟩
  obtain ⟨lm, hlm'⟩ : ∃ lm, more.length = lm := ⟨_, rfl⟩
  rw [hlc'] at hc hlc
  rw [hlm'] at hm hlm
  rw [hlc', hlm']
  have HC := hide hc
  have HM := hide hm
  clear hc hm hlc' hlm'
  by_cases hbig : (1048576 : Int) < (lc : Int)
  · go_enter Try.func3, Try.ntmps3
    go_wp2_with fail
    go_ret
    exact ⟨rfl, Below.refl _ _⟩
  by_cases hbig2 : (1048576 : Int) < (lm : Int)
  · go_enter Try.func3, Try.ntmps3
    go_wp2_with fail
    go_ret
    exact ⟨rfl, Below.refl _ _⟩
  go_enter Try.func3, Try.ntmps3
  go_wp2_with fail
  refine (pick_any more _ 0 w HM.out (by omega)).mono ?_
  rintro e W0 ⟨rfl, hW0⟩
  subst hW0
  obtain ⟨p0, hp0⟩ : ∃ p0, pickN more 0 = p0 := ⟨_, rfl⟩
  have hp06 : p0 ≤ 1000 := by rw [← hp0]; exact pickN_le _ _ (by omega)
  rw [hp0]
  obtain ⟨r0, hr0⟩ : ∃ r0, p0 % 8 = r0 := ⟨_, rfl⟩
  have hr07 : r0 ≤ 7 := by omega
  have e1 : (p0 : Int).tmod 8 = (r0 : Int) := by rw [Int.tmod_eq_emod_of_nonneg (by omega)]; omega
  have e1' : (p0 : Int) % 8 = (r0 : Int) := by omega
  obtain ⟨n, hn⟩ : ∃ n, 1 + r0 = n := ⟨_, rfl⟩
  have e2 : (1 : Int) + (r0 : Int) = (n : Int) := by omega
  have hn8 : n ≤ 8 := by omega
  have hn1 : 1 ≤ n := by omega
  obtain ⟨TS, hTS⟩ : ∃ TS, textsOf code more n = TS := ⟨_, rfl⟩
  have HTS := hide hTS
  have htl : TS.length = n := by rw [← hTS]; exact textsOf_len _ _ _
  have HTL := hide htl
  obtain ⟨w1, hw1⟩ : ∃ w1, W0.alloc (Obj.cells #[] 9) = w1 := ⟨_, rfl⟩
  obtain ⟨w2, hw2⟩ : ∃ w2, w1.alloc (Obj.cells #[] 3) = w2 := ⟨_, rfl⟩
  have bel1 : Below W0.heap.size W0 w1 := by rw [← hw1]; exact (Below.refl _ _).alloc (Nat.le_refl _) _
  have bel2 : Below w1.heap.size w1 w2 := by rw [← hw2]; exact (Below.refl _ _).alloc (Nat.le_refl _) _
  have HT0 : Hid (TwoBuf W0 [] [] w2 (.slice (some ⟨W0.heap.size, 0, none⟩) 0 0) (.slice (some ⟨w1.heap.size, 0, none⟩) 0 0)) := by
    refine ⟨?_, ?_, bj bel2 bel1⟩
    · refine TBuf.keep ?_ bel2
      rw [← hw1]
      exact TBuf.empty_at W0 (Nat.le_refl _)
    · rw [← hw2]
      exact IBuf.empty_lit w1 bel1.size
  clear hp0 hr0 hn hTS htl bel1 bel2
  go_wp2_with fail
  go_loopg [6, 7, 8, 9] n (fun q v6 v7 v8 i wr => ∃ k : Nat, k ≤ n ∧ q = n - k ∧ i = .int .i64 (k : Int) ∧ v7 = .string (bsOf (imgL (TS.take k))) ∧ TwoBuf W0 ((TS.take k).map bsOf) ((List.range k).map fun j => ((endL TS (j + 1) : Nat) : Int)) wr v6 v8)
  case atStart => exact ⟨0, Nat.zero_le _, rfl, rfl, by simp [imgL, bsOf], by simpa using HT0.out⟩
  case round =>
    obtain ⟨k, hk, rfl, rfl, rfl, hT⟩ := hrel
    obtain ⟨Wr, rfl⟩ : ∃ x, x = wr := ⟨_, rfl⟩
    obtain ⟨XS, hXS⟩ : ∃ XS, (TS.take k).map bsOf = XS := ⟨_, rfl⟩
    obtain ⟨ES, hES⟩ : ∃ ES, ((List.range k).map fun j => ((endL TS (j + 1) : Nat) : Int)) = ES := ⟨_, rfl⟩
    have hl6 : XS.length = k := by rw [← hXS, List.length_map, List.length_take, HTL.out]; omega
    have hl8 : ES.length = k := by rw [← hES, List.length_map, List.length_range]
    rw [hXS, hES] at hT
    have HXS := hide hXS
    have HES := hide hES
    clear hXS hES
    have HT := hide hT
    obtain ⟨V6, rfl⟩ : ∃ x, x = u6 := ⟨_, rfl⟩
    obtain ⟨V8, rfl⟩ : ∃ x, x = u8 := ⟨_, rfl⟩
    obtain ⟨a6, c6, hf6, h6c, _⟩ := hT.texts.form
    obtain ⟨a8, c8, hf8, _, _⟩ := hT.ends.form
    rw [hl6] at hf6 h6c
    rw [hl8] at hf8
    subst hf6 hf8
    have hbw := hT.below
    have HBW := hide hbw
    have hwz := hbw.size
    have HL6 := hide hl6
    have HL8 := hide hl8
    obtain ⟨G, hG⟩ : ∃ G, bsOf (imgL (TS.take k)) = G := ⟨_, rfl⟩
    have hGs : G.size ≤ 800 := by
      have h := endL_bound code more n k hk
      rw [HTS.out] at h
      rw [← hG, bsOf_size]
      show endL TS k ≤ 800
      omega
    have HG := hide hG
    rw [hG]
    clear hT hbw hl6 hl8 hG
    by_cases hlt : k < n
    · have hki : (k : Int) < (n : Int) := by omega
      obtain ⟨m, hm⟩ : ∃ m, pickN code k % 90 = m := ⟨_, rfl⟩
      have HMM := hide hm
      have hm89 : m ≤ 89 := by omega
      clear hm
      go_wp2_with fail
      go_loopg [10, 11] m (fun q v10 j wx => ∃ y : Nat, y ≤ m ∧ q = m - y ∧ j = .int .i64 (y : Int) ∧ v10 = .string (bsOf (textTo more k y)) ∧ Below Wr.heap.size Wr wx)
      case atStart => exact ⟨0, Nat.zero_le _, rfl, rfl, rfl, Below.refl _ _⟩
      case round =>
        obtain ⟨y, hy, rfl, rfl, rfl, hbx⟩ := hrel
        obtain ⟨Wx, rfl⟩ : ∃ x, x = wr := ⟨_, rfl⟩
        have HBX := hide hbx
        have hC5 := At.kept kept_byte HC.out (bj hbx HBW.out)
        have hM5 := At.kept kept_byte HM.out (bj hbx HBW.out)
        have HC5 := hide hC5
        have HM5 := hide hM5
        obtain ⟨T, hT⟩ : ∃ T, bsOf (textTo more k y) = T := ⟨_, rfl⟩
        have hTs : T.size ≤ 89 := by rw [← hT, bsOf_size, textTo_len]; omega
        have HTT := hide hT
        rw [hT]
        obtain ⟨pc, hpc⟩ : ∃ pc, pickN code k = pc := ⟨_, rfl⟩
        have hpc6 : pc ≤ 1000 := by rw [← hpc]; exact pickN_le _ _ (by omega)
        have hpm : pc % 90 = m := by rw [← hpc]; exact HMM.out
        have m1 : (pc : Int).tmod 90 = (m : Int) := by rw [Int.tmod_eq_emod_of_nonneg (by omega)]; omega
        have m1' : (pc : Int) % 90 = (m : Int) := by omega
        have HPC := hide hpc
        clear hbx hC5 hM5 hT hpc hpm
        by_cases hyl : y < m
        · have hyi : (y : Int) < (m : Int) := by omega
          obtain ⟨o, ho⟩ : ∃ o, k * 7 + y = o := ⟨_, rfl⟩
          have o1 : (k : Int) * 7 + (y : Int) = (o : Int) := by omega
          have ho6 : o ≤ 255 := by omega
          obtain ⟨d, hd⟩ : ∃ d, pickN more o = d := ⟨_, rfl⟩
          have hd6 : d ≤ 255 := by rw [← hd]; exact pickN_byte _ _ ho6
          obtain ⟨c, hcc⟩ : ∃ c : UInt8, UInt8.ofNat d = c := ⟨_, rfl⟩
          have hcd : c.toNat = d := by rw [← hcc, UInt8.toNat_ofNat']; omega
          have d0 : (0 : Int) ≤ (d : Int) := by omega
          have d1 : (d : Int) ≤ 255 := by omega
          have hconv := one_text c Wx
          rw [hcd] at hconv
          obtain ⟨C1, hC1⟩ : ∃ C1, bsOf [c] = C1 := ⟨_, rfl⟩
          have hC1s : C1.size = 1 := by rw [← hC1]; rfl
          rw [hC1] at hconv
          have HSN : Hid (T ++ C1 = bsOf (textTo more k (y + 1))) := by
            rw [← HTT.out, ← hC1, bsOf_append, textTo_succ, ho, hd, hcc]
            exact rfl
          have HD := hide hd
          have HB6 := hide (HBX.out.alloc HBX.out.size (.cells #[.int .u8 (d : Int)] 5))
          clear ho hd hcc hcd hC1
          go_wp2_with fail
          refine (pick_any code _ k Wx HC5.out (by omega)).mono ?_
          rintro e W6 ⟨rfl, rfl⟩
          rw [HPC.out]
          go_wp2_with fail
          refine (pick_any more _ o _ HM5.out (by omega)).mono ?_
          rintro e W7 ⟨rfl, rfl⟩
          rw [HD.out]
          go_wp2_with fail
          go_roundg (m - (y + 1))
          case measure => omega
          case rel => exact ⟨y + 1, by omega, rfl, by go_num, by rw [HSN.out], HB6.out⟩
        · obtain rfl : y = m := by omega
          have hyi : ¬ (y : Int) < (y : Int) := by omega
          go_wp2_with fail
          refine (pick_any code _ k Wx HC5.out (by omega)).mono ?_
          rintro e W6 ⟨rfl, rfl⟩
          rw [HPC.out]
          have htk : textTo more k y = TS.getD k [] := by
            rw [← HTS.out]
            have : (textsOf code more n).getD k [] = textOf code more k := by
              rw [List.getD_eq_getElem?_getD, List.getElem?_eq_getElem (by rw [textsOf_len]; exact hlt)]
              exact textsOf_get code more n k hlt
            rw [this]
            unfold textOf textTo
            rw [HPC.out, show pc % 90 = y from by rw [← HPC.out]; exact HMM.out]
          have hkl : k < TS.length := by rw [HTL.out]; exact hlt
          have hgk : TS.getD k [] = TS[k] := by rw [List.getD_eq_getElem?_getD, List.getElem?_eq_getElem hkl]; rfl
          have HTK : Hid (T = bsOf TS[k]) := by rw [← HTT.out, htk, hgk]; exact rfl
          have hsm : TS[k].length ≤ 89 := by rw [← hgk, ← htk, textTo_len]; exact hm89
          have HREC := hide (fun W => record_any T W (by omega))
          have hRR : recB T = bsOf (recL TS[k]) := by rw [HTK.out]; exact recB_bs _ (by omega)
          obtain ⟨R, hR⟩ : ∃ R, recB T = R := ⟨_, rfl⟩
          rw [hR] at HREC hRR
          have hzs : R.size = 32 * sectN TS[k].length := by rw [hRR, bsOf_size, recL_length]
          have hsp := sectN_pos TS[k].length
          have hRs : R.size ≤ 96 := by rw [hzs]; unfold sectN; omega
          have z1 : ¬ (R.size : Int) < 32 := by omega
          have z3 : (R.size : Int) % 32 = 0 := by omega
          have z2 : (R.size : Int).tmod 32 = 0 := by rw [Int.tmod_eq_emod_of_nonneg (by omega)]; exact z3
          have z4 : ((R.size : Int) % 32 != 0) = false := by rw [z3]; rfl
          have HIMG : Hid (G ++ R = bsOf (imgL (TS.take (k + 1)))) := by
            rw [← HG.out, hRR, bsOf_append, List.take_succ_eq_append_getElem hkl, imgL_snoc]
            exact rfl
          have HEND : Hid ((G ++ R).size = endL TS (k + 1)) := by rw [HIMG.out, bsOf_size]; exact rfl
          clear htk hgk hRR hR hzs hsm hsp
          go_wp2_with fail
          refine (HREC.out _).mono ?_
          rintro e W8 ⟨rfl, hb8⟩
          have HT8 := hide (HT.out.keep (bj hb8 HBX.out))
          clear hb8
          have hw8 := HT8.out.below.size
          have HT9 := hide (HT8.out.alloc (.cells #[.string T] 9))
          have HL6' : Hid (World.ownsRow (W8.alloc (.cells #[.string T] 9)) W0.heap.size 9 1 (.slice a6 k c6) k (XS.map Value.string)) := by have := HT9.out.texts; unfold TBuf at this; rw [HL6.out] at this; exact this
          obtain ⟨i1, hi1, hy0, hy1, hy2⟩ := info_parts info_string
          go_wp2_with (first
            | (at_builtin; refine wpList_append_own_at _ rfl _ _ 24 rfl W0.heap.size 9 i1 (.string ByteArray.empty) 1 16 Try.underlying24 hi1 hy0 hy1 hy2 rfl (by decide) _ _ _ rfl HL6'.out ⟨W8.heap.size, 0, none⟩ 1 1 [.string T] rfl rfl (new_cell _ _ _) (by intro u hu; simp at hu; subst hu; rfl) (by unfold maxLen; omega) (by omega) (by simp; omega) ?_)
            | fail)
          intro v9 W9 hown9 hgrow9 _ _
          have hT9 := HT9.out.text HL6.out.symm hown9 hgrow9
          obtain ⟨a9, c9, hf9, _, _⟩ := hT9.texts.form
          have hl9 : (XS ++ [T]).length = k + 1 := by rw [List.length_append, HL6.out]; rfl
          rw [hl9] at hf9
          subst hf9
          have HTA := hide hT9
          have hw9 := hT9.below.size
          obtain ⟨j1, hj1, hx0, hx1, hx2⟩ := info_parts info_int
          obtain ⟨E, hE⟩ : ∃ E, (G ++ R).size = E := ⟨_, rfl⟩
          have hEb : E ≤ 896 := by rw [← hE, ByteArray.size_append]; omega
          have HEE := hide hE
          have HTB := hide (hT9.alloc (.cells #[.int .i64 (E : Int)] 3))
          have HL8' : Hid (World.ownsRow (W9.alloc (.cells #[.int .i64 (E : Int)] 3)) W0.heap.size 3 1 (.slice a8 k c8) k (ES.map (Value.int .i64))) := by have := HTB.out.ends; unfold IBuf at this; rw [HL8.out] at this; exact this
          clear hown9 hgrow9 hT9 hl9
          go_wp2_with (first
            | (at_builtin; refine wpList_append_own_at _ rfl _ _ 25 rfl W0.heap.size 3 j1 (.int .i64 0) 1 8 Try.underlying25 hj1 hx0 hx1 hx2 rfl (by decide) _ _ _ rfl HL8'.out ⟨W9.heap.size, 0, none⟩ 1 1 [.int .i64 (E : Int)] rfl rfl (new_cell _ _ _) (by intro u hu; simp at hu; subst hu; rfl) (by unfold maxLen; omega) (by omega) (by simp; omega) ?_)
            | fail)
          intro v10 W10 hown10 hgrow10 _ _
          have hTC := HTB.out.ended HL8.out.symm hown10 hgrow10
          have HTC : Hid (TwoBuf W0 ((TS.take (k + 1)).map bsOf) ((List.range (k + 1)).map fun j => ((endL TS (j + 1) : Nat) : Int)) W10 (.slice a9 (k + 1) c9) v10) := by
            have e1 : (TS.take (k + 1)).map bsOf = XS ++ [T] := by rw [List.take_succ_eq_append_getElem hkl, List.map_append, HXS.out, HTK.out]; rfl
            have e2 : ((List.range (k + 1)).map fun j => ((endL TS (j + 1) : Nat) : Int)) = ES ++ [(E : Int)] := by rw [List.range_succ, List.map_append, HES.out, ← HEE.out, HEND.out]; rfl
            rw [e1, e2]
            exact hTC
          clear hown10 hgrow10 hTC
          go_wp2_with fail
          go_roundg (n - (k + 1))
          case measure => omega
          case rel => exact ⟨k + 1, by omega, rfl, by go_num, by rw [HIMG.out], HTC.out⟩
    · obtain rfl : k = n := by omega
      have hki : ¬ (k : Int) < (k : Int) := by omega
      have hsmall : ∀ t ∈ TS, t.length ≤ 60000 := by rw [← HTS.out]; exact textsOf_small _ _ _
      have hGL : G.data.toList = imgL TS := by
        rw [← HG.out, List.take_of_length_le (by rw [HTL.out]; exact Nat.le_refl _)]
        rfl
      have hXS : XS = TS.map bsOf := by rw [← HXS.out, List.take_of_length_le (by rw [HTL.out]; exact Nat.le_refl _)]
      have hES : ES = endsI TS := by rw [← HES.out]; unfold endsI; rw [HTL.out]
      have hG32 : 32 ≤ G.size := by
        have e : G.size = endL TS TS.length := by rw [endL_all, ← hGL]; simp
        have h1 : 32 ≤ endL TS 1 := by have := endL_lt TS 0 (by rw [HTL.out]; omega); rw [endL_zero] at this; simpa using this
        have h2 := endL_le TS (i := 1) (j := TS.length) (by rw [HTL.out]; exact hn1) (Nat.le_refl _)
        rw [e]
        omega
      have HGL := hide hGL
      have HSMALL := hide hsmall
      have HXE := hide hXS
      have HEE := hide hES
      have HALL := hide (log_all hGL hsmall)
      have HRA := hide (fun W => readLogI_any G W (by omega))
      rw [HALL.out.1, HALL.out.2, ← hXS] at HRA
      obtain ⟨bsT, oT, _⟩ := HT.out.texts.owned (fun x hx => by
        rw [hXS] at hx
        obtain ⟨l, hl, rfl⟩ := List.mem_map.1 hx
        have := hsmall l hl
        rw [bsOf_size]
        omega)
      have HST : Hid (StrsAt 0 Wr (.slice a6 k c6) XS) := OAt.toAt toAt_str oT (fun _ _ => Nat.zero_le _)
      have HIT : Hid (IntsAt W0.heap.size Wr (.slice a8 k c8) ES) := HT.out.ends.ints (by rw [HL8.out]; omega)
      have hGi : (32 : Int) ≤ (G.size : Int) := by omega
      clear oT hGL hsmall hXS hES
      go_wp2_with fail
      refine (HRA.out _).mono ?_
      rintro e W1 ⟨v13, rfl, hO13, hb1⟩
      have HSX : Hid (∀ x ∈ XS, x.size ≤ 9223372036854775807) := fun x hx => by
        rw [HXE.out] at hx
        obtain ⟨l, hl, rfl⟩ := List.mem_map.1 hx
        have := HSMALL.out l hl
        rw [bsOf_size]
        omega
      obtain ⟨bs13, o13, _⟩ := hO13.owned HSX.out
      have HS13 : Hid (StrsAt 0 W1 v13 XS) := OAt.toAt toAt_str o13 (fun _ _ => Nat.zero_le _)
      obtain ⟨a13, c13, hf13, _, _⟩ := hO13.form
      rw [HL6.out] at hf13
      subst hf13
      have HB1 := hide hb1
      have HS6 := hide (At.kept kept_str HST.out hb1)
      clear o13 hO13 hb1
      go_wp2_with fail
      refine (sameTexts_any XS _ _ W1 HS13.out HS6.out).mono ?_
      rintro e W2 ⟨rfl, hb2⟩
      have HB2 := hide (bj hb2 HB1.out)
      have HM2 := hide (At.kept kept_byte HM.out (bj HB2.out HBW.out))
      clear hb2
      go_wp2_with fail
      refine (pick_any more _ 1 W2 HM2.out (by omega)).mono ?_
      rintro e W3 ⟨rfl, rfl⟩
      obtain ⟨p1, hp1⟩ : ∃ p1, pickN more 1 = p1 := ⟨_, rfl⟩
      have hp16 : p1 ≤ 1000 := by rw [← hp1]; exact pickN_le _ _ (by omega)
      rw [hp1]
      clear hp1
      go_wp2_with fail
      refine (pick_any more _ 2 _ HM2.out (by omega)).mono ?_
      rintro e W4 ⟨rfl, rfl⟩
      obtain ⟨p2, hp2⟩ : ∃ p2, pickN more 2 = p2 := ⟨_, rfl⟩
      have hp26 : p2 ≤ 1000 := by rw [← hp2]; exact pickN_le _ _ (by omega)
      rw [hp2]
      clear hp2
      obtain ⟨s, hs⟩ : ∃ s, p1 * 256 + p2 = s := ⟨_, rfl⟩
      have s1 : (p1 : Int) * 256 + (p2 : Int) = (s : Int) := by omega
      have hs6 : s ≤ 300000 := by omega
      obtain ⟨a, ha⟩ : ∃ a, s % G.size = a := ⟨_, rfl⟩
      have haG : a < G.size := by rw [← ha]; exact Nat.mod_lt _ (by omega)
      have a1 : (s : Int) % (G.size : Int) = (a : Int) := by rw [← ha]; omega
      have a2 : (s : Int).tmod (G.size : Int) = (a : Int) := by rw [Int.tmod_eq_emod_of_nonneg (by omega)]; exact a1
      have a3 : ¬ (G.size : Int) = 0 := by omega
      have a4 : ((G.size : Int) == 0) = false := by simpa using a3
      obtain ⟨b, hb⟩ : ∃ b, a / 32 = b := ⟨_, rfl⟩
      have b1 : (a : Int) / 32 = (b : Int) := by omega
      have b2 : (a : Int).tdiv 32 = (b : Int) := by rw [Int.tdiv_eq_ediv_of_nonneg (by omega)]; exact b1
      obtain ⟨q, hq⟩ : ∃ q, 32 * b = q := ⟨_, rfl⟩
      have q1 : (b : Int) * 32 = (q : Int) := by omega
      have hGm : G.size % 32 = 0 := by
        have e : G.size = endL TS TS.length := by rw [endL_all, ← HGL.out]; simp
        rw [e]
        exact endL_mod TS _ (Nat.le_refl _)
      have hqG : q + 32 ≤ G.size := by omega
      obtain ⟨x, hx⟩ : ∃ x, q + 31 = x := ⟨_, rfl⟩
      obtain ⟨y, hy⟩ : ∃ y, q + 32 = y := ⟨_, rfl⟩
      have x1 : (q : Int) + 31 = (x : Int) := by omega
      have y1 : (q : Int) + 32 = (y : Int) := by omega
      have x2 : (x : Int) ≤ (G.size : Int) := by omega
      have y2 : (y : Int) ≤ (G.size : Int) := by omega
      have aG2 : (a : Int) ≤ (G.size : Int) := by omega
      obtain ⟨H, hH⟩ : ∃ H, G.extract 0 x ++ ⟨#[0]⟩ ++ G.extract y G.size = H := ⟨_, rfl⟩
      have hHL : H.data.toList = tornL G.data.toList b := by
        rw [← hH, ByteArray.data_append, ByteArray.data_append, Array.toList_append, Array.toList_append, rest_list]
        simp only [ByteArray.data_extract, Array.toList_extract, List.extract_eq_take_drop, List.drop_zero, Nat.sub_zero]
        unfold tornL
        rw [← hx, ← hy, ← hq]
      have hHs : H.size ≤ 1000 := by
        have e : H.data.toList.length = H.size := by simp
        rw [← e, hHL, torn_length _ _ (by have : G.data.toList.length = G.size := by simp
                                          omega)]
        simp
        omega
      have sz1 : (G.extract 0 x).size ≤ 1000 := by rw [ByteArray.size_extract]; omega
      have sz2 : (G.extract y G.size).size ≤ 1000 := by rw [ByteArray.size_extract]; omega
      have HTORN := hide (log_torn HGL.out HSMALL.out b (by omega) hHL)
      have HCUT := hide (log_cut HGL.out HSMALL.out a (by omega))
      clear hs ha hb hx hy hHL
      go_wp2_with fail
      go_cut [16] (fun v16 wx => v16 = .string H ∧ Below W4.heap.size W4 wx)
      case first =>
        go_quiet (fail)
        go_wp2_with fail
        go_meet
        case rel => exact ⟨rfl, below_drewN (Below.refl _ _) _⟩
      case rest =>
        obtain ⟨rfl, hb5⟩ := hcut
        obtain ⟨W5, rfl⟩ : ∃ x, x = wc := ⟨_, rfl⟩
        have HB5 := hide (bj hb5 HB2.out)
        clear hb5 hH sz1 sz2
        obtain ⟨C, hC⟩ : ∃ C, G.extract 0 a = C := ⟨_, rfl⟩
        have hCs : C.size = a := by rw [← hC, ByteArray.size_extract]; omega
        have HCE := hide hC
        rw [hC] at HCUT
        have HRC := hide (fun W => readLogI_any C W (by omega))
        have HRH := hide (fun W => readLogI_any H W (by omega))
        obtain ⟨n1, hn1'⟩ : ∃ n1, wholeN ES (a : Int) k = n1 := ⟨_, rfl⟩
        obtain ⟨n2, hn2'⟩ : ∃ n2, wholeN ES (q : Int) k = n2 := ⟨_, rfl⟩
        have hn1k : n1 ≤ k := by rw [← hn1']; exact whole_le _ _ _
        have hn2k : n2 ≤ k := by rw [← hn2']; exact whole_le _ _ _
        have HXC : Hid (logTexts C = XS.take n1) := by
          show _ = _
          rw [HCUT.out, HXE.out, ← hn1', HEE.out, HTL.out]
          exact List.map_take
        have HXH : Hid (logTexts H = XS.take n2) := by
          show _ = _
          rw [HTORN.out, HXE.out, ← hn2', HEE.out, HTL.out, hq]
          exact List.map_take
        rw [HXC.out] at HRC
        rw [HXH.out] at HRH
        obtain ⟨eC, heC⟩ : ∃ eC, endOf (recsA C) = eC := ⟨_, rfl⟩
        obtain ⟨eH, heH⟩ : ∃ eH, endOf (recsA H) = eH := ⟨_, rfl⟩
        rw [heC] at HRC
        rw [heH] at HRH
        have HW1 := hide (fun (u : Value) (W : World) (lo : Nat) (h : IntsAt lo W u ES) => whole_any ES u a W h (by rw [HL8.out]; omega))
        have HW2 := hide (fun (u : Value) (W : World) (lo : Nat) (h : IntsAt lo W u ES) => whole_any ES u q W h (by rw [HL8.out]; omega))
        rw [HL8.out, hn1'] at HW1
        rw [HL8.out, hn2'] at HW2
        have HN1 := hide hn1'
        clear hn1' hn2' heC heH hq
        go_wp2_with fail
        refine (HRC.out _).mono ?_
        rintro e W6 ⟨v17, rfl, hO17, hb6⟩
        have hx1 : (XS.take n1).length = n1 := by rw [List.length_take, HL6.out]; omega
        have hx2 : (XS.take n2).length = n2 := by rw [List.length_take, HL6.out]; omega
        have HX1 := hide hx1
        have HX2 := hide hx2
        obtain ⟨bs17, o17, _⟩ := hO17.owned (fun x hx => HSX.out x (List.mem_of_mem_take hx))
        have HO17 := hide o17
        obtain ⟨a17, c17, hf17, _, _⟩ := hO17.form
        rw [hx1] at hf17
        subst hf17
        have HB6 := hide (bj hb6 HB5.out)
        clear o17 hO17 hb6 hx1 hx2
        go_wp2_with fail
        refine (HRH.out _).mono ?_
        rintro e W7 ⟨v19, rfl, hO19, hb7⟩
        obtain ⟨bs19, o19, _⟩ := hO19.owned (fun x hx => HSX.out x (List.mem_of_mem_take hx))
        obtain ⟨a19, c19, hf19, _, _⟩ := hO19.form
        rw [HX2.out] at hf19
        subst hf19
        have HS19 : Hid (StrsAt 0 W7 (.slice a19 n2 c19) (XS.take n2)) := OAt.toAt toAt_str o19 (fun _ _ => Nat.zero_le _)
        have HS17 : Hid (StrsAt 0 W7 (.slice a17 n1 c17) (XS.take n1)) := OAt.toAt toAt_str (OAt.kept keptO_str HO17.out hb7.size (fun c hc => hb7.block c (OAt.lt ltO_str HO17.out c hc))) (fun _ _ => Nat.zero_le _)
        have HB7 := hide (bj hb7 HB6.out)
        have HI7 := hide (At.kept kept_int HIT.out (bj hb7 HB6.out))
        have HT7 := hide (At.kept kept_str HST.out (bj hb7 HB6.out))
        clear o19 hO19 hb7
        have hn1c : (n1 : Int) ≤ (c6 : Int) := by omega
        have hn2c : (n2 : Int) ≤ (c6 : Int) := by omega
        go_wp2_with fail
        refine (HW1.out _ W7 _ HI7.out).mono ?_
        rintro e W8 ⟨rfl, rfl⟩
        go_wp2_with fail
        refine (sameTexts_any (XS.take n1) _ _ W8 HS17.out (strs_take HT7.out n1 (by rw [HL6.out]; exact hn1k))).mono ?_
        rintro e W9 ⟨rfl, hb9⟩
        have HB9 := hide (bj hb9 HB7.out)
        have HI9 := hide (At.kept kept_int HI7.out hb9)
        have HS199 := hide (At.kept kept_str HS19.out hb9)
        have HT9 := hide (At.kept kept_str (strs_take HT7.out n2 (by rw [HL6.out]; exact hn2k)) hb9)
        clear hb9
        go_wp2_with fail
        refine (HW2.out _ W9 _ HI9.out).mono ?_
        rintro e W10 ⟨rfl, rfl⟩
        go_wp2_with fail
        refine (sameTexts_any (XS.take n2) _ _ _ HS199.out HT9.out).mono ?_
        rintro e W11 ⟨rfl, hb11⟩
        have HB11 := hide (bj hb11 HB9.out)
        have hp0b : Below W11.heap.size W11 (W11.alloc (Obj.cells #[] 3)) := (Below.refl _ _).alloc (Nat.le_refl _) _
        have HP0 := hide (IBuf.empty_lit W11 (Nat.le_refl _))
        obtain ⟨W12, hW12⟩ : ∃ W12, W11.alloc (Obj.cells #[] 3) = W12 := ⟨_, rfl⟩
        rw [hW12] at HP0 hp0b
        have HP0B := hide hp0b
        clear hb11 hp0b
        go_wp2_with fail
        go_loopg [21, 22] 30 (fun m v21 i wx => ∃ j : Nat, j ≤ 30 ∧ m = 30 - j ∧ i = .int .i64 (j : Int) ∧ IBuf W11.heap.size wx v21 (picksTo more j) ∧ Below W11.heap.size W11 wx)
        case atStart => exact ⟨0, Nat.zero_le _, rfl, rfl, HP0.out, HP0B.out⟩
        case round =>
          obtain ⟨j, hj, rfl, rfl, hI, hbx⟩ := hrel
          obtain ⟨Wx, rfl⟩ : ∃ x, x = wr := ⟨_, rfl⟩
          have HBX := hide hbx
          have HI := hide hI
          have hwx := hbx.size
          have HMX := hide (At.kept kept_byte HM.out (bj (bj hbx HB11.out) HBW.out))
          obtain ⟨V21, rfl⟩ : ∃ x, x = u21 := ⟨_, rfl⟩
          obtain ⟨a21, c21, hf21, _, _⟩ := hI.form
          have hlp : (picksTo more j).length = j := picksTo_len _ _
          rw [hlp] at hf21
          subst hf21
          have HLP := hide hlp
          obtain ⟨PS, hPS⟩ : ∃ PS, picksTo more j = PS := ⟨_, rfl⟩
          rw [hPS] at HI HLP
          have HPS := hide hPS
          clear hI hbx hlp hPS
          by_cases hj30 : j < 30
          · have hji : (j : Int) < 30 := by omega
            obtain ⟨o, ho⟩ : ∃ o, j + 3 = o := ⟨_, rfl⟩
            have o1 : (j : Int) + 3 = (o : Int) := by omega
            obtain ⟨d, hd⟩ : ∃ d, pickN more o = d := ⟨_, rfl⟩
            have hd6 : d ≤ 1000 := by rw [← hd]; exact pickN_le _ _ (by omega)
            obtain ⟨f, hf⟩ : ∃ f, d % 44 = f := ⟨_, rfl⟩
            have f1 : (d : Int).tmod 44 = (f : Int) := by rw [Int.tmod_eq_emod_of_nonneg (by omega)]; omega
            have f2 : (d : Int) % 44 = (f : Int) := by omega
            have hf44 : f ≤ 44 := by omega
            have HSN : Hid (picksTo more (j + 1) = PS ++ [(f : Int) - 4]) := by rw [picksTo_succ, HPS.out, ho, hd, hf]; exact rfl
            have HD := hide hd
            obtain ⟨j1, hj1, hx0, hx1, hx2⟩ := info_parts info_int
            obtain ⟨g, hg⟩ : ∃ g : Int, (f : Int) - 4 = g := ⟨_, rfl⟩
            rw [hg] at HSN
            have HIA : Hid (World.ownsRow (Wx.alloc (.cells #[.int .i64 g] 3)) W11.heap.size 3 1 (.slice a21 j c21) j (PS.map (Value.int .i64))) := by have := World.ownsRow.alloc HI.out (.cells #[.int .i64 g] 3); rw [HLP.out] at this; exact this
            clear ho hd hf
            go_wp2_with fail
            refine (pick_any more _ o Wx HMX.out (by omega)).mono ?_
            rintro e W13 ⟨rfl, rfl⟩
            rw [HD.out]
            go_wp2_with (first
              | (at_builtin; refine wpList_append_own_at _ rfl _ _ 25 rfl W11.heap.size 3 j1 (.int .i64 0) 1 8 Try.underlying25 hj1 hx0 hx1 hx2 rfl (by decide) _ _ _ rfl HIA.out ⟨W13.heap.size, 0, none⟩ 1 1 [.int .i64 g] rfl rfl (new_cell _ _ _) (by intro u hu; simp at hu; subst hu; rfl) (by unfold maxLen; omega) (by omega) (by simp; omega) ?_)
              | fail)
            intro v14 W14 hown14 hgrow14 _ _
            have HREL : Hid (IBuf W11.heap.size W14 v14 (picksTo more (j + 1)) ∧ Below W11.heap.size W11 W14) := by
              rw [HSN.out]
              refine ⟨?_, grown_below (HBX.out.alloc hwx _) HIA.out hgrow14⟩
              unfold IBuf
              rw [List.length_append, HLP.out]
              simpa using hown14
            clear hown14 hgrow14
            go_wp2_with fail
            go_roundg (30 - (j + 1))
            case measure => omega
            case rel => exact ⟨j + 1, by omega, rfl, by go_num, HREL.out.1, HREL.out.2⟩
          · obtain rfl : j = 30 := by omega
            have hji : ¬ ((30 : Nat) : Int) < 30 := by omega
            have HIP : Hid (IntsAt W11.heap.size Wx (.slice a21 30 c21) PS) := HI.out.ints (by rw [HLP.out]; omega)
            have HDC := hide (fun (u : Value) (W : World) (lo : Nat) (h : IntsAt lo W u PS) => crashI_any C G PS u W h (by omega) (by omega))
            obtain ⟨K, hK⟩ : ∃ K, crash C G PS = K := ⟨_, rfl⟩
            rw [hK] at HDC
            obtain ⟨g1, g2, g3, g4, g5⟩ := crash_img G a PS (by omega)
            rw [HCE.out, hK] at g1 g2 g3 g4 g5
            obtain ⟨c3, i1, i2, i3⟩ := log_crash HGL.out HSMALL.out a (by omega) PS
            rw [HCE.out, hK] at i3
            rw [HTL.out] at i1 i2
            rw [← HEE.out, HN1.out] at i2
            have HLK : Hid (logTexts K = XS.take c3) := by
              show _ = _
              rw [i3, HXE.out]
              exact List.map_take
            have hKC : K.extract 0 a = C := by
              apply bytes_ext
              rw [← HCE.out]
              simp only [ByteArray.data_extract, Array.toList_extract, List.extract_eq_take_drop, List.drop_zero, Nat.sub_zero]
              have e1 : K.data.toList.length = K.size := by simp
              have e2 : G.data.toList.length = G.size := by simp
              apply ext_getD
              · rw [List.length_take, List.length_take]; omega
              · intro x hx
                have hxa : x < a := by rw [List.length_take] at hx; omega
                rw [getD_take _ _ _ hxa, getD_take _ _ _ hxa]
                exact g4 x hxa
            have HG5 := hide g5
            have k1 : ¬ (K.size : Int) < (a : Int) := by omega
            have k2 : ¬ (G.size : Int) < (K.size : Int) := by omega
            have k3 : (a : Int) ≤ (K.size : Int) := by omega
            have HRK := hide (fun W => readLogI_any K W (by omega))
            rw [HLK.out] at HRK
            obtain ⟨eK, heK⟩ : ∃ eK, endOf (recsA K) = eK := ⟨_, rfl⟩
            rw [heK] at HRK
            clear hK g1 g4 g5 i3 heK
            go_wp2_with fail
            refine (HDC.out _ _ _ HIP.out).mono ?_
            rintro e W15 ⟨rfl, hb15⟩
            obtain ⟨W16, hW16⟩ : ∃ W16, W15.alloc (.cells #[.string K, .string K] 32) = W16 := ⟨_, rfl⟩
            have bel16 : Below W15.heap.size W15 W16 := by rw [← hW16]; exact (Below.refl _ _).alloc (Nat.le_refl _) _
            have HK16 : Hid (∀ X, Below W16.heap.size W16 X → X.cell? ⟨W15.heap.size, 0, none⟩ = some (.string K) ∧ X.cell? ⟨W15.heap.size, 1, none⟩ = some (.string K)) := fun X h => by
              have hsz : W16.heap.size = W15.heap.size + 1 := by rw [← hW16]; simp
              refine ⟨?_, ?_⟩ <;> exact (h.cell (by rw [hsz]; simp)).trans (by rw [← hW16]; simp)
            have HB16 := hide (bj (bj bel16 hb15) (bj HBX.out HB11.out))
            clear hb15 bel16
            go_upto_region 36 with fail
            obtain ⟨t0, t1⟩ := HK16.out W16 (Below.refl _ _)
            have hd1 : decide ((K.size : Int) < (a : Int)) = false := decide_eq_false (by omega)
            have hd1' : decide (K.size < a) = false := decide_eq_false (by omega)
            have hd2 : decide ((G.size : Int) < (K.size : Int)) = false := decide_eq_false (by omega)
            have hd2' : decide (G.size < K.size) = false := decide_eq_false (by omega)
            have hd3 : (C.toList != C.toList) = false := by simp
            have hd4 : (K.toList != K.toList) = false := by simp
            go_cut [208] (fun v208 wx => v208 = .bool false ∧ Below W16.heap.size W16 wx)
            case first =>
              go_quiet (fail)
              go_wp2_with fail
              go_meet
              case rel => exact ⟨rfl, below_drewN (Below.refl _ _) _⟩
            case rest =>
              obtain ⟨rfl, hb17⟩ := hcut
              obtain ⟨W17, rfl⟩ : ∃ x, x = wc := ⟨_, rfl⟩
              have HB17 := hide hb17
              clear hd1 hd1' hd2 hd2' hd3 hd4 t0 t1 hb17 hKC
              go_wp2_with fail
              go_loopg [24] (K.size - a) (fun m i wx => ∃ x : Nat, a ≤ x ∧ x ≤ K.size ∧ m = K.size - x ∧ i = .int .i64 (x : Int) ∧ Below W16.heap.size W16 wx)
              case atStart => exact ⟨a, Nat.le_refl _, by omega, rfl, rfl, HB17.out⟩
              case round =>
                obtain ⟨x, hx1, hx2, rfl, rfl, hbx⟩ := hrel
                obtain ⟨Wy, rfl⟩ : ∃ y, y = wr := ⟨_, rfl⟩
                have HBY := hide hbx
                obtain ⟨t0, t1⟩ := HK16.out Wy hbx
                clear hbx
                by_cases hxl : x < K.size
                · have x1 : (x : Int) < (K.size : Int) := by omega
                  have x2 : (x : Int) < (G.size : Int) := by omega
                  have hxG : x < G.size := by omega
                  obtain ⟨c, hc⟩ : ∃ c : Nat, (K[x]'hxl).toNat = c := ⟨_, rfl⟩
                  obtain ⟨d, hd⟩ : ∃ d : Nat, (G[x]'hxG).toNat = d := ⟨_, rfl⟩
                  have hor : c = d ∨ c = 0 := by
                    have := HG5.out x hxl
                    rw [byteD K x hxl, byteD G x hxG] at this
                    rcases this with h | h
                    · left; rw [← hc, ← hd, h]
                    · right; rw [← hc, h]; rfl
                  by_cases hcd : c = d
                  · have e1 : (c : Int) = (d : Int) := by omega
                    have e2 : ((c : Int) != (d : Int)) = false := by simp [e1]
                    clear hor
                    go_wp2_with fail
                    go_quiet (fail)
                    go_wp2_with fail
                    go_roundg (K.size - (x + 1))
                    case measure => omega
                    case rel => exact ⟨x + 1, by omega, by omega, rfl, by go_num, below_drewN HBY.out _⟩
                  · have hc0 : c = 0 := by omega
                    subst hc0
                    have e1 : ¬ ((0 : Nat) : Int) = (d : Int) := by omega
                    have e1' : ¬ (0 : Int) = (d : Int) := by omega
                    have e2 : (((0 : Nat) : Int) != (d : Int)) = true := by simpa using e1
                    have e2' : ((0 : Int) != (d : Int)) = true := by simpa using e1'
                    clear hor hcd
                    go_wp2_with fail
                    go_quiet (fail)
                    go_wp2_with fail
                    go_roundg (K.size - (x + 1))
                    case measure => omega
                    case rel => exact ⟨x + 1, by omega, by omega, rfl, by go_num, below_drewN HBY.out _⟩
                · obtain rfl : x = K.size := by omega
                  have x1 : ¬ (K.size : Int) < (K.size : Int) := by omega
                  have HB18 := hide (bj HBY.out HB16.out)
                  go_wp2_with fail
                  refine (HRK.out _).mono ?_
                  rintro e W18 ⟨v25, rfl, hO25, hb18⟩
                  have hx3 : (XS.take c3).length = c3 := by rw [List.length_take, HL6.out]; omega
                  obtain ⟨bs25, o25, _⟩ := hO25.owned (fun x hx => HSX.out x (List.mem_of_mem_take hx))
                  have HS25 : Hid (StrsAt 0 W18 v25 (XS.take c3)) := OAt.toAt toAt_str o25 (fun _ _ => Nat.zero_le _)
                  obtain ⟨a25, c25, hf25, _, _⟩ := hO25.form
                  rw [hx3] at hf25
                  subst hf25
                  have HB19 := hide (bj hb18 HB18.out)
                  have HI18 := hide (At.kept kept_int HIT.out (bj hb18 HB18.out))
                  have HT18 := hide (At.kept kept_str HST.out (bj hb18 HB18.out))
                  have m1 : (n1 : Int) ≤ (c3 : Int) := by omega
                  have m2 : (c3 : Int) ≤ (k : Int) := by omega
                  have m3 : (c3 : Int) ≤ (c6 : Int) := by omega
                  clear o25 hO25 hb18 hx3 t0 t1
                  go_wp2_with fail
                  refine (HW1.out _ W18 _ HI18.out).mono ?_
                  rintro e W19 ⟨rfl, rfl⟩
                  go_wp2_with fail
                  refine (sameTexts_any (XS.take c3) _ _ _ HS25.out (strs_take HT18.out c3 (by rw [HL6.out]; exact i1))).mono ?_
                  rintro e W20 ⟨rfl, hb20⟩
                  have HB20 := hide (bj (bj hb20 HB19.out) HBW.out)
                  clear hb20
                  go_wp2_with fail
                  go_ret
                  exact ⟨rfl, HB20.out⟩
end Go.Proofs.Ytjpdgcodjnnljaa.Msg
