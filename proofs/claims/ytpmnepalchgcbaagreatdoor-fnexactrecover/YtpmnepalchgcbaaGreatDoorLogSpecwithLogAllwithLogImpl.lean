import Derived.Test.YtpmnepalchgcbaaGreatDoorLogPurewithLogBldwithLogFirst
import Derived.Test.YtpmnepalchgcbaaGreatDoorTblSzwithMarkTextwithMarkData
import Derived.Test.YtpmnepalchgcbaaGreatDoorMsgEqwithMsgEq2withMsgTo
namespace Go.Proofs.YtpmnepalchgcbaaGreatDoor.Msg
open Go.ChangeShapes Go.WideShapes Go.ChangeAt Go.RowKit Go.Shelf
set_option linter.unusedVariables false
set_option linter.unusedSimpArgs false

def readV (img : ByteArray) (a : Nat) : Value := match firstB (img.extract a img.size) with
  | some p => .tuple #[.string p.1, .int .i64 ((a + p.2 : Nat) : Int)]
  | none => .tuple #[.string ⟨#[]⟩, .int .i64 (-1)]
theorem rest_list (img : ByteArray) (a : Nat) : (img.extract a img.size).data.toList = img.data.toList.drop a := by
  simp only [ByteArray.data_extract, Array.toList_extract, List.extract_eq_take_drop]
  rw [List.take_of_length_le (by simp)]
theorem rest_get (img : ByteArray) (a i : Nat) (h : a + i < img.size) : (img.extract a img.size).data.toList.getD i 0 = img[a + i] := by
  rw [rest_list, List.getD_eq_getElem?_getD, List.getElem?_drop, List.getElem?_eq_getElem (by simpa using h)]
  rfl

/-- the text of a part of a slice of bytes -/
theorem Buf.string_part {base : Nat} {w : World} {bs : List UInt8} {g c o n d : Nat} (hc : ∀ j, j < bs.length → w.cell? ⟨g, j, none⟩ = some (.int .u8 ((bs.getD j 0).toNat : Int))) (hon : o + n ≤ bs.length) :
    Sem.run Tryz.prog (convert 80 9 (.slice (some ⟨g, o, none⟩) n d)) w = .ok (.string ⟨((bs.drop o).take n).toArray⟩) w := by
  rw [run_convert_bytes_arg w 80 5 Tryz.underlying80 Tryz.underlying5 g o n d (((bs.drop o).take n).map fun c => (c.toNat : Int)) (by simp; omega) ?_ 9 Tryz.underlying9]
  · congr 2
    unfold strOfNums
    congr 2
    rw [List.map_map]
    conv => rhs; rw [← List.map_id ((bs.drop o).take n)]
    apply List.map_congr_left
    intro c _
    simp
  · intro i hi
    have hi' : i < n := hi
    rw [hc (o + i) (by omega)]
    simp [List.getD_eq_getElem?_getD, List.getElem?_take, List.getElem?_drop, hi', show o + i < bs.length by omega]

set_option maxRecDepth 100000 in
set_option maxHeartbeats 4000000 in
theorem l4Read_any (img : ByteArray) (a : Nat) (w : World) (hI : img.size ≤ 1048576) (ha : a ≤ img.size) :
    Calls Tryz.prog 22 #[.string img, .int .i64 (a : Int)] w fun e w' => e = .returned (readV img a) ∧ Below w.heap.size w w' := by
  obtain ⟨i0, hi, hz0, hz1, hz2⟩ := u8_facts
  obtain ⟨J, hJ⟩ : ∃ J, img.extract a img.size = J := ⟨_, rfl⟩
  have hJs : J.size = img.size - a := by rw [← hJ, ByteArray.size_extract]; omega
  by_cases h32 : (img.size : Int) < (a : Int) + 32
  · have HX : Hid (readV img a = .tuple #[.string ⟨#[]⟩, .int .i64 (-1)]) := by unfold readV; rw [firstB_at_end img a (by omega)]; exact rfl
    clear hJ hJs
    go_enter Tryz.func22, Tryz.ntmps22
    go_wp2_with fail
    go_ret2
    exact ⟨by rw [HX.out]; rfl, Below.refl _ _⟩
  · have h0 : (a : Int) < (img.size : Int) := by omega
    have ha0 : a < img.size := by omega
    obtain ⟨a1, ha1⟩ : ∃ a1, a + 1 = a1 := ⟨_, rfl⟩
    obtain ⟨a2, ha2⟩ : ∃ a2, a + 2 = a2 := ⟨_, rfl⟩
    have i1 : (a : Int) + 1 = (a1 : Int) := by omega
    have i2 : (a : Int) + 2 = (a2 : Int) := by omega
    have j1 : (a1 : Int) < (img.size : Int) := by omega
    have j2 : (a2 : Int) < (img.size : Int) := by omega
    have k1 : a1 < img.size := by omega
    have k2 : a2 < img.size := by omega
    obtain ⟨n, hn⟩ : ∃ n, sizeL J.data.toList = n := ⟨_, rfl⟩
    have hn6 : n ≤ 16777215 := by rw [← hn]; exact sizeL_le _
    have HN : Hid (((img[a]'ha0).toNat : Int) + ((img[a1]'k1).toNat : Int) * 256 + ((img[a2]'k2).toNat : Int) * 65536 = (n : Int)) := by
      show _ = _
      rw [← hn, ← hJ]
      unfold sizeL
      have e0 := rest_get img a 0 (by omega)
      have e1 := rest_get img a 1 (by omega)
      have e2 := rest_get img a 2 (by omega)
      rw [e0, e1, e2]
      subst ha1 ha2
      simp only [Nat.add_zero]
      omega
    obtain ⟨c0, hc0⟩ : ∃ c : Nat, (img[a]'ha0).toNat = c := ⟨_, rfl⟩
    obtain ⟨c1, hc1⟩ : ∃ c : Nat, (img[a1]'k1).toNat = c := ⟨_, rfl⟩
    obtain ⟨c2, hc2⟩ : ∃ c : Nat, (img[a2]'k2).toNat = c := ⟨_, rfl⟩
    have l0 : c0 < 256 := by rw [← hc0]; exact UInt8.toNat_lt _
    have l1 : c1 < 256 := by rw [← hc1]; exact UInt8.toNat_lt _
    have l2 : c2 < 256 := by rw [← hc2]; exact UInt8.toNat_lt _
    rw [hc0, hc1, hc2] at HN
    have HD := hide (⟨hJ, hJs, hn⟩ : img.extract a img.size = J ∧ J.size = img.size - a ∧ sizeL J.data.toList = n)
    clear hJ hJs hn ha1 ha2
    go_enter Tryz.func22, Tryz.ntmps22
    go_upto_region 3 with fail
    go_cut [6] (fun v6 wx => v6 = .int .i64 (n : Int) ∧ Below w.heap.size w wx)
    case first =>
      go_quiet (fail)
      go_wp2_with fail
      go_meet
      case rel => exact ⟨by rw [HN.out], below_drewN (Below.refl _ _) _⟩
    case rest =>
      obtain ⟨rfl, hb⟩ := hcut
      obtain ⟨Wc, rfl⟩ : ∃ x, x = wc := ⟨_, rfl⟩
      have HB := hide hb
      clear hb hc0 hc1 hc2 l0 l1 l2 i1 i2 j1 j2 k1 k2
      by_cases hbig : (60000 : Int) < (n : Int)
      · have HX : Hid (readV img a = .tuple #[.string ⟨#[]⟩, .int .i64 (-1)]) := by unfold readV; rw [HD.out.1, firstB_big J (by rw [HD.out.2.2]; omega)]; exact rfl
        go_wp2_with fail
        go_ret2
        exact ⟨by rw [HX.out]; rfl, HB.out⟩
      · obtain ⟨m, hm⟩ : ∃ m, sectN n = m := ⟨_, rfl⟩
        have hm6 : m ≤ 2000 := by rw [← hm]; unfold sectN; omega
        have d1 : ((n : Int) + 3 + 30).tdiv 31 = (m : Int) := by rw [Int.tdiv_eq_ediv_of_nonneg (by omega), ← hm]; unfold sectN; omega
        have d2 : ((n : Int) + 3 + 30) / 31 = (m : Int) := by rw [← hm]; unfold sectN; omega
        obtain ⟨k, hk⟩ : ∃ k, 32 * m = k := ⟨_, rfl⟩
        have hk6 : k ≤ 64000 := by omega
        have e1 : (m : Int) * 32 = (k : Int) := by omega
        have HM := hide (⟨hm, hk⟩ : sectN n = m ∧ 32 * m = k)
        clear hm hk
        by_cases hlong : (img.size : Int) < (a : Int) + (k : Int)
        · have HX : Hid (readV img a = .tuple #[.string ⟨#[]⟩, .int .i64 (-1)]) := by
            unfold readV
            rw [HD.out.1]
            unfold firstB
            rw [if_neg (by rw [HD.out.2.1]; omega), if_pos (by rw [HD.out.2.2, HM.out.1, HM.out.2, HD.out.2.1]; omega)]
            exact rfl
          go_wp2_with fail
          go_ret2
          exact ⟨by rw [HX.out]; rfl, HB.out⟩
        · obtain ⟨L, hL⟩ : ∃ L, 31 * m = L := ⟨_, rfl⟩
          have e2 : (m : Int) * 31 = (L : Int) := by omega
          have hL6 : L ≤ 62000 := by omega
          have HE0 := hide (Buf.empty_lit Wc)
          obtain ⟨w5, hw5⟩ : ∃ w5, Wc.alloc (Obj.cells #[] 5) = w5 := ⟨_, rfl⟩
          have bel5 : Below Wc.heap.size Wc w5 := by rw [← hw5]; exact (Below.refl _ _).alloc (Nat.le_refl _) _
          rw [hw5] at HE0
          have HBEL5 := hide bel5
          have HL := hide hL
          clear bel5 hL
          go_wp2_with fail
          go_loopg [8, 9] L (fun q v8 i wx => ∃ j : Nat, j ≤ L ∧ q = L - j ∧ i = .int .i64 (j : Int) ∧ Buf Wc.heap.size wx v8 (plainU J.data.toList j) ∧ Below Wc.heap.size Wc wx)
          case atStart => exact ⟨0, Nat.zero_le _, rfl, rfl, HE0.out, HBEL5.out⟩
          case round =>
            obtain ⟨j, hj, rfl, rfl, hOx, hbx⟩ := hrel
            obtain ⟨W5, rfl⟩ : ∃ x, x = wr := ⟨_, rfl⟩
            have hfx := hOx.form
            have hml : (plainU J.data.toList j).length ≤ 62000 := by rw [plainU_length]; omega
            have HOX := hide hOx
            have HBX := hide hbx
            have hwx := hbx.size
            by_cases hjl : j < L
            · have hji : (j : Int) < (L : Int) := by omega
              obtain ⟨o, ho⟩ : ∃ o, j / 31 * 32 + j % 31 = o := ⟨_, rfl⟩
              obtain ⟨q1, hq1⟩ : ∃ q1, j / 31 = q1 := ⟨_, rfl⟩
              obtain ⟨r1, hr1⟩ : ∃ r1, j % 31 = r1 := ⟨_, rfl⟩
              have t1 : (j : Int).tdiv 31 = (q1 : Int) := by rw [Int.tdiv_eq_ediv_of_nonneg (by omega)]; omega
              have t2 : (j : Int).tmod 31 = (r1 : Int) := by rw [Int.tmod_eq_emod_of_nonneg (by omega)]; omega
              have t3 : (j : Int) / 31 = (q1 : Int) := by omega
              have t4 : (j : Int) % 31 = (r1 : Int) := by omega
              have hq16 : q1 ≤ 62000 := by omega
              have hr16 : r1 ≤ 31 := by omega
              have hok : a + o < img.size := by
                have := HL.out; have := HM.out.2
                omega
              obtain ⟨x, hx⟩ : ∃ x, a + o = x := ⟨_, rfl⟩
              have t5 : (a : Int) + (q1 : Int) * 32 + (r1 : Int) = (x : Int) := by omega
              have hxi : (x : Int) < (img.size : Int) := by omega
              have hxn : x < img.size := by omega
              obtain ⟨c, hc⟩ : ∃ c : UInt8, img[x]'hxn = c := ⟨_, rfl⟩
              have HSTEP : Hid (plainU J.data.toList (j + 1) = plainU J.data.toList j ++ [c]) := by
                show _ = _
                conv => lhs; unfold plainU
                rw [ho, ← HD.out.1, rest_get img a o hok, ← hc]
                subst hx
                rfl
              have HBA := hide (World.ownsRow.alloc HOX.out (Obj.cells #[.int .u8 (c.toNat : Int)] 5))
              obtain ⟨V8, rfl⟩ : ∃ x, x = u8 := ⟨_, rfl⟩
              obtain ⟨a8, c8, rfl, _, _⟩ := hfx
              clear hOx hbx ho hq1 hr1 hx hok
              go_wp2_with (first
                | (at_builtin; refine wpList_append_own_at _ rfl _ _ 80 rfl Wc.heap.size 5 i0 (.int .u8 0) 1 1 Tryz.underlying80 hi hz0 hz1 hz2 rfl (by decide) _ _ _ rfl HBA.out ⟨W5.heap.size, 0, none⟩ 1 1 [.int .u8 (c.toNat : Int)] rfl rfl (new_cell _ _ _) (one_u8 _) (by unfold maxLen; omega) (by omega) (by simp; omega) ?_)
                | fail)
              intro v6 w6 hown6 hgrow6 _ _
              have R6 := Buf.more (c := c) HOX.out hwx rfl hown6 hgrow6
              rw [← HSTEP.out] at R6
              have HR6 := hide R6
              clear hown6 hgrow6 R6
              go_wp2_with fail
              go_roundg (L - (j + 1))
              case measure => omega
              case rel => exact ⟨j + 1, by omega, rfl, by go_num, HR6.out.1, HBX.out.trans HR6.out.2⟩
            · obtain rfl : j = L := by omega
              have hji : ¬ (j : Int) < (j : Int) := by omega
              have hk32 : 32 ≤ k := by have := HM.out; have h := this.1; have h2 := this.2; unfold sectN at h; omega
              have hkJ : k ≤ J.size := by have := HD.out.2.1; omega
              have hnL : 3 + n ≤ j := by have := HM.out.1; have h2 := HL.out; unfold sectN at this; omega
              have hplen : (plainU J.data.toList j).length = j := plainU_length _ _
              have hpeq : plainU J.data.toList j = unmC J.data.toList m := by rw [← HL.out]; exact plain_eq _ _ (by simp; have := HM.out.2; omega)
              obtain ⟨g8, c8, rfl, hc8, hcm8, hgb8, hgl8, hcell8⟩ := hOx.cells (by omega)
              have hstr := Buf.string_part (base := Wc.heap.size) (c := c8) (o := 3) (n := n) (d := c8 - 3) hcell8 (by omega)
              obtain ⟨T, hT⟩ : ∃ T, recText J = T := ⟨_, rfl⟩
              have hTT : (⟨(((plainU J.data.toList j).drop 3).take n).toArray⟩ : ByteArray) = T := by
                rw [← hT, hpeq]
                unfold recText textL
                rw [HD.out.2.2, HM.out.1]
              rw [hTT] at hstr
              have hTs : T.size = n := by rw [← hT, recText_size J (by rw [HD.out.2.2, HM.out.1, HM.out.2]; exact hkJ), HD.out.2.2]
              have HRC := hide (fun W => recS_any T W (by omega))
              obtain ⟨y, hy⟩ : ∃ y, a + k = y := ⟨_, rfl⟩
              have y1 : (a : Int) + (k : Int) = (y : Int) := by omega
              have y2 : (a : Int) ≤ (y : Int) := by omega
              have y3 : (y : Int) ≤ (img.size : Int) := by omega
              obtain ⟨P, hP⟩ : ∃ P, img.extract a y = P := ⟨_, rfl⟩
              have hPJ : J.extract 0 k = P := by
                rw [← hP, ← HD.out.1]
                apply bytes_ext
                simp only [ByteArray.data_extract, Array.toList_extract, List.extract_eq_take_drop, List.drop_zero, Nat.sub_zero, List.take_take]
                rw [Nat.min_eq_left (by have := HD.out.2.1; omega), show y - a = k by omega]
              have HV : Hid (readV img a = if ((recB T).toList == P.toList) then .tuple #[.string T, .int .i64 (y : Int)] else .tuple #[.string ⟨#[]⟩, .int .i64 (-1)]) := by
                unfold readV
                rw [HD.out.1]
                unfold firstB
                rw [if_neg (by omega), if_neg (by rw [HD.out.2.2, HM.out.1, HM.out.2]; omega), HD.out.2.2, HM.out.1, HM.out.2, hT, hPJ, ← hy]
                show _ = _
                cases ((recB T).toList == P.toList) <;> rfl
              obtain ⟨R, hR⟩ : ∃ R, recB T = R := ⟨_, rfl⟩
              rw [hR] at HV HRC
              have hj0 : (j : Int) ≤ (c8 : Int) := by omega
              obtain ⟨p, hp⟩ : ∃ p, 3 + n = p := ⟨_, rfl⟩
              have p1 : (3 : Int) + (n : Int) = (p : Int) := by omega
              have p2 : (3 : Int) ≤ (p : Int) := by omega
              have p3 : (p : Int) ≤ (c8 : Int) := by omega
              have p4 : p - 3 = n := by omega
              have HB5 := hide (HB.out.trans (hbx.mono HB.out.size))
              clear hOx hbx hfx HOX hplen hpeq hTT hT hTs hR hy hPJ hp hcell8
              go_wp2_with fail
              have wk : IntKind.i64.wrap (k : Int) = (k : Int) := by rw [IntKind.wrap_i64]; omega
              have wy : IntKind.i64.wrap (y : Int) = (y : Int) := by rw [IntKind.wrap_i64]; omega
              cases hcmp : (R.toList == P.toList)
              · have HX : Hid (readV img a = .tuple #[.string ⟨#[]⟩, .int .i64 (-1)]) := by rw [HV.out, hcmp]; exact rfl
                go_region_held3 (fun X => Below W5.heap.size W5 X)
                  (first | exact (Below.refl _ _).drew | exact hb7)
                  (first | (go_at_call 51; refine (HRC.out _).mono ?_; rintro e2 w7 ⟨rfl, hb2⟩; have hb7 : Below W5.heap.size W5 w7 := bj hb2 ((Below.refl _ _).drew)))
                have HB7 := hide (bj hb7 HB5.out)
                clear hb7
                go_wp2_with fail
                go_ret2
                exact ⟨by rw [HX.out]; rfl, HB7.out⟩
              · have HX : Hid (readV img a = .tuple #[.string T, .int .i64 (y : Int)]) := by rw [HV.out, hcmp]; exact rfl
                go_region_held3 (fun X => Below W5.heap.size W5 X)
                  (first | exact (Below.refl _ _).drew | exact hb7)
                  (first | (go_at_call 51; refine (HRC.out _).mono ?_; rintro e2 w7 ⟨rfl, hb2⟩; have hb7 : Below W5.heap.size W5 w7 := bj hb2 ((Below.refl _ _).drew)))
                have HB7 := hide (bj hb7 HB5.out)
                clear hb7
                go_wp2_with fail
                go_ret2
                exact ⟨by rw [HX.out]; rfl, HB7.out⟩
end Go.Proofs.YtpmnepalchgcbaaGreatDoor.Msg

namespace Go.Proofs.YtpmnepalchgcbaaGreatDoor.Msg
open Go.ChangeShapes Go.WideShapes Go.ChangeAt Go.RowKit Go.Shelf
set_option linter.unusedVariables false
set_option linter.unusedSimpArgs false

/-- a slice of texts that the call owns -/
def TBuf (base : Nat) (w : World) (v : Value) (xs : List ByteArray) : Prop := w.ownsRow base 9 1 v xs.length (xs.map Value.string)
theorem TBuf.form {base : Nat} {w : World} {v : Value} {xs : List ByteArray} (h : TBuf base w v xs) : ∃ a c, v = .slice a xs.length c ∧ xs.length ≤ c ∧ c ≤ 9223372036854775807 := by
  obtain ⟨_, ⟨rfl, h0⟩ | ⟨g, cap, cur, rfl, hg, _, hc, hm, _⟩⟩ := h
  · exact ⟨none, 0, by rw [h0], by omega, by omega⟩
  · exact ⟨_, _, rfl, hc, by unfold maxLen at hm; omega⟩
theorem TBuf.keep {base : Nat} {w w' : World} {v : Value} {xs : List ByteArray} (h : TBuf base w v xs) (hb : Below w.heap.size w w') : TBuf base w' v xs := by
  unfold TBuf at *
  obtain ⟨h0, ⟨rfl, h1⟩ | ⟨g, cap, cur, rfl, hg, hh, rest⟩⟩ := h
  · exact ⟨h0, .inl ⟨rfl, h1⟩⟩
  · exact ⟨h0, .inr ⟨g, cap, cur, rfl, hg, by rw [hb.block g (by rw [Array.getElem?_eq_some_iff] at hh; exact hh.1)]; exact hh, rest⟩⟩
theorem TBuf.empty_lit (w : World) : TBuf w.heap.size (w.alloc (Obj.cells #[] 9)) (.slice (some ⟨w.heap.size, 0, none⟩) 0 0) [] :=
  World.ownsRow_lit w #[] 0 (Nat.le_refl _) (by unfold maxLen; omega) rfl
theorem TBuf.ownB {base : Nat} {w : World} {v : Value} {xs : List ByteArray} (h : TBuf base w v xs) : base ≤ v.ownBlock.getD base := by
  obtain ⟨_, ⟨rfl, _⟩ | ⟨g, cap, cur, rfl, hg, _⟩⟩ := h
  · simp [Value.ownBlock]
  · simpa [Value.ownBlock] using hg
theorem TBuf.more {base : Nat} {w w' : World} {v v' : Value} {xs : List ByteArray} {x : ByteArray} {o : Obj} (hv : TBuf base w v xs) (hbase : base ≤ w.heap.size) {n : Nat} (hl : n = xs.length) (h : w'.ownsRow base 9 1 v' (n + 1) (xs.map Value.string ++ [.string x])) (hg : (w.alloc o).grownBy w' v.ownBlock) :
    TBuf base w' v' (xs ++ [x]) ∧ Below base w w' := by
  subst hl
  refine ⟨by unfold TBuf; simpa using h, ((Below.refl base w).alloc hbase o).trans ⟨hg.os, hg.tape, hg.output, hg.size, fun k hk => hg.block k (by rw [Deep.nblk_alloc]; omega) ?_⟩⟩
  have := hv.ownB
  intro e
  rw [← e] at this
  simp at this
  omega
theorem TBuf.owned {base : Nat} {w : World} {v : Value} {xs : List ByteArray} (h : TBuf base w v xs) (hx : ∀ x ∈ xs, x.size ≤ 9223372036854775807) : ∃ bs, OStrs w v xs bs ∧ ∀ b ∈ bs, base ≤ b := by
  have h' := h
  obtain ⟨_, ⟨rfl, h0⟩ | ⟨g, cap, cur, rfl, hg, hh, hc, hm, hsz, htk⟩⟩ := h
  · have : xs = [] := List.length_eq_zero_iff.1 h0
    subst this
    exact ⟨[], ⟨by simp, .inl ⟨_, _, rfl, rfl, rfl⟩⟩, fun b hb => by simp at hb⟩
  · refine ⟨g :: (List.replicate xs.length []).flatten, ⟨by unfold maxLen at hm; omega, .inr ⟨g, 0, cap, List.replicate xs.length [], rfl, by rw [Array.getElem?_eq_some_iff] at hh; exact hh.1, rfl, by simp, fun i h1 h2 => ?_⟩⟩, fun b hb => ?_⟩
    · refine ⟨?_, ?_, hx _ (List.getElem_mem _), by simp⟩
      · have := World.ownsRow.cellAt h' i (by omega)
        rw [show 0 + i * 1 = i by omega, this]
        simp [h1]
      · simp [World.frozen?, hh]
    · simp at hb
      omega

def logTexts (img : ByteArray) : List ByteArray := (recsA img).map (·.1)
theorem texts_small (img : ByteArray) (k : Nat) : ∀ x ∈ (recsK img k).map (·.1), x.size ≤ 9223372036854775807 := fun x hx => by
  obtain ⟨p, hp, rfl⟩ := List.mem_map.1 hx
  have := (recsK_len img k).2.2.2 p hp
  omega
theorem texts_len (img : ByteArray) (k : Nat) : ((recsK img k).map (·.1)).length ≤ img.size := by
  have := recsK_len img k
  rw [List.length_map]
  omega

set_option maxRecDepth 100000 in
set_option maxHeartbeats 4000000 in
theorem readLogS_any (img : ByteArray) (w : World) (hI : img.size ≤ 1048576) :
    Calls Tryz.prog 9 #[.string img] w fun e w' => ∃ v, e = .returned (.tuple #[v, .int .i64 ((endOf (recsA img) : Nat) : Int)]) ∧ TBuf w.heap.size w' v (logTexts img) ∧ Below w.heap.size w w' := by
  obtain ⟨i0, hi, hz0, hz1, hz2⟩ := info_parts info_string
  have HE0 := hide (TBuf.empty_lit w)
  obtain ⟨w1, hw1⟩ : ∃ w1, w.alloc (Obj.cells #[] 9) = w1 := ⟨_, rfl⟩
  have bel1 : Below w.heap.size w w1 := by rw [← hw1]; exact (Below.refl _ _).alloc (Nat.le_refl _) _
  rw [hw1] at HE0
  have HB1 := hide bel1
  have hnot : ¬ (4194304 : Int) < (img.size : Int) := by omega
  clear bel1
  go_enter Tryz.func9, Tryz.ntmps9
  go_wp2_with fail
  go_loopg [4, 5] (img.size + 1) (fun q v4 a wx => ∃ k : Nat, (recsK img k).length = k ∧ q = img.size + 1 - endOf (recsK img k) ∧ a = .int .i64 ((endOf (recsK img k) : Nat) : Int) ∧ TBuf w.heap.size wx v4 ((recsK img k).map (·.1)) ∧ Below w.heap.size w wx)
  case atStart => exact ⟨0, rfl, rfl, rfl, HE0.out, HB1.out⟩
  case round =>
    obtain ⟨k, hk, rfl, rfl, hO, hb⟩ := hrel
    obtain ⟨W5, rfl⟩ : ∃ x, x = wr := ⟨_, rfl⟩
    have hfx := hO.form
    have HO := hide hO
    have HB := hide hb
    have hwx := hb.size
    have hk6 : k ≤ img.size := by have := recsK_full hk; omega
    have hlens := recsK_len img k
    have HK := hide hk
    obtain ⟨xs, hxs⟩ : ∃ xs, (recsK img k).map (·.1) = xs := ⟨_, rfl⟩
    have hxl : xs.length ≤ 1048576 := by rw [← hxs]; have := texts_len img k; omega
    obtain ⟨a, haE⟩ : ∃ a, endOf (recsK img k) = a := ⟨_, rfl⟩
    have ha : a ≤ img.size := by rw [← haE]; exact hlens.2.2.1
    rw [hxs] at hfx HO
    rw [haE]
    have HXS := hide hxs
    have HAE := hide haE
    obtain ⟨V4, rfl⟩ : ∃ x, x = u4 := ⟨_, rfl⟩
    obtain ⟨a4, c4, rfl, _, _⟩ := hfx
    have HDONE : Hid (firstB (img.extract a img.size) = none → TBuf w.heap.size W5 (.slice a4 xs.length c4) (logTexts img) ∧ endOf (recsA img) = a) := fun h => by
      have e := recsA_of (k := k) hk6 (by rw [HAE.out]; exact h)
      unfold logTexts
      rw [e, HXS.out, HAE.out]
      exact ⟨HO.out, rfl⟩
    clear hO hb hk hlens haE hxs hk6
    by_cases hlt : (a : Int) < (img.size : Int)
    · cases hf : firstB (img.extract a img.size) with
      | none =>
        have HRV : Hid (readV img a = .tuple #[.string ⟨#[]⟩, .int .i64 (-1)]) := by unfold readV; rw [hf]; exact rfl
        have HF := hide (HDONE.out hf)
        go_wp2_with fail
        refine (l4Read_any img a _ hI ha).mono ?_
        rintro e W6 ⟨rfl, hb6⟩
        rw [HRV.out]
        have HO6 : Hid (TBuf w.heap.size W6 (.slice a4 xs.length c4) (logTexts img) ∧ Below w.heap.size w W6) := ⟨HF.out.1.keep hb6, bj hb6 HB.out⟩
        clear hb6
        go_wp2_with fail
        go_ret2
        rw [HF.out.2]
        exact ⟨_, rfl, HO6.out.1, HO6.out.2⟩
      | some p =>
        obtain ⟨t, n⟩ := p
        have hs := firstB_some hf
        rw [ByteArray.size_extract] at hs
        obtain ⟨y, hy⟩ : ∃ y, a + n = y := ⟨_, rfl⟩
        have HRV : Hid (readV img a = .tuple #[.string t, .int .i64 (y : Int)]) := by unfold readV; rw [hf, ← hy]; exact rfl
        have hy0 : ¬ (y : Int) < 0 := by omega
        have HNX : Hid ((recsK img (k + 1)).length = k + 1 ∧ endOf (recsK img (k + 1)) = y ∧ (recsK img (k + 1)).map (·.1) = xs ++ [t]) := by
          have e := recsK_yes (img := img) (k := k) (t := t) (n := n) (by rw [HAE.out]; exact hf)
          rw [e, endOf_snoc, List.length_append, HK.out, List.map_append, HXS.out, HAE.out]
          exact ⟨rfl, hy, rfl⟩
        have hya : a + 32 ≤ y ∧ y ≤ img.size := by omega
        clear hy hf hs
        go_wp2_with fail
        refine (l4Read_any img a _ hI ha).mono ?_
        rintro e W6 ⟨rfl, hb6⟩
        rw [HRV.out]
        have hO6 := HO.out.keep hb6
        have HO6 : Hid (TBuf w.heap.size W6 (.slice a4 xs.length c4) xs) := hO6
        have HB6 := hide (bj hb6 HB.out)
        have HBA := hide (World.ownsRow.alloc hO6 (Obj.cells #[.string t] 9))
        have hw6 := (bj hb6 HB.out).size
        clear hb6 hO6
        go_wp2_with (first
          | (at_builtin; refine wpList_append_own_at _ rfl _ _ 29 rfl w.heap.size 9 i0 (.string ByteArray.empty) 1 16 Tryz.underlying29 hi hz0 hz1 hz2 rfl (by decide) _ _ _ rfl HBA.out ⟨W6.heap.size, 0, none⟩ 1 1 [.string t] rfl rfl (new_cell _ _ _) (by intro u hu; simp at hu; subst hu; rfl) (by unfold maxLen; omega) (by omega) (by simp; omega) ?_)
          | fail)
        intro v7 w7 hown7 hgrow7 _ _
        have R7 := TBuf.more (x := t) HO6.out hw6 rfl hown7 hgrow7
        have HR7 : Hid (TBuf w.heap.size w7 v7 ((recsK img (k + 1)).map (·.1)) ∧ Below w.heap.size w w7) := by rw [HNX.out.2.2]; exact ⟨R7.1, HB6.out.trans R7.2⟩
        clear hown7 hgrow7 R7
        go_wp2_with fail
        go_roundg (img.size + 1 - endOf (recsK img (k + 1)))
        case measure => rw [HNX.out.2.1, HAE.out]; omega
        case rel => exact ⟨k + 1, HNX.out.1, rfl, by rw [HNX.out.2.1], HR7.out.1, HR7.out.2⟩
    · have hf : firstB (img.extract a img.size) = none := firstB_at_end img a (by omega)
      have HF := hide (HDONE.out hf)
      go_wp2_with fail
      go_ret2
      rw [HF.out.2]
      exact ⟨_, rfl, HF.out.1, HB.out⟩
end Go.Proofs.YtpmnepalchgcbaaGreatDoor.Msg

namespace Go.Proofs.YtpmnepalchgcbaaGreatDoor.Msg
open Go.ChangeShapes Go.WideShapes Go.ChangeAt Go.RowKit Go.Shelf
set_option linter.unusedVariables false
set_option linter.unusedSimpArgs false
attribute [local go_sem] Oper.semAt_some

theorem grown_of_below {W W' : World} (h : Below W.heap.size W W') : W.grownBy W' none := ⟨h.os, h.tape, h.output, h.size, fun k hk _ => h.block k hk⟩

set_option maxHeartbeats 1000000 in
theorem records_in (s : ByteArray) (n : Nat) (w : World) :
    CallsIn Fence.wide n Tryz.prog 14 #[.string s] w fun e w' =>
      e = .returned (.func (.func 36) #[] #[.pointer (some ⟨w.heap.size, 0, none⟩)]) ∧ w' = w.alloc (.cells #[.string s] 9) := by
  refine callsIn_of_wp Tryz.func14 rfl trivial ?_ rfl
  simp only [Tryz.ntmps14, List.size_toArray, List.length_cons, List.length_nil, Nat.reduceAdd, Nat.reduceSub, Array.replicate_succ, Array.replicate_zero, List.push_toArray, List.append_toArray, List.nil_append, List.cons_append]
  gi_wp2
  go_ret
  exact ⟨rfl, rfl⟩

set_option maxRecDepth 100000 in
set_option maxHeartbeats 2000000 in
theorem records1_sz (n l Bi : Nat) (img : ByteArray) (hn : 1 ≤ n) (hI : img.size ≤ 1048576) (J Jx : List (ByteArray × Nat) → World → Prop) (W : World)
    (hJ : AbidesFrom W.heap.size J)
    (hY : ∀ pre x W1, J pre W1 → pre.length < 32769 → x.1.size ≤ 60000 → YieldAt Fence.wide (n - 1) Tryz.prog l #[.string x.1, .int .i64 ((x.2 : Nat) : Int)] W1 fun e W' =>
      (e = .returned (.bool true) ∧ J (pre ++ [x]) W' ∧ W'.heap[Bi]? = W1.heap[Bi]?) ∨ (e = .returned (.bool false) ∧ Jx (pre ++ [x]) W'))
    (hBi : W.heap[Bi]? = some (.cells #[.string img] 9 (0, 0))) (h0 : J [] W) :
    CallsIn Fence.wide n Tryz.prog 36 #[.func (.yield l) #[] #[], .pointer (some ⟨Bi, 0, none⟩)] W fun e W' => (∃ v, e = .returned v) ∧
      ((∃ ys, ys = recsA img ∧ J ys W') ∨ (∃ pre, (∃ k, pre = recsK img k) ∧ Jx pre W')) := by
  have HY := hide hY
  have HJ := hide hJ
  have hnot : ¬ (4194304 : Int) < (img.size : Int) := by omega
  have c0 : W.cell? ⟨Bi, 0, none⟩ = some (.string img) := by simp [World.cell?, hBi]
  clear hY hJ
  refine callsIn_of_wp Tryz.func36 rfl trivial ?_ rfl
  simp only [Tryz.ntmps36, List.size_toArray, List.length_cons, List.length_nil, Nat.reduceAdd, Nat.reduceSub, Array.replicate_succ, Array.replicate_zero, List.push_toArray, List.append_toArray, List.nil_append, List.cons_append]
  gi_wp2
  gi_loopw [3] (fun i wr => ∃ k : Nat, (recsK img k).length = k ∧ i = .int .i64 ((endOf (recsK img k) : Nat) : Int) ∧ J (recsK img k) wr ∧ wr.heap[Bi]? = some (.cells #[.string img] 9 (0, 0)))
    (fun i _ => img.size + 1 - (intOf i).toNat)
  case atStart => exact ⟨0, rfl, rfl, h0, hBi⟩
  case round =>
    obtain ⟨k, hk, rfl, hJs, hs1⟩ := hrel
    have c1 : wr.cell? ⟨Bi, 0, none⟩ = some (.string img) := by simp [World.cell?, hs1]
    have hlens := recsK_len img k
    have hk6 : k ≤ img.size := by have := recsK_full hk; omega
    obtain ⟨a, haE⟩ : ∃ a, endOf (recsK img k) = a := ⟨_, rfl⟩
    have ha : a ≤ img.size := by rw [← haE]; exact hlens.2.2.1
    rw [haE]
    have hai : (a : Int) ≤ (img.size : Int) := by omega
    obtain ⟨X, hX⟩ : ∃ X, img.extract a img.size = X := ⟨_, rfl⟩
    have hXs : X.size ≤ 1048576 := by rw [← hX, ByteArray.size_extract]; omega
    have HFR := hide (fun W => firstRecord_any X W hXs)
    cases hf : firstB X with
    | none =>
      have HRV : Hid (firstV X = .tuple #[.string ⟨#[]⟩, .int .i64 0]) := by unfold firstV; rw [hf]; exact rfl
      have HA : Hid (recsA img = recsK img k) := recsA_of hk6 (by rw [haE, hX]; exact hf)
      clear hf hlens haE
      gi_wp2_with fail
      refine ⟨trivial, ?_⟩
      refine (callsIn_wide.2 (HFR.out _)).mono ?_
      rintro e W2 ⟨rfl, hb2⟩
      rw [HRV.out]
      have hJ2 : J (recsA img) W2 := by rw [HA.out]; exact HJ.out _ _ _ _ hJs (grown_of_below hb2) (fun _ e => by cases e)
      have HJ2 := hide hJ2
      clear hJ2 hb2
      gi_wp2_with fail
      refine ⟨fun _ h => (by cases h), ?_⟩
      gi_wp2_with fail
      refine bodyPost_ret (results_none rfl _ _ _) rfl ?_
      exact ⟨⟨_, rfl⟩, .inl ⟨_, rfl, HJ2.out⟩⟩
    | some p =>
      obtain ⟨t, m⟩ := p
      have hs := firstB_some hf
      have htz : t.size ≤ 60000 := hs.2.2
      rw [← hX, ByteArray.size_extract] at hs
      have HRV : Hid (firstV X = .tuple #[.string t, .int .i64 (m : Int)]) := by unfold firstV; rw [hf]; exact rfl
      obtain ⟨y, hy⟩ : ∃ y, a + m = y := ⟨_, rfl⟩
      have y1 : (a : Int) + (m : Int) = (y : Int) := by omega
      have hm0 : ¬ (m : Int) = 0 := by omega
      have hmb : ((m : Int) == 0) = false := by simpa using hm0
      have HNX : Hid (recsK img (k + 1) = recsK img k ++ [(t, y)]) := by
        have e := recsK_yes (img := img) (k := k) (t := t) (n := m) (by rw [haE, hX]; exact hf)
        rw [e, haE, hy]
        exact rfl
      have hya : a + 32 ≤ y ∧ y ≤ img.size := by omega
      have hklen : (recsK img k).length < 32769 := by have := recsK_full hk; rw [hk]; omega
      have HE := hide haE
      clear hf hlens haE hs hy
      gi_wp2_with fail
      refine ⟨trivial, ?_⟩
      refine (callsIn_wide.2 (HFR.out _)).mono ?_
      rintro e W2 ⟨rfl, hb2⟩
      rw [HRV.out]
      have hJ2 : J (recsK img k) W2 := HJ.out _ _ _ _ hJs (grown_of_below hb2) (fun _ e => by cases e)
      have hs2 : W2.heap[Bi]? = some (.cells #[.string img] 9 (0, 0)) := (hb2.block Bi (by rw [Array.getElem?_eq_some_iff] at hs1; exact hs1.1)).trans hs1
      obtain ⟨fn, tmps, assign, body, hy, hR⟩ := HY.out (recsK img k) (t, y) W2 hJ2 hklen htz
      dsimp only at hy
      have HS2 := hide hs2
      clear hJ2 hb2 hs2
      gi_wp2_with fail
      refine hR.mono ?_
      rintro e W3 (⟨rfl, hJ3, hk3⟩ | ⟨rfl, hJx3⟩)
      · have hs3 : W3.heap[Bi]? = some (.cells #[.string img] 9 (0, 0)) := hk3.trans HS2.out
        have c3 : W3.cell? ⟨Bi, 0, none⟩ = some (.string img) := by simp [World.cell?, hs3]
        have HJ3 : Hid (J (recsK img (k + 1)) W3) := by rw [HNX.out]; exact hJ3
        have HL : Hid ((recsK img (k + 1)).length = k + 1 ∧ endOf (recsK img (k + 1)) = y) := by rw [HNX.out, endOf_snoc, List.length_append, hk]; exact ⟨rfl, rfl⟩
        have HS3 := hide hs3
        clear hJ3 hk3 hs3
        gi_wp2_with fail
        go_roundw
        case rel => exact ⟨k + 1, HL.out.1, by rw [HL.out.2], HJ3.out, HS3.out⟩
        case measure => simp [intOf]; omega
      · have HJX := hide hJx3
        clear hJx3
        gi_wp2_with fail
        refine bodyPost_ret (results_none rfl _ _ _) rfl ?_
        exact ⟨⟨_, rfl⟩, .inr ⟨_, ⟨k + 1, HNX.out.symm⟩, HJX.out⟩⟩

theorem records1_in (n l Bi : Nat) (img : ByteArray) (hn : 1 ≤ n) (hI : img.size ≤ 1048576) (J Jx : List (ByteArray × Nat) → World → Prop) (W : World)
    (hJ : AbidesFrom W.heap.size J)
    (hY : ∀ pre x W1, J pre W1 → pre.length < 1048577 → YieldAt Fence.wide (n - 1) Tryz.prog l #[.string x.1, .int .i64 ((x.2 : Nat) : Int)] W1 fun e W' =>
      (e = .returned (.bool true) ∧ J (pre ++ [x]) W' ∧ W'.heap[Bi]? = W1.heap[Bi]?) ∨ (e = .returned (.bool false) ∧ Jx (pre ++ [x]) W'))
    (hBi : W.heap[Bi]? = some (.cells #[.string img] 9 (0, 0))) (h0 : J [] W) :
    CallsIn Fence.wide n Tryz.prog 36 #[.func (.yield l) #[] #[], .pointer (some ⟨Bi, 0, none⟩)] W fun e W' => (∃ v, e = .returned v) ∧
      ((∃ ys, ys = recsA img ∧ J ys W') ∨ (∃ pre, (∃ k, pre = recsK img k) ∧ Jx pre W')) :=
  records1_sz n l Bi img hn hI J Jx W hJ (fun pre x W1 h1 h2 _ => hY pre x W1 h1 (by omega)) hBi h0
/-- the texts that are collected: their box, their row, the end's box; what else lay when the loop began lies as it lay -/
structure LogV (w W0 : World) (Bt Be : Nat) (e : Int) (xs : List ByteArray) (W : World) (v : Value) : Prop where
  box : Boxed W Bt 29 v
  buf : TBuf w.heap.size W v xs
  lies : ∀ g, v.ownBlock = some g → W0.heap.size ≤ g
  endB : Boxed W Be 3 (.int .i64 e)
  old : ∀ k, k < W0.heap.size → k ≠ Bt → k ≠ Be → W.heap[k]? = W0.heap[k]?
  size : W0.heap.size ≤ W.heap.size
  below : Below w.heap.size w W
structure LPlaces (w W0 : World) (Bt Be : Nat) : Prop where
  a : w.heap.size ≤ Bt
  b : Bt < Be
  c : Be < W0.heap.size
theorem LogV.own_ne {w W0 : World} {Bt Be : Nat} {e : Int} {xs : List ByteArray} {W : World} {v : Value} (h : LogV w W0 Bt Be e xs W v) {k : Nat} (hk : k < W0.heap.size) : some k ≠ v.ownBlock := fun e' => by
  have := h.lies k e'.symm
  omega
theorem LogV.alloc {w W0 : World} {Bt Be : Nat} {e : Int} {xs : List ByteArray} {W : World} {v : Value} (h : LogV w W0 Bt Be e xs W v) (o : Obj) : LogV w W0 Bt Be e xs (W.alloc o) v :=
  ⟨h.box.alloc o, World.ownsRow.alloc h.buf o, h.lies, h.endB.alloc o, fun k hk h1 h2 => (Below.heap_alloc W o k (Nat.lt_of_lt_of_le hk h.size)).trans (h.old k hk h1 h2), by rw [Deep.nblk_alloc]; have := h.size; omega, h.below.alloc h.below.size o⟩
theorem LogV.append {w W0 : World} {Bt Be : Nat} {e : Int} {xs xs' : List ByteArray} {W w1 : World} {v v' : Value} (h : LogV w W0 Bt Be e xs W v) (p : LPlaces w W0 Bt Be)
    (hb : TBuf w.heap.size w1 v' xs') (hg : W.grownBy w1 v.ownBlock) (hat : v'.ownBlock = v.ownBlock ∨ v'.ownBlock = some W.heap.size) :
    Boxed w1 Bt 29 v ∧ LogV w W0 Bt Be e xs' (w1.setCell ⟨Bt, 0, none⟩ v') v' ∧ KeepsOthers W (w1.setCell ⟨Bt, 0, none⟩ v') := by
  have hpa := p.a; have hpb := p.b; have hpc := p.c
  have hbox : Boxed w1 Bt 29 v := h.box.kept hg (h.own_ne (by omega))
  have hsz := h.size
  have hlies : ∀ g, v'.ownBlock = some g → W0.heap.size ≤ g := fun g e => by
    rcases hat with e' | e'
    · exact h.lies g (e'.symm.trans e)
    · rw [e'] at e; injection e with e; omega
  have hne' : v'.ownBlock ≠ some Bt := fun e => by have := hlies Bt e; omega
  have hset : w1.grownBy (w1.setCell ⟨Bt, 0, none⟩ v') (some Bt) := grownBy_setCell' w1 Bt v'
  refine ⟨hbox, ⟨hbox.set v', World.ownsRow.kept hb hset (.inr hne'), hlies, (h.endB.kept hg (h.own_ne (by omega))).kept hset (by intro e; injection e with e; omega), ?_, ?_, ?_⟩, ?_⟩
  · intro k hk h1 h2
    rw [hset.block k (by have := hg.size; omega) (by intro e; injection e with e; exact h1 e), hg.block k (by omega) (h.own_ne hk)]
    exact h.old k hk h1 h2
  · have := hg.size; have := hset.size; omega
  · have hgb : Below w.heap.size W w1 := ⟨hg.os, hg.tape, hg.output, hg.size, fun k hk => hg.block k (by have := h.below.size; omega) (h.own_ne (by omega))⟩
    exact (h.below.trans hgb).setCell (p := ⟨Bt, 0, none⟩) (by dsimp only; omega) v'
  · refine (KeepsOthers.of_grownBy hg fun j o ej hj => ?_).trans (KeepsOthers.setCell _ _ _)
    obtain ⟨_, ⟨rfl, _⟩ | ⟨g, cap, cur, rfl, _, hgb, _⟩⟩ := h.buf
    · simp [Value.ownBlock] at ej
    · obtain rfl : g = j := by simpa [Value.ownBlock] using ej
      rw [hgb] at hj; cases hj; rfl
theorem LogV.ended {w W0 : World} {Bt Be : Nat} {e : Int} {xs : List ByteArray} {W : World} {v : Value} (h : LogV w W0 Bt Be e xs W v) (p : LPlaces w W0 Bt Be) (e' : Int) :
    LogV w W0 Bt Be e' xs (W.setCell ⟨Be, 0, none⟩ (.int .i64 e')) v := by
  have hpa := p.a; have hpb := p.b; have hpc := p.c
  have hset : W.grownBy (W.setCell ⟨Be, 0, none⟩ (.int .i64 e')) (some Be) := grownBy_setCell' W Be _
  refine ⟨h.box.kept hset (by intro e; injection e with e; omega), World.ownsRow.kept h.buf hset (.inr fun e => h.own_ne (k := Be) (by omega) e.symm), h.lies, h.endB.set _, ?_, by have := hset.size; have := h.size; omega, h.below.setCell (p := ⟨Be, 0, none⟩) (by dsimp only; omega) _⟩
  intro k hk h1 h2
  rw [hset.block k (by have := h.size; omega) (by intro e; injection e with e; exact h2 e)]
  exact h.old k hk h1 h2
theorem LogV.turned {w W0 : World} {Bt Be : Nat} {e : Int} {xs : List ByteArray} {W W' : World} {v : Value} {row : Option Nat} (h : LogV w W0 Bt Be e xs W v) (p : LPlaces w W0 Bt Be)
    (hg : W.grownBy W' row) (hr : ∀ r, row = some r → W0.heap.size ≤ r ∧ ∃ o : Obj, W.heap[r]? = some o ∧ o.isCells = false) : LogV w W0 Bt Be e xs W' v := by
  have hpa := p.a; have hpb := p.b; have hpc := p.c
  have hlow : ∀ k, k < W0.heap.size → some k ≠ row := fun k hk e => by have := (hr k e.symm).1; omega
  refine ⟨h.box.kept hg (hlow _ (by omega)), World.ownsRow.kept h.buf hg ?_, h.lies, h.endB.kept hg (hlow _ (by omega)), ?_, by have := hg.size; have := h.size; omega, ?_⟩
  · obtain ⟨_, ⟨rfl, _⟩ | ⟨g, cap, cur, rfl, _, hgb, _⟩⟩ := h.buf
    · exact .inl rfl
    · refine .inr fun e => ?_
      obtain ⟨_, o, ho, hc⟩ := hr g (by simpa [Value.ownBlock] using e.symm)
      rw [hgb] at ho; cases ho; cases hc
  · intro k hk h1 h2
    rw [hg.block k (by have := h.size; omega) (hlow k hk)]
    exact h.old k hk h1 h2
  · exact h.below.trans ⟨hg.os, hg.tape, hg.output, hg.size, fun k hk => hg.block k (by have := h.below.size; omega) (hlow k (by omega))⟩
theorem TBuf.run_one {w : World} {base : Nat} {v : Value} {xs : List ByteArray} (ty : TypeId) (h : TBuf base w v xs) (hbase : base ≤ w.heap.size) (b c : Nat) (x : ByteArray) (hc : w.cell? ⟨b, 0, none⟩ = some (.string x)) (hl : xs.length ≤ 1048576) :
    ∃ v' w', (Builtin.append_ #[29, 29] ty #[v, .slice (some ⟨b, 0, none⟩) 1 c]).run Tryz.prog w = .ok v' w' ∧ TBuf base w' v' (xs ++ [x]) ∧ w.grownBy w' v.ownBlock ∧ (v'.ownBlock = v.ownBlock ∨ v'.ownBlock = some w.heap.size) := by
  obtain ⟨i0, hi, hz0, hz1, hz2⟩ := info_parts info_string
  obtain ⟨v', w', hr, h2, h3, _, h5⟩ := run_append_own_at (P := Tryz.prog) (w := w) base 29 ty 9 i0 (.string ByteArray.empty) 1 16 Tryz.underlying29 hi hz0 hz1 hz2 rfl (by decide) v xs.length (xs.map Value.string) h ⟨b, 0, none⟩ 1 c [.string x] rfl
    (fun j u hj => by
      cases j with
      | zero => simp at hj; subst hj; simpa [Addr.add] using hc
      | succ j => simp at hj)
    (fun u hu => by simp at hu; subst hu; rfl)
    (by unfold maxLen; omega) (by omega) hbase
  exact ⟨v', w', hr, by unfold TBuf; simpa using h2, h3, h5⟩
end Go.Proofs.YtpmnepalchgcbaaGreatDoor.Msg
