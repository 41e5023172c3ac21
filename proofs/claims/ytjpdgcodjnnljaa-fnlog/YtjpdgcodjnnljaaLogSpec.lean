import Derived.Test.YtjpdgcodjnnljaaLogFirst
namespace Go.Proofs.Ytjpdgcodjnnljaa.Msg
open Go.ChangeShapes Go.WideShapes Go.ChangeAt Go.RowKit Go.Shelf
set_option linter.unusedVariables false
set_option linter.unusedSimpArgs false

def readV (img : ByteArray) (a : Nat) : Value := match firstB (img.extract a img.size) with
  | some p => .tuple #[.string p.1, .int .i64 ((a + p.2 : Nat) : Int)]
  | none => .tuple #[.string ⟨#[]⟩, .int .i64 (-1)]
theorem rest_list (img : ByteArray) (a : Nat) : (img.extract a img.size).data.toList = img.data.toList.drop a := by
  simp only [ByteArray.data_extract, Array.toList_extract, List.extract_eq_take_drop]
  rw [List.take_of_length_le (by simp)]
theorem rest_get (img : ByteArray) (a i : Nat) (h : a + i < img.size) : (img.extract a img.size).data.toList.getD i 0 = img[a + i] := by
  rw [rest_list, List.getD_eq_getElem?_getD, List.getElem?_drop, List.getElem?_eq_getElem (by simpa using h)]
  rfl

/-- the text of a part of a slice of bytes -/
theorem Buf.string_part {base : Nat} {w : World} {bs : List UInt8} {g c o n d : Nat} (hc : ∀ j, j < bs.length → w.cell? ⟨g, j, none⟩ = some (.int .u8 ((bs.getD j 0).toNat : Int))) (hon : o + n ≤ bs.length) :
    Sem.run Try.prog (convert 22 9 (.slice (some ⟨g, o, none⟩) n d)) w = .ok (.string ⟨((bs.drop o).take n).toArray⟩) w := by
  rw [run_convert_bytes_arg w 22 5 Try.underlying22 Try.underlying5 g o n d (((bs.drop o).take n).map fun c => (c.toNat : Int)) (by simp; omega) ?_ 9 Try.underlying9]
  · congr 2
    unfold strOfNums
    congr 2
    rw [List.map_map]
    conv => rhs; rw [← List.map_id ((bs.drop o).take n)]
    apply List.map_congr_left
    intro c _
    simp
  · intro i hi
    have hi' : i < n := hi
    rw [hc (o + i) (by omega)]
    simp [List.getD_eq_getElem?_getD, List.getElem?_take, List.getElem?_drop, hi', show o + i < bs.length by omega]

set_option maxRecDepth 100000 in
set_option maxHeartbeats 4000000 in
theorem l4Read_any (img : ByteArray) (a : Nat) (w : World) (hI : img.size ≤ 1048576) (ha : a ≤ img.size) :
    Calls Try.prog 88 #[.string img, .int .i64 (a : Int)] w fun e w' => e = .returned (readV img a) ∧ Below w.heap.size w w' := by
  obtain ⟨i0, hi, hz0, hz1, hz2⟩ := u8_facts
  obtain ⟨J, hJ⟩ : ∃ J, img.extract a img.size = J := ⟨_, rfl⟩
  have hJs : J.size = img.size - a := by rw [← hJ, ByteArray.size_extract]; omega
  by_cases h32 : (img.size : Int) < (a : Int) + 32
  · have HX : Hid (readV img a = .tuple #[.string ⟨#[]⟩, .int .i64 (-1)]) := by unfold readV; rw [firstB_at_end img a (by omega)]; exact rfl
    clear hJ hJs
    go_enter Try.func88, Try.ntmps88
    go_wp2_with fail
    go_ret2
    exact ⟨by rw [HX.out]; rfl, Below.refl _ _⟩
  · have h0 : (a : Int) < (img.size : Int) := by omega
    have ha0 : a < img.size := by omega
    obtain ⟨a1, ha1⟩ : ∃ a1, a + 1 = a1 := ⟨_, rfl⟩
    obtain ⟨a2, ha2⟩ : ∃ a2, a + 2 = a2 := ⟨_, rfl⟩
    have i1 : (a : Int) + 1 = (a1 : Int) := by omega
    have i2 : (a : Int) + 2 = (a2 : Int) := by omega
    have j1 : (a1 : Int) < (img.size : Int) := by omega
    have j2 : (a2 : Int) < (img.size : Int) := by omega
    have k1 : a1 < img.size := by omega
    have k2 : a2 < img.size := by omega
    obtain ⟨n, hn⟩ : ∃ n, sizeL J.data.toList = n := ⟨_, rfl⟩
    have hn6 : n ≤ 16777215 := by rw [← hn]; exact sizeL_le _
    have HN : Hid (((img[a]'ha0).toNat : Int) + ((img[a1]'k1).toNat : Int) * 256 + ((img[a2]'k2).toNat : Int) * 65536 = (n : Int)) := by
      show _ = _
      rw [← hn, ← hJ]
      unfold sizeL
      have e0 := rest_get img a 0 (by omega)
      have e1 := rest_get img a 1 (by omega)
      have e2 := rest_get img a 2 (by omega)
      rw [e0, e1, e2]
      subst ha1 ha2
      simp only [Nat.add_zero]
      omega
    obtain ⟨c0, hc0⟩ : ∃ c : Nat, (img[a]'ha0).toNat = c := ⟨_, rfl⟩
    obtain ⟨c1, hc1⟩ : ∃ c : Nat, (img[a1]'k1).toNat = c := ⟨_, rfl⟩
    obtain ⟨c2, hc2⟩ : ∃ c : Nat, (img[a2]'k2).toNat = c := ⟨_, rfl⟩
    have l0 : c0 < 256 := by rw [← hc0]; exact UInt8.toNat_lt _
    have l1 : c1 < 256 := by rw [← hc1]; exact UInt8.toNat_lt _
    have l2 : c2 < 256 := by rw [← hc2]; exact UInt8.toNat_lt _
    rw [hc0, hc1, hc2] at HN
    have HD := hide (⟨hJ, hJs, hn⟩ : img.extract a img.size = J ∧ J.size = img.size - a ∧ sizeL J.data.toList = n)
    clear hJ hJs hn ha1 ha2
    go_enter Try.func88, Try.ntmps88
    go_upto_region 3 with fail
    go_cut [6] (fun v6 wx => v6 = .int .i64 (n : Int) ∧ Below w.heap.size w wx)
    case first =>
      go_quiet (fail)
      go_wp2_with fail
      go_meet
      case rel => exact ⟨by rw [HN.out], below_drewN (Below.refl _ _) _⟩
    case rest =>
      obtain ⟨rfl, hb⟩ := hcut
      obtain ⟨Wc, rfl⟩ : ∃ x, x = wc := ⟨_, rfl⟩
      have HB := hide hb
      clear hb hc0 hc1 hc2 l0 l1 l2 i1 i2 j1 j2 k1 k2
      by_cases hbig : (60000 : Int) < (n : Int)
      · have HX : Hid (readV img a = .tuple #[.string ⟨#[]⟩, .int .i64 (-1)]) := by unfold readV; rw [HD.out.1, firstB_big J (by rw [HD.out.2.2]; omega)]; exact rfl
        go_wp2_with fail
        go_ret2
        exact ⟨by rw [HX.out]; rfl, HB.out⟩
      · obtain ⟨m, hm⟩ : ∃ m, sectN n = m := ⟨_, rfl⟩
        have hm6 : m ≤ 2000 := by rw [← hm]; unfold sectN; omega
        have d1 : ((n : Int) + 3 + 30).tdiv 31 = (m : Int) := by rw [Int.tdiv_eq_ediv_of_nonneg (by omega), ← hm]; unfold sectN; omega
        have d2 : ((n : Int) + 3 + 30) / 31 = (m : Int) := by rw [← hm]; unfold sectN; omega
        obtain ⟨k, hk⟩ : ∃ k, 32 * m = k := ⟨_, rfl⟩
        have hk6 : k ≤ 64000 := by omega
        have e1 : (m : Int) * 32 = (k : Int) := by omega
        have HM := hide (⟨hm, hk⟩ : sectN n = m ∧ 32 * m = k)
        clear hm hk
        by_cases hlong : (img.size : Int) < (a : Int) + (k : Int)
        · have HX : Hid (readV img a = .tuple #[.string ⟨#[]⟩, .int .i64 (-1)]) := by
            unfold readV
            rw [HD.out.1]
            unfold firstB
            rw [if_neg (by rw [HD.out.2.1]; omega), if_pos (by rw [HD.out.2.2, HM.out.1, HM.out.2, HD.out.2.1]; omega)]
            exact rfl
          go_wp2_with fail
          go_ret2
          exact ⟨by rw [HX.out]; rfl, HB.out⟩
        · obtain ⟨L, hL⟩ : ∃ L, 31 * m = L := ⟨_, rfl⟩
          have e2 : (m : Int) * 31 = (L : Int) := by omega
          have hL6 : L ≤ 62000 := by omega
          have HE0 := hide (Buf.empty_lit Wc)
          obtain ⟨w5, hw5⟩ : ∃ w5, Wc.alloc (Obj.cells #[] 5) = w5 := ⟨_, rfl⟩
          have bel5 : Below Wc.heap.size Wc w5 := by rw [← hw5]; exact (Below.refl _ _).alloc (Nat.le_refl _) _
          rw [hw5] at HE0
          have HBEL5 := hide bel5
          have HL := hide hL
          clear bel5 hL
          go_wp2_with fail
          go_loopg [8, 9] L (fun q v8 i wx => ∃ j : Nat, j ≤ L ∧ q = L - j ∧ i = .int .i64 (j : Int) ∧ Buf Wc.heap.size wx v8 (plainU J.data.toList j) ∧ Below Wc.heap.size Wc wx)
          case atStart => exact ⟨0, Nat.zero_le _, rfl, rfl, HE0.out, HBEL5.out⟩
          case round =>
            obtain ⟨j, hj, rfl, rfl, hOx, hbx⟩ := hrel
            obtain ⟨W5, rfl⟩ : ∃ x, x = wr := ⟨_, rfl⟩
            have hfx := hOx.form
            have hml : (plainU J.data.toList j).length ≤ 62000 := by rw [plainU_length]; omega
            have HOX := hide hOx
            have HBX := hide hbx
            have hwx := hbx.size
            by_cases hjl : j < L
            · have hji : (j : Int) < (L : Int) := by omega
              obtain ⟨o, ho⟩ : ∃ o, j / 31 * 32 + j % 31 = o := ⟨_, rfl⟩
              obtain ⟨q1, hq1⟩ : ∃ q1, j / 31 = q1 := ⟨_, rfl⟩
              obtain ⟨r1, hr1⟩ : ∃ r1, j % 31 = r1 := ⟨_, rfl⟩
              have t1 : (j : Int).tdiv 31 = (q1 : Int) := by rw [Int.tdiv_eq_ediv_of_nonneg (by omega)]; omega
              have t2 : (j : Int).tmod 31 = (r1 : Int) := by rw [Int.tmod_eq_emod_of_nonneg (by omega)]; omega
              have t3 : (j : Int) / 31 = (q1 : Int) := by omega
              have t4 : (j : Int) % 31 = (r1 : Int) := by omega
              have hq16 : q1 ≤ 62000 := by omega
              have hr16 : r1 ≤ 31 := by omega
              have hok : a + o < img.size := by
                have := HL.out; have := HM.out.2
                omega
              obtain ⟨x, hx⟩ : ∃ x, a + o = x := ⟨_, rfl⟩
              have t5 : (a : Int) + (q1 : Int) * 32 + (r1 : Int) = (x : Int) := by omega
              have hxi : (x : Int) < (img.size : Int) := by omega
              have hxn : x < img.size := by omega
              obtain ⟨c, hc⟩ : ∃ c : UInt8, img[x]'hxn = c := ⟨_, rfl⟩
              have HSTEP : Hid (plainU J.data.toList (j + 1) = plainU J.data.toList j ++ [c]) := by
                show _ = _
                conv => lhs; unfold plainU
                rw [ho, ← HD.out.1, rest_get img a o hok, ← hc]
                subst hx
                rfl
              have HBA := hide (World.ownsRow.alloc HOX.out (Obj.cells #[.int .u8 (c.toNat : Int)] 5))
              obtain ⟨V8, rfl⟩ : ∃ x, x = u8 := ⟨_, rfl⟩
              obtain ⟨a8, c8, rfl, _, _⟩ := hfx
              clear hOx hbx ho hq1 hr1 hx hok
              go_wp2_with (first
                | (at_builtin; refine wpList_append_own_at _ rfl _ _ 22 rfl Wc.heap.size 5 i0 (.int .u8 0) 1 1 Try.underlying22 hi hz0 hz1 hz2 rfl (by decide) _ _ _ rfl HBA.out ⟨W5.heap.size, 0, none⟩ 1 1 [.int .u8 (c.toNat : Int)] rfl rfl (new_cell _ _ _) (one_u8 _) (by unfold maxLen; omega) (by omega) (by simp; omega) ?_)
                | fail)
              intro v6 w6 hown6 hgrow6 _ _
              have R6 := Buf.more (c := c) HOX.out hwx rfl hown6 hgrow6
              rw [← HSTEP.out] at R6
              have HR6 := hide R6
              clear hown6 hgrow6 R6
              go_wp2_with fail
              go_roundg (L - (j + 1))
              case measure => omega
              case rel => exact ⟨j + 1, by omega, rfl, by go_num, HR6.out.1, HBX.out.trans HR6.out.2⟩
            · obtain rfl : j = L := by omega
              have hji : ¬ (j : Int) < (j : Int) := by omega
              have hk32 : 32 ≤ k := by have := HM.out; have h := this.1; have h2 := this.2; unfold sectN at h; omega
              have hkJ : k ≤ J.size := by have := HD.out.2.1; omega
              have hnL : 3 + n ≤ j := by have := HM.out.1; have h2 := HL.out; unfold sectN at this; omega
              have hplen : (plainU J.data.toList j).length = j := plainU_length _ _
              have hpeq : plainU J.data.toList j = unmC J.data.toList m := by rw [← HL.out]; exact plain_eq _ _ (by simp; have := HM.out.2; omega)
              obtain ⟨g8, c8, rfl, hc8, hcm8, hgb8, hgl8, hcell8⟩ := hOx.cells (by omega)
              have hstr := Buf.string_part (base := Wc.heap.size) (c := c8) (o := 3) (n := n) (d := c8 - 3) hcell8 (by omega)
              obtain ⟨T, hT⟩ : ∃ T, recText J = T := ⟨_, rfl⟩
              have hTT : (⟨(((plainU J.data.toList j).drop 3).take n).toArray⟩ : ByteArray) = T := by
                rw [← hT, hpeq]
                unfold recText textL
                rw [HD.out.2.2, HM.out.1]
              rw [hTT] at hstr
              have hTs : T.size = n := by rw [← hT, recText_size J (by rw [HD.out.2.2, HM.out.1, HM.out.2]; exact hkJ), HD.out.2.2]
              have HRC := hide (fun W => recS_any T W (by omega))
              obtain ⟨y, hy⟩ : ∃ y, a + k = y := ⟨_, rfl⟩
              have y1 : (a : Int) + (k : Int) = (y : Int) := by omega
              have y2 : (a : Int) ≤ (y : Int) := by omega
              have y3 : (y : Int) ≤ (img.size : Int) := by omega
              obtain ⟨P, hP⟩ : ∃ P, img.extract a y = P := ⟨_, rfl⟩
              have hPJ : J.extract 0 k = P := by
                rw [← hP, ← HD.out.1]
                apply bytes_ext
                simp only [ByteArray.data_extract, Array.toList_extract, List.extract_eq_take_drop, List.drop_zero, Nat.sub_zero, List.take_take]
                rw [Nat.min_eq_left (by have := HD.out.2.1; omega), show y - a = k by omega]
              have HV : Hid (readV img a = if ((recB T).toList == P.toList) then .tuple #[.string T, .int .i64 (y : Int)] else .tuple #[.string ⟨#[]⟩, .int .i64 (-1)]) := by
                unfold readV
                rw [HD.out.1]
                unfold firstB
                rw [if_neg (by omega), if_neg (by rw [HD.out.2.2, HM.out.1, HM.out.2]; omega), HD.out.2.2, HM.out.1, HM.out.2, hT, hPJ, ← hy]
                show _ = _
                cases ((recB T).toList == P.toList) <;> rfl
              obtain ⟨R, hR⟩ : ∃ R, recB T = R := ⟨_, rfl⟩
              rw [hR] at HV HRC
              have hj0 : (j : Int) ≤ (c8 : Int) := by omega
              obtain ⟨p, hp⟩ : ∃ p, 3 + n = p := ⟨_, rfl⟩
              have p1 : (3 : Int) + (n : Int) = (p : Int) := by omega
              have p2 : (3 : Int) ≤ (p : Int) := by omega
              have p3 : (p : Int) ≤ (c8 : Int) := by omega
              have p4 : p - 3 = n := by omega
              have HB5 := hide (HB.out.trans (hbx.mono HB.out.size))
              clear hOx hbx hfx HOX hplen hpeq hTT hT hTs hR hy hPJ hp hcell8
              go_wp2_with fail
              have wk : IntKind.i64.wrap (k : Int) = (k : Int) := by rw [IntKind.wrap_i64]; omega
              have wy : IntKind.i64.wrap (y : Int) = (y : Int) := by rw [IntKind.wrap_i64]; omega
              cases hcmp : (R.toList == P.toList)
              · have HX : Hid (readV img a = .tuple #[.string ⟨#[]⟩, .int .i64 (-1)]) := by rw [HV.out, hcmp]; exact rfl
                go_region_held3 (fun X => Below W5.heap.size W5 X)
                  (first | exact (Below.refl _ _).drew | exact hb7)
                  (first | (go_at_call 41; refine (HRC.out _).mono ?_; rintro e2 w7 ⟨rfl, hb2⟩; have hb7 : Below W5.heap.size W5 w7 := bj hb2 ((Below.refl _ _).drew)))
                have HB7 := hide (bj hb7 HB5.out)
                clear hb7
                go_wp2_with fail
                go_ret2
                exact ⟨by rw [HX.out]; rfl, HB7.out⟩
              · have HX : Hid (readV img a = .tuple #[.string T, .int .i64 (y : Int)]) := by rw [HV.out, hcmp]; exact rfl
                go_region_held3 (fun X => Below W5.heap.size W5 X)
                  (first | exact (Below.refl _ _).drew | exact hb7)
                  (first | (go_at_call 41; refine (HRC.out _).mono ?_; rintro e2 w7 ⟨rfl, hb2⟩; have hb7 : Below W5.heap.size W5 w7 := bj hb2 ((Below.refl _ _).drew)))
                have HB7 := hide (bj hb7 HB5.out)
                clear hb7
                go_wp2_with fail
                go_ret2
                exact ⟨by rw [HX.out]; rfl, HB7.out⟩
end Go.Proofs.Ytjpdgcodjnnljaa.Msg
