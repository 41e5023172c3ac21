import Derived.Test.YtebdfmijlnkcbaaGreatDoorQryReadP
import Derived.Test.YtebdfmijlnkcbaaGreatDoorQryAsHit
namespace Go.Proofs.YtebdfmijlnkcbaaGreatDoor.Msg
open Go.ChangeShapes Go.WideShapes Go.ChangeAt Go.RowKit
set_option linter.unusedVariables false
set_option linter.unusedSimpArgs false

theorem methLackC (a b : Value) (w : World) : (Go.method 297 90 (.agg #[a, b]) "loop.example/s01639/impl.lacks").run Tryz.prog w = .ok (111, .agg #[a, b]) w := by kernel_rfl
theorem methLackX (a b c d : Value) (w : World) : (Go.method 297 92 (.agg #[a, b, c, d]) "loop.example/s01639/impl.lacks").run Tryz.prog w = .ok (115, .agg #[a, b, c, d]) w := by kernel_rfl
theorem methLackN (a b c d : Value) (w : World) : (Go.method 297 95 (.agg #[a, b, c, d]) "loop.example/s01639/impl.lacks").run Tryz.prog w = .ok (119, .agg #[a, b, c, d]) w := by kernel_rfl
theorem methReqC (a b : Value) (w : World) : (Go.method 297 90 (.agg #[a, b]) "loop.example/s01639/impl.request").run Tryz.prog w = .ok (112, .agg #[a, b]) w := by kernel_rfl
theorem methReqX (a b c d : Value) (w : World) : (Go.method 297 92 (.agg #[a, b, c, d]) "loop.example/s01639/impl.request").run Tryz.prog w = .ok (116, .agg #[a, b, c, d]) w := by kernel_rfl
theorem methReqN (a b c d : Value) (w : World) : (Go.method 297 95 (.agg #[a, b, c, d]) "loop.example/s01639/impl.request").run Tryz.prog w = .ok (120, .agg #[a, b, c, d]) w := by kernel_rfl

def cancelL (control tag : ByteArray) : Option Int := if controlB control && tagB tag then none else some 101
theorem cancelLacks2 (control tag : ByteArray) (w : World) (h1 : control.size ≤ 9223372036854775807) (h2 : tag.size ≤ 9223372036854775807) :
    Calls Tryz.prog 111 #[.agg #[.string control, .string tag]] w fun e w' => e = .returned (lackOf (cancelL control tag)) ∧ Below w.heap.size w w' := cancelLacks_any control tag w h1 h2
def pairV (p : Value × Option Int) : Value := .tuple #[p.1, lackOf p.2]
theorem ret_pair {a b : Value × Option Int} (h : a = b) : Ending.returned (pairV a) = .returned (pairV b) := by rw [h]

set_option maxRecDepth 100000 in
set_option maxHeartbeats 4000000 in
theorem readLetter_any (xs : List Seg) (v : Value) (w : World) (hG : Got w v xs) (hsz : msgSz xs ≤ 1048576) (hE : Env w) :
    Calls Tryz.prog 17 #[.agg #[v]] w fun e w' => e = .returned (pairV (readL (getFrom xs ⟨#[77, 83, 72]⟩ 9 1) (getFrom xs ⟨#[77, 83, 72]⟩ 10 1) (getFrom xs ⟨#[77, 83, 72]⟩ 12 1) (getFrom xs ⟨#[81, 73, 68]⟩ 1 1) (getFrom xs ⟨#[81, 80, 68]⟩ 2 1) (getFrom xs ⟨#[81, 80, 68]⟩ 3 1) (getFrom xs ⟨#[68, 83, 67]⟩ 1 1) (pageI (getFrom xs ⟨#[82, 67, 80]⟩ 2 1)))) ∧ Below w.heap.size w w' := by
  have hb0 := (Below.refl w.heap.size w).alloc (Nat.le_refl _) (Obj.cells #[v] 32)
  obtain ⟨w1, hw1⟩ : ∃ w1, w.alloc (Obj.cells #[v] 32) = w1 := ⟨_, rfl⟩
  rw [hw1] at hb0
  have hcv : w1.cell? ⟨w.heap.size, 0, none⟩ = some v := by rw [← hw1]; simp
  have HG := hide (hG.kept hb0)
  have HE := hide (hE.kept hb0)
  have HB0 := hide hb0
  have hlt := lt_of_cell hcv
  have HOLD : Hid (∀ W, Below w1.heap.size w1 W → W.cell? ⟨w.heap.size, 0, none⟩ = some v) := fun W h => by rw [h.cell (p := ⟨w.heap.size, 0, none⟩) hlt]; exact hcv
  have HKC : Hid (∀ W, Below w1.heap.size w1 W → Calls Tryz.prog 19 #[.agg #[v]] W fun e w' => e = .returned (.string (known (getFrom xs ⟨#[77, 83, 72]⟩ 10 1))) ∧ Below W.heap.size W w') := fun W hb => knownControl_any xs v W (HG.out.kept hb) hsz
  have HLR : Hid (∀ W kind control, Below w1.heap.size w1 W → Calls Tryz.prog 26 #[.agg #[v], .string kind, .string control] W fun e w' => e = .returned (looseV kind control (getFrom xs ⟨#[81, 73, 68]⟩ 1 1) (getFrom xs ⟨#[81, 80, 68]⟩ 2 1) (getFrom xs ⟨#[81, 80, 68]⟩ 3 1) (getFrom xs ⟨#[68, 83, 67]⟩ 1 1) (pageI (getFrom xs ⟨#[82, 67, 80]⟩ 2 1))) ∧ Below W.heap.size W w') := fun W kind control hb => looseRequest_any xs kind control v W (HG.out.kept hb) hsz (HE.out.kept hb)
  have z2 := getFrom_sz xs ⟨#[77, 83, 72]⟩ 10 1
  have z4 := getFrom_sz xs ⟨#[81, 73, 68]⟩ 1 1
  have z5 := getFrom_sz xs ⟨#[81, 80, 68]⟩ 2 1
  have z6 := getFrom_sz xs ⟨#[81, 80, 68]⟩ 3 1
  have z7 := getFrom_sz xs ⟨#[68, 83, 67]⟩ 1 1
  obtain ⟨kind, h1⟩ : ∃ z, getFrom xs ⟨#[77, 83, 72]⟩ 9 1 = z := ⟨_, rfl⟩
  obtain ⟨ct, h2⟩ : ∃ z, getFrom xs ⟨#[77, 83, 72]⟩ 10 1 = z := ⟨_, rfl⟩
  obtain ⟨ver, h3⟩ : ∃ z, getFrom xs ⟨#[77, 83, 72]⟩ 12 1 = z := ⟨_, rfl⟩
  obtain ⟨idt, h4⟩ : ∃ z, getFrom xs ⟨#[81, 73, 68]⟩ 1 1 = z := ⟨_, rfl⟩
  obtain ⟨tag, h5⟩ : ∃ z, getFrom xs ⟨#[81, 80, 68]⟩ 2 1 = z := ⟨_, rfl⟩
  obtain ⟨query, h6⟩ : ∃ z, getFrom xs ⟨#[81, 80, 68]⟩ 3 1 = z := ⟨_, rfl⟩
  obtain ⟨pointer, h7⟩ : ∃ z, getFrom xs ⟨#[68, 83, 67]⟩ 1 1 = z := ⟨_, rfl⟩
  obtain ⟨page, h8⟩ : ∃ z, pageI (getFrom xs ⟨#[82, 67, 80]⟩ 2 1) = z := ⟨_, rfl⟩
  rw [h2] at HKC z2
  rw [h4, h5, h6, h7, h8] at HLR
  rw [h4] at z4
  rw [h5] at z5
  rw [h6] at z6
  rw [h7] at z7
  rw [h1, h2, h3, h4, h5, h6, h7, h8]
  have E1 := hide h1
  have E3 := hide h3
  have Z2 : ct.size ≤ 9223372036854775807 := by omega
  have Z4 : idt.size ≤ 9223372036854775807 := by omega
  have Z5 : tag.size ≤ 9223372036854775807 := by omega
  have Z6 : query.size ≤ 9223372036854775807 := by omega
  have Z7 : pointer.size ≤ 9223372036854775807 := by omega
  clear h1 h2 h3 h4 h5 h6 h7 h8 hG hE hb0 z2 z4 z5 z6 z7
  have m1 := methLackC
  have m2 := methLackX
  have m3 := methLackN
  have HR : Hid (readL kind ct ver idt tag query pointer page = _) := rfl
  have HG9 : Hid (Calls Tryz.prog 25 #[.agg #[v], .string ⟨#[77, 83, 72]⟩, .int .i64 9, .int .i64 1] w1 fun e W' => e = .returned (.string kind) ∧ Below w1.heap.size w1 W') := by
    have := HG.out w1 ⟨#[77, 83, 72]⟩ 9 1 (Below.refl _ _) (by decide) (by decide) (by decide) (by decide) (by decide)
    rw [E1.out] at this
    exact this
  have HG12 : Hid (∀ W, Below w1.heap.size w1 W → Calls Tryz.prog 25 #[.agg #[v], .string ⟨#[77, 83, 72]⟩, .int .i64 12, .int .i64 1] W fun e W' => e = .returned (.string ver) ∧ Below W.heap.size W W') := fun W hb => by
    have := HG.out W ⟨#[77, 83, 72]⟩ 12 1 hb (by decide) (by decide) (by decide) (by decide) (by decide)
    rw [E3.out] at this
    exact this
  cases hq : (kind.toList == [81, 66, 80]) <;> cases hc : (kind.toList == [81, 67, 78])
  case false.false =>
    have HX : Hid ((.nilIface, some 200) = readL kind ct ver idt tag query pointer page) := by unfold readL; rw [hq, hc]; rfl
    go_enter Tryz.func17, Tryz.ntmps17
    go_wp2_with fail
    refine HG9.out.mono ?_
    rintro e w2 ⟨rfl, hb2⟩
    go_wp2_with fail
    exact bodyPost_ret (v := pairV (.nilIface, some 200)) (by simp [results, Tryz.results17, go_sem, pairV, lackOf, lackV]) rfl ⟨ret_pair HX.out, bjoin hb2 HB0.out⟩
  case false.true =>
    have HX0 : Hid (readL kind ct ver idt tag query pointer page = if !controlB ct then (.nilIface, some 101)
      else if !(ver.toList == [50, 46, 53, 46, 49]) then (.nilIface, some 203)
      else (looseV kind ct idt tag query pointer page,
        if kind.toList == [81, 67, 78] then (if controlB ct && tagB idt then none else some 101)
        else if pointer.toList == [] then newL ct tag query page else nextL ct tag query pointer)) := by unfold readL; rw [hq, hc]; rfl
    cases hcb : controlB ct
    · have HX : Hid ((.nilIface, some 101) = readL kind ct ver idt tag query pointer page) := by rw [HX0.out, hcb]; rfl
      have HK : Hid (known ct = ⟨#[]⟩) := known_no hcb
      rw [HK.out] at HKC
      go_enter Tryz.func17, Tryz.ntmps17
      go_wp2_with fail
      refine HG9.out.mono ?_
      rintro e w2 ⟨rfl, hb2⟩
      have hc2 := HOLD.out _ hb2
      go_wp2_with (first | (go_at_call 19; refine (HKC.out _ hb2).mono ?_; rintro e w3 ⟨rfl, hb3⟩))
      exact bodyPost_ret (v := pairV (.nilIface, some 101)) (by simp [results, Tryz.results17, go_sem, pairV, lackOf, lackV]) rfl ⟨ret_pair HX.out, bjoin hb3 (bjoin hb2 HB0.out)⟩
    · obtain ⟨hk1, hk2⟩ := known_yes hcb
      rw [hk1] at HKC
      clear hk1
      cases hv : (ver.toList == [50, 46, 53, 46, 49])
      · have HX : Hid ((.nilIface, some 203) = readL kind ct ver idt tag query pointer page) := by rw [HX0.out, hcb, hv]; rfl
        go_enter Tryz.func17, Tryz.ntmps17
        go_wp2_with fail
        refine HG9.out.mono ?_
        rintro e w2 ⟨rfl, hb2⟩
        have hc2 := HOLD.out _ hb2
        go_wp2_with fail
        refine (HKC.out _ hb2).mono ?_
        rintro e w3 ⟨rfl, hb3'⟩
        have hb3 := bjoin hb3' hb2
        have hc3 := HOLD.out _ hb3
        go_wp2_with fail
        refine (HG12.out _ hb3).mono ?_
        rintro e w4 ⟨rfl, hb4⟩
        go_wp2_with fail
        exact bodyPost_ret (v := pairV (.nilIface, some 203)) (by simp [results, Tryz.results17, go_sem, pairV, lackOf, lackV]) rfl ⟨ret_pair HX.out, bjoin hb4 (bjoin hb3 HB0.out)⟩
      · have HX : Hid (readL kind ct ver idt tag query pointer page = (looseV kind ct idt tag query pointer page,
          if kind.toList == [81, 67, 78] then (if controlB ct && tagB idt then none else some 101)
          else if pointer.toList == [] then newL ct tag query page else nextL ct tag query pointer)) := by rw [HX0.out, hcb, hv]; rfl
        go_enter Tryz.func17, Tryz.ntmps17
        go_wp2_with fail
        refine HG9.out.mono ?_
        rintro e w2 ⟨rfl, hb2⟩
        have hc2 := HOLD.out _ hb2
        go_wp2_with fail
        refine (HKC.out _ hb2).mono ?_
        rintro e w3 ⟨rfl, hb3'⟩
        have hb3 := bjoin hb3' hb2
        have hc3 := HOLD.out _ hb3
        go_wp2_with fail
        refine (HG12.out _ hb3).mono ?_
        rintro e w4 ⟨rfl, hb4'⟩
        have hb4 := bjoin hb4' hb3
        have hc4 := HOLD.out _ hb4
        go_wp2_with fail
        refine (HLR.out _ _ _ hb4).mono ?_
        rintro e w5 ⟨rfl, hb5'⟩
        have hb5 := bjoin hb5' hb4
        have HW5 := hide (bjoin hb5 HB0.out)
        have HV : looseV kind ct idt tag query pointer page = .iface 90 (.agg #[.string ct, .string idt]) := by unfold looseV; rw [hc]; rfl
        have HY : Hid ((.iface 90 (.agg #[.string ct, .string idt]), cancelL ct idt) = readL kind ct ver idt tag query pointer page) := by rw [HX.out, HV, hc]; rfl
        rw [HV]
        clear HV HX HX0
        go_wp2_with (first | (go_at_call 111; refine (cancelLacks2 ct idt _ Z2 Z4).mono ?_; rintro e w6 ⟨rfl, hb6⟩))
        exact bodyPost_ret (v := pairV (.iface 90 (.agg #[.string ct, .string idt]), cancelL ct idt)) (by simp [results, Tryz.results17, go_sem, pairV]) rfl ⟨ret_pair HY.out, bjoin hb6 HW5.out⟩
  case true.true =>
    have HX0 : Hid (readL kind ct ver idt tag query pointer page = if !controlB ct then (.nilIface, some 101)
      else if !(ver.toList == [50, 46, 53, 46, 49]) then (.nilIface, some 203)
      else (looseV kind ct idt tag query pointer page,
        if kind.toList == [81, 67, 78] then (if controlB ct && tagB idt then none else some 101)
        else if pointer.toList == [] then newL ct tag query page else nextL ct tag query pointer)) := by unfold readL; rw [hq, hc]; rfl
    cases hcb : controlB ct
    · have HX : Hid ((.nilIface, some 101) = readL kind ct ver idt tag query pointer page) := by rw [HX0.out, hcb]; rfl
      have HK : Hid (known ct = ⟨#[]⟩) := known_no hcb
      rw [HK.out] at HKC
      go_enter Tryz.func17, Tryz.ntmps17
      go_wp2_with fail
      refine HG9.out.mono ?_
      rintro e w2 ⟨rfl, hb2⟩
      have hc2 := HOLD.out _ hb2
      go_wp2_with (first | (go_at_call 19; refine (HKC.out _ hb2).mono ?_; rintro e w3 ⟨rfl, hb3⟩))
      exact bodyPost_ret (v := pairV (.nilIface, some 101)) (by simp [results, Tryz.results17, go_sem, pairV, lackOf, lackV]) rfl ⟨ret_pair HX.out, bjoin hb3 (bjoin hb2 HB0.out)⟩
    · obtain ⟨hk1, hk2⟩ := known_yes hcb
      rw [hk1] at HKC
      clear hk1
      cases hv : (ver.toList == [50, 46, 53, 46, 49])
      · have HX : Hid ((.nilIface, some 203) = readL kind ct ver idt tag query pointer page) := by rw [HX0.out, hcb, hv]; rfl
        go_enter Tryz.func17, Tryz.ntmps17
        go_wp2_with fail
        refine HG9.out.mono ?_
        rintro e w2 ⟨rfl, hb2⟩
        have hc2 := HOLD.out _ hb2
        go_wp2_with fail
        refine (HKC.out _ hb2).mono ?_
        rintro e w3 ⟨rfl, hb3'⟩
        have hb3 := bjoin hb3' hb2
        have hc3 := HOLD.out _ hb3
        go_wp2_with fail
        refine (HG12.out _ hb3).mono ?_
        rintro e w4 ⟨rfl, hb4⟩
        go_wp2_with fail
        exact bodyPost_ret (v := pairV (.nilIface, some 203)) (by simp [results, Tryz.results17, go_sem, pairV, lackOf, lackV]) rfl ⟨ret_pair HX.out, bjoin hb4 (bjoin hb3 HB0.out)⟩
      · have HX : Hid (readL kind ct ver idt tag query pointer page = (looseV kind ct idt tag query pointer page,
          if kind.toList == [81, 67, 78] then (if controlB ct && tagB idt then none else some 101)
          else if pointer.toList == [] then newL ct tag query page else nextL ct tag query pointer)) := by rw [HX0.out, hcb, hv]; rfl
        go_enter Tryz.func17, Tryz.ntmps17
        go_wp2_with fail
        refine HG9.out.mono ?_
        rintro e w2 ⟨rfl, hb2⟩
        have hc2 := HOLD.out _ hb2
        go_wp2_with fail
        refine (HKC.out _ hb2).mono ?_
        rintro e w3 ⟨rfl, hb3'⟩
        have hb3 := bjoin hb3' hb2
        have hc3 := HOLD.out _ hb3
        go_wp2_with fail
        refine (HG12.out _ hb3).mono ?_
        rintro e w4 ⟨rfl, hb4'⟩
        have hb4 := bjoin hb4' hb3
        have hc4 := HOLD.out _ hb4
        go_wp2_with fail
        refine (HLR.out _ _ _ hb4).mono ?_
        rintro e w5 ⟨rfl, hb5'⟩
        have hb5 := bjoin hb5' hb4
        have HW5 := hide (bjoin hb5 HB0.out)
        have HV : looseV kind ct idt tag query pointer page = .iface 90 (.agg #[.string ct, .string idt]) := by unfold looseV; rw [hc]; rfl
        have HY : Hid ((.iface 90 (.agg #[.string ct, .string idt]), cancelL ct idt) = readL kind ct ver idt tag query pointer page) := by rw [HX.out, HV, hc]; rfl
        rw [HV]
        clear HV HX HX0
        go_wp2_with (first | (go_at_call 111; refine (cancelLacks2 ct idt _ Z2 Z4).mono ?_; rintro e w6 ⟨rfl, hb6⟩))
        exact bodyPost_ret (v := pairV (.iface 90 (.agg #[.string ct, .string idt]), cancelL ct idt)) (by simp [results, Tryz.results17, go_sem, pairV]) rfl ⟨ret_pair HY.out, bjoin hb6 HW5.out⟩
  case true.false =>
    have HX0 : Hid (readL kind ct ver idt tag query pointer page = if !controlB ct then (.nilIface, some 101)
      else if !(ver.toList == [50, 46, 53, 46, 49]) then (.nilIface, some 203)
      else (looseV kind ct idt tag query pointer page,
        if kind.toList == [81, 67, 78] then (if controlB ct && tagB idt then none else some 101)
        else if pointer.toList == [] then newL ct tag query page else nextL ct tag query pointer)) := by unfold readL; rw [hq, hc]; rfl
    cases hcb : controlB ct
    · have HX : Hid ((.nilIface, some 101) = readL kind ct ver idt tag query pointer page) := by rw [HX0.out, hcb]; rfl
      have HK : Hid (known ct = ⟨#[]⟩) := known_no hcb
      rw [HK.out] at HKC
      go_enter Tryz.func17, Tryz.ntmps17
      go_wp2_with fail
      refine HG9.out.mono ?_
      rintro e w2 ⟨rfl, hb2⟩
      have hc2 := HOLD.out _ hb2
      go_wp2_with (first | (go_at_call 19; refine (HKC.out _ hb2).mono ?_; rintro e w3 ⟨rfl, hb3⟩))
      exact bodyPost_ret (v := pairV (.nilIface, some 101)) (by simp [results, Tryz.results17, go_sem, pairV, lackOf, lackV]) rfl ⟨ret_pair HX.out, bjoin hb3 (bjoin hb2 HB0.out)⟩
    · obtain ⟨hk1, hk2⟩ := known_yes hcb
      rw [hk1] at HKC
      clear hk1
      cases hv : (ver.toList == [50, 46, 53, 46, 49])
      · have HX : Hid ((.nilIface, some 203) = readL kind ct ver idt tag query pointer page) := by rw [HX0.out, hcb, hv]; rfl
        go_enter Tryz.func17, Tryz.ntmps17
        go_wp2_with fail
        refine HG9.out.mono ?_
        rintro e w2 ⟨rfl, hb2⟩
        have hc2 := HOLD.out _ hb2
        go_wp2_with fail
        refine (HKC.out _ hb2).mono ?_
        rintro e w3 ⟨rfl, hb3'⟩
        have hb3 := bjoin hb3' hb2
        have hc3 := HOLD.out _ hb3
        go_wp2_with fail
        refine (HG12.out _ hb3).mono ?_
        rintro e w4 ⟨rfl, hb4⟩
        go_wp2_with fail
        exact bodyPost_ret (v := pairV (.nilIface, some 203)) (by simp [results, Tryz.results17, go_sem, pairV, lackOf, lackV]) rfl ⟨ret_pair HX.out, bjoin hb4 (bjoin hb3 HB0.out)⟩
      · have HX : Hid (readL kind ct ver idt tag query pointer page = (looseV kind ct idt tag query pointer page,
          if kind.toList == [81, 67, 78] then (if controlB ct && tagB idt then none else some 101)
          else if pointer.toList == [] then newL ct tag query page else nextL ct tag query pointer)) := by rw [HX0.out, hcb, hv]; rfl
        go_enter Tryz.func17, Tryz.ntmps17
        go_wp2_with fail
        refine HG9.out.mono ?_
        rintro e w2 ⟨rfl, hb2⟩
        have hc2 := HOLD.out _ hb2
        go_wp2_with fail
        refine (HKC.out _ hb2).mono ?_
        rintro e w3 ⟨rfl, hb3'⟩
        have hb3 := bjoin hb3' hb2
        have hc3 := HOLD.out _ hb3
        go_wp2_with fail
        refine (HG12.out _ hb3).mono ?_
        rintro e w4 ⟨rfl, hb4'⟩
        have hb4 := bjoin hb4' hb3
        have hc4 := HOLD.out _ hb4
        go_wp2_with fail
        refine (HLR.out _ _ _ hb4).mono ?_
        rintro e w5 ⟨rfl, hb5'⟩
        have hb5 := bjoin hb5' hb4
        have HW5 := hide (bjoin hb5 HB0.out)
        cases hp : (pointer.toList == [])
        · have HV : looseV kind ct idt tag query pointer page = .iface 92 (.agg #[.string ct, .string tag, .string query, .string pointer]) := by unfold looseV; rw [hc, hp]; rfl
          have HY : Hid ((.iface 92 (.agg #[.string ct, .string tag, .string query, .string pointer]), nextL ct tag query pointer) = readL kind ct ver idt tag query pointer page) := by rw [HX.out, HV, hc, hp]; rfl
          rw [HV]
          clear HV HX HX0
          go_wp2_with (first | (go_at_call 115; refine (nextLacks_any ct tag query pointer _ Z2 Z5 Z6 Z7).mono ?_; rintro e w6 ⟨rfl, hb6⟩))
          exact bodyPost_ret (v := pairV (.iface 92 (.agg #[.string ct, .string tag, .string query, .string pointer]), nextL ct tag query pointer)) (by simp [results, Tryz.results17, go_sem, pairV]) rfl ⟨ret_pair HY.out, bjoin hb6 HW5.out⟩
        · have HV : looseV kind ct idt tag query pointer page = .iface 95 (.agg #[.string ct, .string tag, .string query, .int .i64 page]) := by unfold looseV; rw [hc, hp]; rfl
          have HY : Hid ((.iface 95 (.agg #[.string ct, .string tag, .string query, .int .i64 page]), newL ct tag query page) = readL kind ct ver idt tag query pointer page) := by rw [HX.out, HV, hc, hp]; rfl
          rw [HV]
          clear HV HX HX0
          go_wp2_with (first | (go_at_call 119; refine (newLacks_any ct tag query page _ Z2 Z5 Z6).mono ?_; rintro e w6 ⟨rfl, hb6⟩))
          exact bodyPost_ret (v := pairV (.iface 95 (.agg #[.string ct, .string tag, .string query, .int .i64 page]), newL ct tag query page)) (by simp [results, Tryz.results17, go_sem, pairV]) rfl ⟨ret_pair HY.out, bjoin hb6 HW5.out⟩
end Go.Proofs.YtebdfmijlnkcbaaGreatDoor.Msg
