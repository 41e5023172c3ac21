import Derived.Test.YtfcmhnfdbobnlaaGreatDoorQryReadwithImplOkwithTextImpl
import Derived.Test.YtfcmhnfdbobnlaaGreatDoorShelf
import Derived.WalkSmall
import Derived.Lib.AtoiErrMem
import Derived.Lib.AppendIntMem
import Derived.Test.YtfcmhnfdbobnlaaGreatDoorPageI
import Derived.Test.YtfcmhnfdbobnlaaGreatDoorPhasewithRRplKitwithPageKit
import Derived.Test.YtfcmhnfdbobnlaaGreatDoorMsgInjwithSameMsgwithSameMsg2
import Derived.Test.YtfcmhnfdbobnlaaGreatDoorNumwithQrySpecwithQryNum
namespace Go.Proofs.YtfcmhnfdbobnlaaGreatDoor.Msg
open Go.ChangeShapes Go.WideShapes Go.ChangeAt Go.RowKit
set_option linter.unusedVariables false
set_option linter.unusedSimpArgs false

/-- what the library's functions ask of the package's variables -/
structure Env (w : World) : Prop where
  tab : Lib.TabIs Tryz.prog w "internal/strconv.uint64pow10" .u64 Lib.pow10Tab
  syn : ∃ ev, w.cell? ⟨0, 0, none⟩ = some ev ∧ (ev = .nilIface ∨ ∃ te pe, ev = .iface te pe)
  rng : ∃ ev, w.cell? ⟨1, 0, none⟩ = some ev ∧ (ev = .nilIface ∨ ∃ te pe, ev = .iface te pe)
theorem lt_of_cell {w : World} {b o : Nat} {v : Value} (h : w.cell? ⟨b, o, none⟩ = some v) : b < w.heap.size := by
  rcases Nat.lt_or_ge b w.heap.size with h' | h'
  · exact h'
  · simp [World.cell?, Array.getElem?_eq_none h'] at h
theorem tabG : Tryz.prog.globalNamed "internal/strconv.uint64pow10" = some 2 := by kernel_rfl
theorem tab_kept {w w' : World} (h : Below w.heap.size w w') (hv : Lib.TabIs Tryz.prog w "internal/strconv.uint64pow10" .u64 Lib.pow10Tab) : Lib.TabIs Tryz.prog w' "internal/strconv.uint64pow10" .u64 Lib.pow10Tab := by
  have hc : w.cell? ⟨2, 0, none⟩ = some (.int .u64 1) := by simpa [Lib.pow10Tab] using World.var?_cell tabG hv 0
  exact var?_below h tabG (lt_of_cell hc) hv
theorem Env.kept {w w' : World} (h : Env w) (hb : Below w.heap.size w w') : Env w' := by
  obtain ⟨h1, ⟨e2, c2, d2⟩, ⟨e3, c3, d3⟩⟩ := h
  exact ⟨tab_kept hb h1, ⟨e2, by rw [hb.cell (p := ⟨0, 0, none⟩) (lt_of_cell c2)]; exact c2, d2⟩, ⟨e3, by rw [hb.cell (p := ⟨1, 0, none⟩) (lt_of_cell c3)]; exact c3, d3⟩⟩

theorem itoaT (v : Int) (s : ByteArray) : ((⟨(Lib.itoa v).toArray⟩ : ByteArray).toList == s.toList) = (Lib.itoa v == s.data.toList) := by
  rw [ByteArray.toList_eq, ByteArray.toList_eq]

set_option maxRecDepth 100000 in
set_option maxHeartbeats 1000000 in
theorem numberOf_any (s : ByteArray) (w : World) (hs : s.size ≤ 1048576) (hE : Env w) :
    Calls Tryz.prog 38 #[.string s] w fun e w' => e = .returned (.int .i64 (numI s.data.toList)) ∧ Below w.heap.size w w' := by
  have HE := hide hE
  clear hE
  have HN : Hid (numI s.data.toList = match Lib.atoiAll s.data.toList with
    | .ok v => if Lib.itoa v == s.data.toList then v else 0
    | _ => 0) := rfl
  cases ha : Lib.atoiAll s.data.toList with
  | ok v =>
    have HB := hide (Lib.atoiAll_bounds ha)
    have HA := hide ha
    have HI := hide (itoaT v s)
    have HAT : Hid (∀ W, Calls Tryz.prog 58 #[.string s] W fun e w' => e = .returned (.tuple #[.int .i64 v, .nilIface]) ∧ Below W.heap.size W w') := fun W => (Tryz.strconv_Atoi_ok s (by omega) v HA.out W).mono fun e w' ⟨h1, h2⟩ => ⟨h1, by
      rcases h2 with rfl | ⟨t, rfl⟩
      · exact Below.refl _ _
      · exact Lib.bytesWorld_below _ _ _⟩
    have HIT : Hid (∀ W, Env W → Calls Tryz.prog 59 #[.int .i64 v] W fun e w' => e = .returned (.string ⟨(Lib.itoa v).toArray⟩) ∧ Below W.heap.size W w') := fun W hW => (Tryz.strconv_Itoa v HB.out.1 HB.out.2 W hW.tab).mono fun e w' ⟨h1, k, os, h2⟩ => ⟨h1, by subst h2; exact Lib.below_grow _ _ (Nat.le_refl _) _ _⟩
    obtain ⟨z, hz⟩ : ∃ z : ByteArray, (⟨(Lib.itoa v).toArray⟩ : ByteArray) = z := ⟨_, rfl⟩
    rw [hz] at HI HIT
    clear hz ha
    cases he : (z.toList == s.toList)
    · have HX : Hid (numI s.data.toList = 0) := by rw [HN.out, HA.out]; show (if _ then _ else _) = _; rw [← HI.out, he]; rfl
      go_enter Tryz.func38, Tryz.ntmps38
      go_wp2_with fail
      refine (HAT.out _).mono ?_
      rintro e w1 ⟨rfl, hb1⟩
      have HE1 := hide (HE.out.kept hb1)
      go_wp2_with (go_at_call 59; refine (HIT.out _ HE1.out).mono ?_; rintro e w2 ⟨rfl, hb2⟩)
      go_ret
      exact ⟨ret_int HX.out.symm, bjoin hb2 hb1⟩
    · have HX : Hid (numI s.data.toList = v) := by rw [HN.out, HA.out]; show (if _ then _ else _) = _; rw [← HI.out, he]; rfl
      go_enter Tryz.func38, Tryz.ntmps38
      go_wp2_with fail
      refine (HAT.out _).mono ?_
      rintro e w1 ⟨rfl, hb1⟩
      have HE1 := hide (HE.out.kept hb1)
      go_wp2_with (go_at_call 59; refine (HIT.out _ HE1.out).mono ?_; rintro e w2 ⟨rfl, hb2⟩)
      go_ret
      exact ⟨ret_int HX.out.symm, bjoin hb2 hb1⟩
  | «syntax» =>
    have HX : Hid (numI s.data.toList = 0) := by rw [HN.out, ha]; trivial
    obtain ⟨ev, hv, hev⟩ := HE.out.syn
    have HAT := hide (Tryz.strconv_Atoi_syntax s (by omega) ha ev w hv hev)
    clear ha hv hev
    go_enter Tryz.func38, Tryz.ntmps38
    go_wp2_with fail
    refine HAT.out.mono ?_
    rintro e w1 ⟨N, rfl, _, _, hb1⟩
    go_wp2_with fail
    go_ret
    exact ⟨ret_int HX.out.symm, hb1⟩
  | range =>
    have HX : Hid (numI s.data.toList = 0) := by rw [HN.out, ha]; trivial
    obtain ⟨ev, hv, hev⟩ := HE.out.rng
    have HAT := hide (Tryz.strconv_Atoi_range s (by omega) ha ev w hv hev)
    clear ha hv hev
    go_enter Tryz.func38, Tryz.ntmps38
    go_wp2_with fail
    refine HAT.out.mono ?_
    rintro e w1 ⟨N, rfl, _, _, hb1⟩
    go_wp2_with fail
    go_ret
    exact ⟨ret_int HX.out.symm, hb1⟩
end Go.Proofs.YtfcmhnfdbobnlaaGreatDoor.Msg

namespace Go.Proofs.YtfcmhnfdbobnlaaGreatDoor.Msg
open Go.ChangeShapes Go.WideShapes Go.ChangeAt Go.RowKit
set_option linter.unusedVariables false
set_option linter.unusedSimpArgs false

/-! WriteReply of the program, to be read -/
theorem MsgPost.readL {w : World} {xs : List Seg} {e : Ending} {w' : World} (h : MsgPost w xs e w') : ReadPostL w xs e w' :=
  let ⟨u, he, bs, hO, _, hf, hb⟩ := h
  ⟨u, he, OAt.toAt toAt_seg hO hf, hb⟩
theorem itoaR_any (n : Int) (h0 : 0 ≤ n) (h1 : n ≤ 9223372036854775807) (w : World) (hT : Lib.TabIs Tryz.prog w "internal/strconv.uint64pow10" .u64 Lib.pow10Tab) :
    Calls Tryz.prog 59 #[.int .i64 n] w fun e w' => e = .returned (.string (decT n.toNat)) ∧ Below w.heap.size w w' := by
  refine (Tryz.strconv_Itoa n (by omega) h1 w hT).mono fun e w' ⟨h, k, os, h2⟩ => ⟨?_, by subst h2; exact Lib.below_grow _ _ (Nat.le_refl _) _ _⟩
  rw [h]
  unfold Lib.itoa decT
  rw [if_neg (by omega)]
theorem ltP (a b c d : Value) (w : World) : (Go.method 285 97 (.agg #[a, b, c, d]) "loop.example/s01639/impl.lacks").run Tryz.prog w = .ok (143, .agg #[a, b, c, d]) w := by kernel_rfl
theorem wtP (a b c d : Value) (w : World) : (Go.method 285 97 (.agg #[a, b, c, d]) "loop.example/s01639/impl.write").run Tryz.prog w = .ok (144, .agg #[a, b, c, d]) w := by kernel_rfl
theorem ltE (a b c d : Value) (w : World) : (Go.method 285 99 (.agg #[a, b, c, d]) "loop.example/s01639/impl.lacks").run Tryz.prog w = .ok (158, .agg #[a, b, c, d]) w := by kernel_rfl
theorem wtE (a b c d : Value) (w : World) : (Go.method 285 99 (.agg #[a, b, c, d]) "loop.example/s01639/impl.write").run Tryz.prog w = .ok (159, .agg #[a, b, c, d]) w := by kernel_rfl
theorem enLP : ∀ args w, (callFunc 143 args).run Tryz.prog w = .ok (.enter 143 args) w := enters_of Tryz.func143 (by kernel_rfl) rfl
theorem enWP : ∀ args w, (callFunc 144 args).run Tryz.prog w = .ok (.enter 144 args) w := enters_of Tryz.func144 (by kernel_rfl) rfl
theorem enLE : ∀ args w, (callFunc 158 args).run Tryz.prog w = .ok (.enter 158 args) w := enters_of Tryz.func158 (by kernel_rfl) rfl
theorem enWE : ∀ args w, (callFunc 159 args).run Tryz.prog w = .ok (.enter 159 args) w := enters_of Tryz.func159 (by kernel_rfl) rfl
theorem readL_nil (w w' : World) (a : Option Addr) (c : Nat) (hb : Below w.heap.size w w') : ReadPostL w [] (.returned (.agg #[.slice a 0 c])) w' := ⟨_, rfl, ⟨by simp, .inl ⟨a, c, rfl, rfl⟩⟩, hb⟩

set_option maxRecDepth 100000 in
set_option maxHeartbeats 4000000 in
/-- writeLetter of a letter that lacks nothing -/
theorem writeLetterL (T fl fw : Nat) (av : Value) (xs : List Seg) (w : World) (m1 : ∀ w, (Go.method 285 T av "loop.example/s01639/impl.lacks").run Tryz.prog w = .ok (fl, av) w) (m2 : ∀ w, (Go.method 285 T av "loop.example/s01639/impl.write").run Tryz.prog w = .ok (fw, av) w)
    (hl : ∀ W, Below w.heap.size w W → Calls Tryz.prog fl #[av] W fun e w' => e = .returned .nilIface ∧ Below W.heap.size W w') (hw : ∀ W, Below w.heap.size w W → Calls Tryz.prog fw #[av] W (ReadPostL W xs)) (hsz : msgSz xs ≤ 1048576) (e1 : ∀ args w, (callFunc fl args).run Tryz.prog w = .ok (.enter fl args) w) (e2 : ∀ args w, (callFunc fw args).run Tryz.prog w = .ok (.enter fw args) w) :
    Calls Tryz.prog 40 #[.iface T av] w (ReadPostL w (onlyGood xs)) := by
  obtain ⟨w1, hw1⟩ : ∃ w1, w.alloc (Obj.cells #[.slice none 0 0] 33) = w1 := ⟨_, rfl⟩
  have hb1 : Below w.heap.size w w1 := by rw [← hw1]; exact (Below.refl _ _).alloc (Nat.le_refl _) _
  have HRES : Hid (Box w1 w.heap.size 33 #[.slice none 0 0]) := by rw [← hw1]; exact Box.new _ _ _
  have l1 : w.heap.size < w1.heap.size := by rw [← hw1]; simp
  have HL := hide hl
  have HW := hide hw
  clear hl hw
  go_enter Tryz.func40, Tryz.ntmps40
  go_wp2_with fail
  refine (HL.out _ hb1).mono ?_
  rintro e w2 ⟨rfl, hb2⟩
  have hB2 := bjoin hb2 hb1
  go_wp2_with fail
  refine (HW.out _ hB2).mono ?_
  rintro e w3 ⟨u, rfl, hS, hb3⟩
  obtain ⟨a, c, rfl, _⟩ := hS.form
  have hB3 := bjoin hb3 hb2
  have hs2 := hb2.size
  have hs3 := hB3.size
  obtain ⟨w4, hw4⟩ : ∃ w4, w3.alloc (Obj.cells #[.slice a xs.length c] 33) = w4 := ⟨_, rfl⟩
  have hb4 : Below w3.heap.size w3 w4 := by rw [← hw4]; exact (Below.refl _ _).alloc (Nat.le_refl _) _
  have HM4 : Hid (Box w4 w3.heap.size 33 #[.slice a xs.length c]) := by rw [← hw4]; exact Box.new _ _ _
  have d4 : w4.cell? ⟨w3.heap.size, 0, none⟩ = some (.slice a xs.length c) := HM4.out.cell 0 (by simp)
  have HS4 := hide (At.kept kept_seg hS hb4)
  have HB4 := hide (bjoin hb4 hB3)
  clear hS hb3 hB3 hb4
  go_wp2_with fail
  refine (msgIn_any xs _ _ hsz HS4.out).mono ?_
  rintro e w5 ⟨rfl, hb5⟩
  have HB5 := hide (bjoin hb5 HB4.out)
  have HR5 := hide (HRES.out.below HB5.out)
  have d5 : w5.cell? ⟨w3.heap.size, 0, none⟩ = some (.slice a xs.length c) := (HM4.out.below hb5).cell 0 (by simp)
  have r0 : w5.cell? ⟨w.heap.size, 0, none⟩ = some (.slice none 0 0) := HR5.out.cell 0 (by simp)
  have rf : w5.frozen? ⟨w.heap.size, 0, none⟩ = false := HR5.out.frozen 0
  have rl : w.heap.size < w5.heap.size := HR5.out.lt
  have HS5 := hide (At.kept kept_seg HS4.out hb5)
  have HSF : Hid (∀ x, SegsAt w.heap.size (w5.setCell ⟨w.heap.size, 0, none⟩ x) (.slice a xs.length c) xs) := fun x =>
    At.mono mono_seg (At.same kept_seg HS5.out ⟨by rw [Deep.nblk_setCell]; exact Nat.le_refl _, fun b h1 h2 => Deep.blk_setCell_other _ ⟨w.heap.size, 0, none⟩ _ b (by dsimp only; omega)⟩) (by omega)
  have HBF : Hid (∀ x, Below w.heap.size w (w5.setCell ⟨w.heap.size, 0, none⟩ x)) := fun x => (bjoin HB5.out hb1).setCell (p := ⟨w.heap.size, 0, none⟩) (Nat.le_refl _) x
  clear hb5 hs2 hs3 d4
  have hbb : msgB xs = true ∨ msgB xs = false := by cases msgB xs; exact .inr rfl; exact .inl rfl
  rcases hbb with hbb | hbb
  · have HOG : Hid (onlyGood xs = xs) := by unfold onlyGood; rw [hbb]; exact rfl
    rw [hbb]
    clear hbb
    go_wp2_with fail
    exact bodyPost_ret (v := .agg #[.slice a xs.length c]) (by simp [results, Tryz.results40, go_sem, r0, rl]) rfl (by rw [HOG.out]; exact ⟨_, rfl, HSF.out _, HBF.out _⟩)
  · have HOG : Hid (onlyGood xs = []) := by unfold onlyGood; rw [hbb]; exact rfl
    rw [hbb]
    clear hbb
    go_wp2_with fail
    exact bodyPost_ret (v := .agg #[.slice none 0 0]) (by simp [results, Tryz.results40, go_sem, r0, rl]) rfl (by rw [HOG.out]; exact readL_nil _ _ _ _ (HBF.out _))

set_option maxRecDepth 100000 in
set_option maxHeartbeats 2000000 in
/-- writeLetter of a letter that lacks something -/
theorem writeLetterN (T fl : Nat) (av : Value) (c : Int) (w : World) (m1 : ∀ w, (Go.method 285 T av "loop.example/s01639/impl.lacks").run Tryz.prog w = .ok (fl, av) w)
    (hl : ∀ W, Below w.heap.size w W → Calls Tryz.prog fl #[av] W fun e w' => e = .returned (lackV c) ∧ Below W.heap.size W w') (e1 : ∀ args w, (callFunc fl args).run Tryz.prog w = .ok (.enter fl args) w) :
    Calls Tryz.prog 40 #[.iface T av] w (ReadPostL w []) := by
  obtain ⟨w1, hw1⟩ : ∃ w1, w.alloc (Obj.cells #[.slice none 0 0] 33) = w1 := ⟨_, rfl⟩
  have hb1 : Below w.heap.size w w1 := by rw [← hw1]; exact (Below.refl _ _).alloc (Nat.le_refl _) _
  have HRES : Hid (Box w1 w.heap.size 33 #[.slice none 0 0]) := by rw [← hw1]; exact Box.new _ _ _
  have HL := hide hl
  clear hl
  go_enter Tryz.func40, Tryz.ntmps40
  go_wp2_with fail
  refine (HL.out _ hb1).mono ?_
  rintro e w2 ⟨rfl, hb2⟩
  dsimp only [lackV]
  have HR2 := hide (HRES.out.below hb2)
  have c2 : w2.cell? ⟨w.heap.size, 0, none⟩ = some (.slice none 0 0) := HR2.out.cell 0 (by simp)
  have f2 : w2.frozen? ⟨w.heap.size, 0, none⟩ = false := HR2.out.frozen 0
  have l2 : w.heap.size < w2.heap.size := HR2.out.lt
  have HBF : Hid (∀ x, Below w.heap.size w (w2.setCell ⟨w.heap.size, 0, none⟩ x)) := fun x => (bjoin hb2 hb1).setCell (p := ⟨w.heap.size, 0, none⟩) (Nat.le_refl _) x
  clear hb2
  go_wp2_with fail
  exact bodyPost_ret (v := .agg #[.slice none 0 0]) (by simp [results, Tryz.results40, go_sem, c2, l2]) rfl (readL_nil _ _ _ _ (HBF.out _))

/-- writeLetter of what replyOf gives -/
theorem wl_any (r : Rpl) (a : Option Addr) (c : Nat) (w : World) {lo : Nat} (h0 : r.ack.size ≤ 1048576) (h1 : r.control.size ≤ 1048576) (h2 : r.tag.size ≤ 1048576) (h3 : r.pointer.size ≤ 1048576) (hv : StrsAt lo w (.slice a r.rows.length c) r.rows) (hE : Env w) :
    Calls Tryz.prog 40 #[rplL r (.slice a r.rows.length c)] w (ReadPostL w (rplM r)) := by
  unfold rplL
  rcases kind_cases r with hk | hk | hk
  · rw [hk]
    have : rplM r = [] := by unfold rplM; rw [ok_none hk]; rfl
    rw [this]
    exact (writeLetter_nil w).mono fun e w' h => h.readL
  · rw [hk]
    obtain ⟨ha, hc, hok⟩ := ok_page hk
    have hsp : specM r = pageM r.control r.tag r.rows r.pointer := by unfold specM; rw [ha]; rfl
    have HLK := fun W (h : Below w.heap.size w W) => pageLacks_any r.control r.tag r.pointer r.rows (.slice a r.rows.length c) W (lo := lo) (by omega) (by omega) (by omega) (At.kept kept_str hv h)
    cases hL : pageL r.control r.tag r.rows r.pointer with
    | some k =>
      rw [hL] at hok HLK
      have : rplM r = [] := by unfold rplM; rw [hok]; rfl
      rw [this]
      exact writeLetterN _ _ _ k w (fun W => ltP _ _ _ _ W) HLK enLP
    | none =>
      rw [hL] at hok HLK
      have hM : rplM r = onlyGood (pageM r.control r.tag r.rows r.pointer) := by unfold rplM; rw [hok, hsp]; rfl
      have hparts : rheadB r.control r.tag = true ∧ rowsB r.rows 200 = true ∧ textB r.pointer = true := by
        unfold pageL at hL
        split at hL
        · rename_i h; simpa [Bool.and_eq_true] using h
        · cases hL
      rw [hM]
      obtain ⟨q1, q2⟩ := rows_sz hparts.2.1
      exact writeLetterL _ _ _ _ _ w (fun W => ltP _ _ _ _ W) (fun W => wtP _ _ _ _ W) HLK (fun W h => pageWrite_any r.control r.tag r.pointer r.rows a c W (lo := lo) h1 h2 h3 q1 (fun s hs => Nat.le_trans (q2 s hs) (by decide)) (At.kept kept_str hv h)) (pageM_sz hparts.1 hparts.2.1 hparts.2.2) enLP enWP
  · rw [hk]
    obtain ⟨ha, hc, hok⟩ := ok_err hk
    have hsp : specM r = errM r.ack r.control r.tag (decT r.code.toNat) := by unfold specM; rw [ha]; rfl
    have HLK := fun W (h : Below w.heap.size w W) => errorLacks_any r.ack r.control r.tag r.code W (by omega) (by omega)
    cases hL : errorL r.control r.code r.tag with
    | some k =>
      rw [hL] at hok HLK
      have : rplM r = [] := by unfold rplM; rw [hok]; rfl
      rw [this]
      exact writeLetterN _ _ _ k w (fun W => ltE _ _ _ _ W) HLK enLE
    | none =>
      rw [hL] at hok HLK
      have hM : rplM r = onlyGood (errM r.ack r.control r.tag (decT r.code.toNat)) := by unfold rplM; rw [hok, hsp]; rfl
      have hparts : rheadB r.control r.tag = true ∧ 1 ≤ r.code ∧ r.code ≤ 999 := by
        unfold errorL at hL
        split at hL
        · rename_i h; simpa [Bool.and_eq_true] using h
        · cases hL
      rw [hM]
      have hd := decT_size3 r.code.toNat (by omega)
      exact writeLetterL _ _ _ _ _ w (fun W => ltE _ _ _ _ W) (fun W => wtE _ _ _ _ W) HLK (fun W h => (errorWrite_any r.ack r.control r.tag (decT r.code.toNat) r.code W h0 h1 h2 (by omega) (hide fun V hV => itoaR_any r.code (by omega) (by omega) V (tab_kept hV (hE.kept h).tab))).mono fun e w' q => q.readL) (errM_sz hparts.1 (by have := ack_sz hc; omega) (by omega)) enLE enWE

set_option maxRecDepth 100000 in
set_option maxHeartbeats 4000000 in
theorem writeRplI_any (r : Rpl) (a : Option Addr) (c : Nat) (w : World) {lo : Nat} (h0 : r.ack.size ≤ 1048576) (h1 : r.control.size ≤ 1048576) (h2 : r.tag.size ≤ 1048576) (h3 : r.pointer.size ≤ 1048576) (hl : r.rows.length ≤ 9223372036854775807) (hv : StrsAt lo w (.slice a r.rows.length c) r.rows) (hE : Env w) :
    Calls Tryz.prog 21 #[rplV r (.slice a r.rows.length c)] w (ReadPostL w (rplM r)) := by
  have HOF := hide (fun W => replyOf_any r a c W hl)
  have HWL := hide (fun W (h : Below w.heap.size w W) => wl_any r a c W (lo := lo) h0 h1 h2 h3 (At.kept kept_str hv h) (hE.kept h))
  obtain ⟨xs, hxs⟩ : ∃ xs, rplM r = xs := ⟨_, rfl⟩
  rw [hxs] at HWL ⊢
  obtain ⟨lv, hlv⟩ : ∃ lv, rplL r (.slice a r.rows.length c) = lv := ⟨_, rfl⟩
  rw [hlv] at HOF HWL
  clear hxs hlv hv hE
  obtain ⟨ack, control, code, tag, rows, pointer⟩ := r
  unfold rplV at HOF ⊢
  dsimp only at HOF HWL h0 h1 h2 h3 hl ⊢
  obtain ⟨x1, hx1⟩ : ∃ x1, w.alloc (Obj.cells #[.string ack, .string control, .int .i64 code, .string tag, .slice a rows.length c, .string pointer] 28) = x1 := ⟨_, rfl⟩
  obtain ⟨w1, hw1⟩ : ∃ w1, x1.alloc (Obj.cells #[.slice none 0 0] 33) = w1 := ⟨_, rfl⟩
  have sx1 : x1.heap.size = w.heap.size + 1 := by rw [← hx1]; simp
  have sw1 : w1.heap.size = w.heap.size + 1 + 1 := by rw [← hw1]; simp [sx1]
  have bx1 : Below w.heap.size w x1 := by rw [← hx1]; exact (Below.refl _ _).alloc (Nat.le_refl _) _
  have bw1 : Below x1.heap.size x1 w1 := by rw [← hw1]; exact (Below.refl _ _).alloc (Nat.le_refl _) _
  have HP : Hid (Box w1 w.heap.size 28 #[.string ack, .string control, .int .i64 code, .string tag, .slice a rows.length c, .string pointer]) := by rw [← hw1, ← hx1]; exact (Box.new _ _ _).alloc _
  have HRES : Hid (Box w1 (w.heap.size + 1) 33 #[.slice none 0 0]) := by rw [← hw1, ← sx1]; exact Box.new _ _ _
  have HB1 := hide (bjoin' bw1 bx1)
  refine rb6 HP.out ?_
  rintro _ ⟨⟨z0, z1, z2, z3, z4, z5⟩, -⟩
  have HSW := hide sw1
  clear bx1 bw1 sw1
  go_enter Tryz.func21, Tryz.ntmps21
  go_wp2_with fail
  refine (HOF.out _).mono ?_
  rintro e w2 ⟨rfl, hb2⟩
  have HB2 := hide (bjoin' hb2 HB1.out)
  have HR2 := hide (HRES.out.below hb2)
  clear z0 z1 z2 z3 z4 z5 hb2
  go_wp2_with fail
  refine (HWL.out _ HB2.out).mono ?_
  rintro e w3 ⟨u, rfl, hS, hb3⟩
  obtain ⟨a3, c3, rfl, _⟩ := hS.form
  have HR3 := hide (HR2.out.below hb3)
  have r0 : w3.cell? ⟨w.heap.size + 1, 0, none⟩ = some (.slice none 0 0) := HR3.out.cell 0 (by simp)
  have rf : w3.frozen? ⟨w.heap.size + 1, 0, none⟩ = false := HR3.out.frozen 0
  have rl : w.heap.size + 1 < w3.heap.size := HR3.out.lt
  have h2s : w.heap.size + 1 < w2.heap.size := HR2.out.lt
  have HSF : Hid (∀ x, SegsAt w.heap.size (w3.setCell ⟨w.heap.size + 1, 0, none⟩ x) (.slice a3 xs.length c3) xs) := fun x =>
    At.mono mono_seg (At.same kept_seg hS ⟨by rw [Deep.nblk_setCell]; exact Nat.le_refl _, fun b h1 h2 => Deep.blk_setCell_other _ ⟨w.heap.size + 1, 0, none⟩ _ b (by dsimp only; omega)⟩) (by omega)
  have HBF : Hid (∀ x, Below w.heap.size w (w3.setCell ⟨w.heap.size + 1, 0, none⟩ x)) := fun x => (bjoin hb3 HB2.out).setCell (p := ⟨w.heap.size + 1, 0, none⟩) (Nat.le_succ _) x
  clear hS hb3
  go_wp2_with fail
  exact bodyPost_ret (v := .agg #[.slice a3 xs.length c3]) (by simp [results, Tryz.results21, go_sem, r0, rl]) rfl ⟨_, rfl, HSF.out _, HBF.out _⟩
end Go.Proofs.YtfcmhnfdbobnlaaGreatDoor.Msg

namespace Go.Proofs.YtfcmhnfdbobnlaaGreatDoor.Msg
open Go.ChangeShapes Go.WideShapes Go.ChangeAt Go.RowKit
set_option linter.unusedVariables false
set_option linter.unusedSimpArgs false

/-! ReadReply of the program, over lists, and that it is the specification's -/
def looseI (xs : List Seg) : Rpl := ⟨getFrom xs ⟨#[77, 83, 65]⟩ 1 1, getFrom xs ⟨#[77, 83, 65]⟩ 2 1, numI (getFrom xs ⟨#[69, 82, 82]⟩ 3 1).data.toList, getFrom xs ⟨#[81, 65, 75]⟩ 1 1, rowsOf xs, getFrom xs ⟨#[68, 83, 67]⟩ 1 1⟩
open Classical in
noncomputable def readI (xs : List Seg) : Rpl × Bool := if encoded xs ≠ ⟨#[]⟩ ∧ encoded xs = encoded (rplM (looseI xs)) then (looseI xs, true) else (rpl0, false)
theorem onlyGood_ok (xs : List Seg) : onlyGood xs = [] ∨ (onlyGood xs = xs ∧ msgB xs = true) := by
  unfold onlyGood
  cases h : msgB xs
  · exact .inl rfl
  · exact .inr ⟨rfl, rfl⟩
theorem rplM_ok (r : Rpl) : rplM r = [] ∨ (msgB (rplM r) = true ∧ okRpl r = true ∧ rplM r = specM r) := by
  unfold rplM
  cases h : okRpl r
  · exact .inl rfl
  · simp only [if_true]
    rcases onlyGood_ok (specM r) with h1 | ⟨h1, h2⟩
    · exact .inl h1
    · exact .inr ⟨by rw [h1]; exact h2, by simp, h1⟩
theorem encoded_full {xs : List Seg} (h : msgB xs = true) : encoded xs ≠ ⟨#[]⟩ := fun e => by
  rw [encoded_yes h] at e
  have e1 := congrArg (fun b : ByteArray => b.data.toList) e
  exact msgW_ne h (by simpa using e1)
theorem encoded_ok {xs : List Seg} (h : encoded xs ≠ ⟨#[]⟩) : msgB xs = true := by
  cases hb : msgB xs
  · exact absurd (encoded_no hb) h
  · rfl
/-- no segment of a page is named ERR -/
theorem page_err (control tag : ByteArray) (rows : List ByteArray) (pointer : ByteArray) : getFrom (pageM control tag rows pointer) ⟨#[69, 82, 82]⟩ 3 1 = ⟨#[]⟩ := by
  have hn : (pageM control tag rows pointer).find? (fun s => s.name.toList == (⟨#[69, 82, 82]⟩ : ByteArray).toList) = none := by
    rw [List.find?_eq_none]
    intro x hx
    unfold pageM at hx
    simp only [List.mem_append, List.mem_cons, List.not_mem_nil, or_false, List.mem_map] at hx
    have key : ∀ n : ByteArray, n.data.toList ≠ [69, 82, 82] → ¬ (n.toList == (⟨#[69, 82, 82]⟩ : ByteArray).toList) = true := fun n h e => h (by have := eq_of_beq e; rw [ByteArray.toList_eq, ByteArray.toList_eq] at this; exact this)
    rcases hx with ((rfl | rfl | rfl) | ⟨s, _, rfl⟩) | hx
    · exact key _ (by decide)
    · exact key _ (by show (⟨#[77, 83, 65]⟩ : ByteArray).data.toList ≠ _; decide)
    · exact key _ (by show (⟨#[81, 65, 75]⟩ : ByteArray).data.toList ≠ _; decide)
    · exact key _ (by show (⟨#[82, 68, 84]⟩ : ByteArray).data.toList ≠ _; decide)
    · unfold dscM at hx
      split at hx
      · cases hx
      · rw [List.mem_singleton.1 hx]
        exact key _ (by show (⟨#[68, 83, 67]⟩ : ByteArray).data.toList ≠ _; decide)
  unfold getFrom
  rw [hn]
theorem numI_none : numI ([] : List UInt8) = 0 := rfl
/-- a reply of some code that is in order -/
theorem okCode {r : Rpl} (h : okRpl r = true) : (aAA r.ack = true → r.code = 0) ∧ (aAA r.ack = false → 1 ≤ r.code ∧ r.code ≤ 999) := by
  unfold okRpl at h
  simp only [Bool.and_eq_true] at h
  refine ⟨fun ha => ?_, fun ha => ?_⟩
  · rw [ha] at h
    simpa using h.2.2.2
  · rw [ha] at h
    simp only [Bool.false_eq_true, if_false, Bool.and_eq_true, decide_eq_true_eq] at h
    exact ⟨h.2.2.2.2.1, h.2.2.2.2.2.1⟩
theorem loose_eq {xs : List Seg} (h : (looseS xs).code = (looseI xs).code) : looseS xs = looseI xs := by
  unfold looseS looseI at h ⊢
  dsimp only at h
  rw [h]
theorem read_yes (xs : List Seg) : (rplM (looseS xs) ≠ [] ∧ rplM (looseS xs) = xs) ↔ (encoded xs ≠ ⟨#[]⟩ ∧ encoded xs = encoded (rplM (looseI xs))) := by
  have eI : (encoded xs ≠ ⟨#[]⟩ ∧ encoded xs = encoded (rplM (looseI xs))) ↔ (rplM (looseI xs) ≠ [] ∧ rplM (looseI xs) = xs) := by
    constructor
    · rintro ⟨h1, h2⟩
      have m1 := encoded_ok h1
      have m2 : msgB (rplM (looseI xs)) = true := encoded_ok (by rw [← h2]; exact h1)
      have e := encoded_inj m1 m2 h2
      refine ⟨fun h => ?_, e.symm⟩
      rw [h] at m2
      exact absurd m2 (by decide)
    · rintro ⟨h1, h2⟩
      rcases rplM_ok (looseI xs) with h | ⟨h, _, _⟩
      · exact absurd h h1
      · rw [h2] at h
        exact ⟨encoded_full h, by rw [h2]⟩
  rw [eI]
  have hack : (looseS xs).ack = (looseI xs).ack := rfl
  have cS : (looseS xs).code = if aAA (looseS xs).ack then 0 else numS (getFrom xs ⟨#[69, 82, 82]⟩ 3 1).data.toList := rfl
  have cI : (looseI xs).code = numI (getFrom xs ⟨#[69, 82, 82]⟩ 3 1).data.toList := rfl
  constructor
  · rintro ⟨h1, h2⟩
    have e : looseS xs = looseI xs := by
      apply loose_eq
      rcases rplM_ok (looseS xs) with h | ⟨_, ok, sp⟩
      · exact absurd h h1
      · cases ha : aAA (looseS xs).ack
        · have := (okCode ok).2 ha
          rw [cS, ha] at this
          rw [cS, ha, cI]
          exact num_same _ (.inl (by simpa using this.1))
        · have hx : xs = pageM (looseS xs).control (looseS xs).tag (looseS xs).rows (looseS xs).pointer := by
            rw [sp] at h2
            unfold specM at h2
            rw [ha] at h2
            exact h2.symm
          have hg : getFrom xs ⟨#[69, 82, 82]⟩ 3 1 = ⟨#[]⟩ := by rw [hx]; exact page_err _ _ _ _
          rw [cS, ha, cI, hg]
          rfl
    rw [← e]
    exact ⟨h1, h2⟩
  · rintro ⟨h1, h2⟩
    have e : looseS xs = looseI xs := by
      apply loose_eq
      rcases rplM_ok (looseI xs) with h | ⟨_, ok, sp⟩
      · exact absurd h h1
      · cases ha : aAA (looseS xs).ack
        · have := (okCode ok).2 ha
          rw [cI] at this
          rw [cS, ha, cI]
          exact num_same _ (.inr ⟨this.1, by omega⟩)
        · have := (okCode ok).1 ha
          rw [cS, ha, this]
          rfl
    rw [e]
    exact ⟨h1, h2⟩
theorem read_same (xs : List Seg) : readS xs = readI xs := by
  unfold readI
  by_cases h : encoded xs ≠ ⟨#[]⟩ ∧ encoded xs = encoded (rplM (looseI xs))
  · rw [if_pos h]
    have h' := (read_yes xs).2 h
    rw [readS_yes h'.1 h'.2]
    have e : looseS xs = looseI xs := by
      apply loose_eq
      have cS : (looseS xs).code = if aAA (looseS xs).ack then 0 else numS (getFrom xs ⟨#[69, 82, 82]⟩ 3 1).data.toList := rfl
      have cI : (looseI xs).code = numI (getFrom xs ⟨#[69, 82, 82]⟩ 3 1).data.toList := rfl
      rcases rplM_ok (looseS xs) with h1 | ⟨_, ok, sp⟩
      · exact absurd h1 h'.1
      · cases ha : aAA (looseS xs).ack
        · have := (okCode ok).2 ha
          rw [cS, ha] at this
          rw [cS, ha, cI]
          exact num_same _ (.inl (by simpa using this.1))
        · have hx : xs = pageM (looseS xs).control (looseS xs).tag (looseS xs).rows (looseS xs).pointer := by
            have h2 := h'.2
            rw [sp] at h2
            unfold specM at h2
            rw [ha] at h2
            exact h2.symm
          have hg : getFrom xs ⟨#[69, 82, 82]⟩ 3 1 = ⟨#[]⟩ := by rw [hx]; exact page_err _ _ _ _
          rw [cS, ha, cI, hg]
          rfl
    rw [e]
  · rw [if_neg h]
    exact readS_no fun h' => h ((read_yes xs).1 h')
end Go.Proofs.YtfcmhnfdbobnlaaGreatDoor.Msg
