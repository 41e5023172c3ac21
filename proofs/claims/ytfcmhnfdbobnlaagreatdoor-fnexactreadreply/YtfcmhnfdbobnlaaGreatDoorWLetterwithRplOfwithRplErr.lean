import Derived.Test.YtfcmhnfdbobnlaaGreatDoorImplLetterXwithImplLetterNwithBufEsc
import Derived.Test.YtfcmhnfdbobnlaaGreatDoorQryImplwithRowsImplwithRplLacks
import Derived.Test.YtfcmhnfdbobnlaaGreatDoorMsgEncodewithImplMsgLwithImplMsgIn
namespace Go.Proofs.YtfcmhnfdbobnlaaGreatDoor.Msg
open Go.ChangeShapes Go.WideShapes Go.ChangeAt Go.RowKit
set_option linter.unusedVariables false
set_option linter.unusedSimpArgs false

theorem form_segs3 {w : World} {v : Value} {xs : List Seg} {bs : List Nat} (h : OSegs w v xs bs) : ∃ a c, v = .slice a xs.length c := by
  obtain ⟨a, c, e, _⟩ := (OAt.toAt toAt_seg h (lo := 0) (fun _ _ => Nat.zero_le _)).form
  exact ⟨a, c, e⟩

set_option maxRecDepth 100000 in
set_option maxHeartbeats 2000000 in
/-- writeLetter of a letter that lacks nothing and whose message is in order -/
theorem writeLetter_yes (T fl fw : Nat) (av : Value) (xs : List Seg) (w : World) (m1 : ∀ w, (Go.method 285 T av "loop.example/s01639/impl.lacks").run Tryz.prog w = .ok (fl, av) w) (m2 : ∀ w, (Go.method 285 T av "loop.example/s01639/impl.write").run Tryz.prog w = .ok (fw, av) w)
    (hl : ∀ W, Calls Tryz.prog fl #[av] W fun e w' => e = .returned .nilIface ∧ Below W.heap.size W w') (hw : ∀ W, Calls Tryz.prog fw #[av] W (MsgPost W xs)) (hB : msgB xs = true) (hsz : msgSz xs ≤ 1048576) (e1 : ∀ args w, (callFunc fl args).run Tryz.prog w = .ok (.enter fl args) w) (e2 : ∀ args w, (callFunc fw args).run Tryz.prog w = .ok (.enter fw args) w) :
    Calls Tryz.prog 40 #[.iface T av] w (MsgPost w xs) := by
  obtain ⟨w1, hw1⟩ : ∃ w1, w.alloc (Obj.cells #[.slice none 0 0] 33) = w1 := ⟨_, rfl⟩
  have hb1 : Below w.heap.size w w1 := by rw [← hw1]; exact (Below.refl _ _).alloc (Nat.le_refl _) _
  have c1 : w1.cell? ⟨w.heap.size, 0, none⟩ = some (.slice none 0 0) := by rw [← hw1]; simp
  have f1 : w1.frozen? ⟨w.heap.size, 0, none⟩ = false := by rw [← hw1]; simp
  have l1 : w.heap.size < w1.heap.size := by rw [← hw1]; simp
  have HL := hide hl
  have HW := hide hw
  have HBB := hide hB
  clear hl hw hB
  go_enter Tryz.func40, Tryz.ntmps40
  go_wp2_with fail
  refine (HL.out _).mono ?_
  rintro e w2 ⟨rfl, hb2⟩
  go_wp2_with fail
  refine (HW.out _).mono ?_
  rintro e w3 ⟨u, rfl, bs, hO, hN, hF, hb3⟩
  obtain ⟨a, c, rfl⟩ := form_segs3 hO
  have hB3 := bjoin hb3 hb2
  have c3 : w3.cell? ⟨w.heap.size, 0, none⟩ = some (.slice none 0 0) := (hB3.cell (p := ⟨w.heap.size, 0, none⟩) l1).trans c1
  have f3 : w3.frozen? ⟨w.heap.size, 0, none⟩ = false := (hB3.frozen (p := ⟨w.heap.size, 0, none⟩) l1).trans f1
  have hs3 := hB3.size
  have hs2 := hb2.size
  obtain ⟨w4, hw4⟩ : ∃ w4, w3.alloc (Obj.cells #[.slice a xs.length c] 33) = w4 := ⟨_, rfl⟩
  have hb4 : Below w3.heap.size w3 w4 := by rw [← hw4]; exact (Below.refl _ _).alloc (Nat.le_refl _) _
  have d4 : w4.cell? ⟨w3.heap.size, 0, none⟩ = some (.slice a xs.length c) := by rw [← hw4]; simp
  have l4 : w3.heap.size < w4.heap.size := by rw [← hw4]; simp
  have HO4 := hide (OAt.kept keptO_seg hO hb4.size fun d hd => hb4.block d (OAt.lt ltO_seg hO d hd))
  have HF3 : Hid (∀ d ∈ bs, w2.heap.size ≤ d ∧ d < w3.heap.size) := fun d hd => ⟨hF d hd, OAt.lt ltO_seg hO d hd⟩
  have c4 : w4.cell? ⟨w.heap.size, 0, none⟩ = some (.slice none 0 0) := (hb4.cell (p := ⟨w.heap.size, 0, none⟩) (by dsimp only; omega)).trans c3
  have f4 : w4.frozen? ⟨w.heap.size, 0, none⟩ = false := (hb4.frozen (p := ⟨w.heap.size, 0, none⟩) (by dsimp only; omega)).trans f3
  have HB4 := hide (bjoin hb4 (bjoin hB3 hb1))
  have HND := hide hN
  clear hO hF hN hb3 hB3 hb4 c3 f3
  go_wp2_with fail
  refine (msgIn_any xs _ _ hsz (OAt.toAt toAt_seg HO4.out (lo := 0) (fun _ _ => Nat.zero_le _))).mono ?_
  rintro e w5 ⟨rfl, hb5⟩
  rw [HBB.out]
  have d5 : w5.cell? ⟨w3.heap.size, 0, none⟩ = some (.slice a xs.length c) := (hb5.cell (p := ⟨w3.heap.size, 0, none⟩) l4).trans d4
  have c5 : w5.cell? ⟨w.heap.size, 0, none⟩ = some (.slice none 0 0) := (hb5.cell (p := ⟨w.heap.size, 0, none⟩) (by dsimp only; omega)).trans c4
  have f5 : w5.frozen? ⟨w.heap.size, 0, none⟩ = false := (hb5.frozen (p := ⟨w.heap.size, 0, none⟩) (by dsimp only; omega)).trans f4
  have l5 : w.heap.size < w5.heap.size := by have := hb5.size; omega
  have HO5 := hide (OAt.kept keptO_seg HO4.out hb5.size fun d hd => hb5.block d (by have := (HF3.out d hd).2; omega))
  have HOF : Hid (∀ x, OSegs (w5.setCell ⟨w.heap.size, 0, none⟩ x) (.slice a xs.length c) xs bs) := fun x => OAt.kept keptO_seg HO5.out (by rw [Deep.nblk_setCell]; exact Nat.le_refl _) fun d hd => Deep.blk_setCell_other _ ⟨w.heap.size, 0, none⟩ _ d (by have := (HF3.out d hd).1; dsimp only; omega)
  have HBF : Hid (∀ x, Below w.heap.size w (w5.setCell ⟨w.heap.size, 0, none⟩ x)) := fun x => (bjoin hb5 HB4.out).setCell (p := ⟨w.heap.size, 0, none⟩) (Nat.le_refl _) x
  have HFR : Hid (∀ b ∈ bs, w.heap.size ≤ b) := fun b hb => by have := (HF3.out b hb).1; omega
  clear hb5
  go_wp2_with fail
  exact bodyPost_ret (v := .agg #[.slice a xs.length c]) (by simp [results, Tryz.results40, go_sem, c5, l5]) rfl ⟨_, rfl, bs, HOF.out _, HND.out, HFR.out, HBF.out _⟩
theorem msgPost_nil (w w' : World) (a : Option Addr) (c : Nat) (hb : Below w.heap.size w w') : MsgPost w [] (.returned (.agg #[.slice a 0 c])) w' := ⟨_, rfl, [], ⟨by simp, .inl ⟨a, c, rfl, rfl, rfl⟩⟩, by simp, by simp, hb⟩

set_option maxRecDepth 100000 in
set_option maxHeartbeats 2000000 in
/-- writeLetter of a letter that lacks something -/
theorem writeLetter_no (T fl : Nat) (av : Value) (c : Int) (w : World) (m1 : ∀ w, (Go.method 285 T av "loop.example/s01639/impl.lacks").run Tryz.prog w = .ok (fl, av) w)
    (hl : ∀ W, Calls Tryz.prog fl #[av] W fun e w' => e = .returned (lackV c) ∧ Below W.heap.size W w') (e1 : ∀ args w, (callFunc fl args).run Tryz.prog w = .ok (.enter fl args) w) :
    Calls Tryz.prog 40 #[.iface T av] w (MsgPost w []) := by
  obtain ⟨w1, hw1⟩ : ∃ w1, w.alloc (Obj.cells #[.slice none 0 0] 33) = w1 := ⟨_, rfl⟩
  have hb1 : Below w.heap.size w w1 := by rw [← hw1]; exact (Below.refl _ _).alloc (Nat.le_refl _) _
  have c1 : w1.cell? ⟨w.heap.size, 0, none⟩ = some (.slice none 0 0) := by rw [← hw1]; simp
  have f1 : w1.frozen? ⟨w.heap.size, 0, none⟩ = false := by rw [← hw1]; simp
  have l1 : w.heap.size < w1.heap.size := by rw [← hw1]; simp
  have HL := hide hl
  clear hl
  go_enter Tryz.func40, Tryz.ntmps40
  go_wp2_with fail
  refine (HL.out _).mono ?_
  rintro e w2 ⟨rfl, hb2⟩
  dsimp only [lackV]
  have c2 : w2.cell? ⟨w.heap.size, 0, none⟩ = some (.slice none 0 0) := (hb2.cell (p := ⟨w.heap.size, 0, none⟩) l1).trans c1
  have f2 : w2.frozen? ⟨w.heap.size, 0, none⟩ = false := (hb2.frozen (p := ⟨w.heap.size, 0, none⟩) l1).trans f1
  have l2 : w.heap.size < w2.heap.size := by have := hb2.size; omega
  have HBF : Hid (∀ x, Below w.heap.size w (w2.setCell ⟨w.heap.size, 0, none⟩ x)) := fun x => (bjoin hb2 hb1).setCell (p := ⟨w.heap.size, 0, none⟩) (Nat.le_refl _) x
  clear hb2
  go_wp2_with fail
  exact bodyPost_ret (v := .agg #[.slice none 0 0]) (by simp [results, Tryz.results40, go_sem, c2, l2]) rfl (msgPost_nil _ _ _ _ (HBF.out _))
end Go.Proofs.YtfcmhnfdbobnlaaGreatDoor.Msg

namespace Go.Proofs.YtfcmhnfdbobnlaaGreatDoor.Msg
open Go.ChangeShapes Go.WideShapes Go.ChangeAt Go.RowKit
set_option linter.unusedVariables false
set_option linter.unusedSimpArgs false

structure Rpl where
  ack : ByteArray
  control : ByteArray
  code : Int
  tag : ByteArray
  rows : List ByteArray
  pointer : ByteArray
def rplV (r : Rpl) (v : Value) : Value := .agg #[.string r.ack, .string r.control, .int .i64 r.code, .string r.tag, v, .string r.pointer]
def aAA (s : ByteArray) : Bool := s.toList == [65, 65]
def aAE (s : ByteArray) : Bool := s.toList == [65, 69]
def aAR (s : ByteArray) : Bool := s.toList == [65, 82]
def rplKind (r : Rpl) : Nat := if aAA r.ack then (if r.code = 0 then 1 else 0) else if (aAE r.ack || aAR r.ack) then (if r.rows.length = 0 ∧ r.pointer.size = 0 then 2 else 0) else 0
def rplL (r : Rpl) (v : Value) : Value := match rplKind r with
  | 1 => .iface 97 (.agg #[.string r.control, .string r.tag, v, .string r.pointer])
  | 2 => .iface 99 (.agg #[.string r.ack, .string r.control, .int .i64 r.code, .string r.tag])
  | _ => .nilIface
theorem aAA_ne {s : ByteArray} (h : aAA s = true) : aAE s = false ∧ aAR s = false := by
  unfold aAA at h
  have e := eq_of_beq h
  unfold aAE aAR
  rw [e]
  exact ⟨rfl, rfl⟩
theorem aAE_ne {s : ByteArray} (h : aAE s = true) : aAR s = false := by
  unfold aAE at h
  have e := eq_of_beq h
  unfold aAR
  rw [e]
  rfl

set_option maxHeartbeats 4000000 in
theorem replyOf_any (r : Rpl) (a : Option Addr) (c : Nat) (w : World) (hl : r.rows.length ≤ 9223372036854775807) :
    Calls Tryz.prog 41 #[rplV r (.slice a r.rows.length c)] w fun e w' => e = .returned (rplL r (.slice a r.rows.length c)) ∧ Below w.heap.size w w' := by
  obtain ⟨ack, control, code, tag, rows, pointer⟩ := r
  unfold rplV
  dsimp only at hl ⊢
  have HB := hide ((Below.refl w.heap.size w).alloc (Nat.le_refl _) (Obj.cells #[.string ack, .string control, .int .i64 code, .string tag, .slice a rows.length c, .string pointer] 28))
  obtain ⟨w1, hw1⟩ : ∃ w1, w.alloc (Obj.cells #[.string ack, .string control, .int .i64 code, .string tag, .slice a rows.length c, .string pointer] 28) = w1 := ⟨_, rfl⟩
  have d0 : w1.cell? ⟨w.heap.size, 0, none⟩ = some (.string ack) := by rw [← hw1]; simp
  have d1 : w1.cell? ⟨w.heap.size, 1, none⟩ = some (.string control) := by rw [← hw1]; simp
  have d2 : w1.cell? ⟨w.heap.size, 2, none⟩ = some (.int .i64 code) := by rw [← hw1]; simp
  have d3 : w1.cell? ⟨w.heap.size, 3, none⟩ = some (.string tag) := by rw [← hw1]; simp
  have d4 : w1.cell? ⟨w.heap.size, 4, none⟩ = some (.slice a rows.length c) := by rw [← hw1]; simp
  have d5 : w1.cell? ⟨w.heap.size, 5, none⟩ = some (.string pointer) := by rw [← hw1]; simp
  rw [hw1] at HB
  cases h1 : aAA ack
  · have e1 : (ack.toList == [65, 65]) = false := h1
    cases h2 : aAE ack
    · have e2 : (ack.toList == [65, 69]) = false := h2
      cases h3 : aAR ack
      · have e3 : (ack.toList == [65, 82]) = false := h3
        have HX : Hid (rplL ⟨ack, control, code, tag, rows, pointer⟩ (.slice a rows.length c) = .nilIface) := by unfold rplL rplKind; simp only [h1, h2, h3]; exact rfl
        clear h1 h2 h3
        go_enter Tryz.func41, Tryz.ntmps41
        go_wp2_with fail
        go_ret
        exact ⟨by rw [HX.out]; rfl, HB.out⟩
      · have e3 : (ack.toList == [65, 82]) = true := h3
        by_cases hr : rows.length = 0
        · have hrb : ((rows.length : Int) == 0) = true := by simpa using hr
          by_cases hp : pointer.size = 0
          · obtain ⟨p1, p2, p3⟩ := empty_yes hp
            have HX : Hid (rplL ⟨ack, control, code, tag, rows, pointer⟩ (.slice a rows.length c) = .iface 99 (.agg #[.string ack, .string control, .int .i64 code, .string tag])) := by unfold rplL rplKind; simp only [h1, h2, h3, hr, hp]; exact rfl
            clear h1 h2 h3 hp p1 hr
            go_enter Tryz.func41, Tryz.ntmps41
            go_wp2_with fail
            go_ret
            exact ⟨by rw [HX.out]; rfl, HB.out⟩
          · obtain ⟨p1, p2, p3⟩ := empty_no hp
            have HX : Hid (rplL ⟨ack, control, code, tag, rows, pointer⟩ (.slice a rows.length c) = .nilIface) := by unfold rplL rplKind; simp only [h1, h2, h3, hr, hp]; exact rfl
            clear h1 h2 h3 hp p1 hr
            go_enter Tryz.func41, Tryz.ntmps41
            go_wp2_with fail
            go_ret
            exact ⟨by rw [HX.out]; rfl, HB.out⟩
        · have hri : ¬ (rows.length : Int) = 0 := by omega
          have hrb : ((rows.length : Int) == 0) = false := by simpa using hri
          have HX : Hid (rplL ⟨ack, control, code, tag, rows, pointer⟩ (.slice a rows.length c) = .nilIface) := by unfold rplL rplKind; simp only [h1, h2, h3, hr]; exact rfl
          clear h1 h2 h3
          go_enter Tryz.func41, Tryz.ntmps41
          go_wp2_with fail
          go_ret
          exact ⟨by rw [HX.out]; rfl, HB.out⟩
    · have e2 : (ack.toList == [65, 69]) = true := h2
      have h3 := aAE_ne h2
      by_cases hr : rows.length = 0
      · have hrb : ((rows.length : Int) == 0) = true := by simpa using hr
        by_cases hp : pointer.size = 0
        · obtain ⟨p1, p2, p3⟩ := empty_yes hp
          have HX : Hid (rplL ⟨ack, control, code, tag, rows, pointer⟩ (.slice a rows.length c) = .iface 99 (.agg #[.string ack, .string control, .int .i64 code, .string tag])) := by unfold rplL rplKind; simp only [h1, h2, h3, hr, hp]; exact rfl
          clear h1 h2 h3 hp p1 hr
          go_enter Tryz.func41, Tryz.ntmps41
          go_wp2_with fail
          go_ret
          exact ⟨by rw [HX.out]; rfl, HB.out⟩
        · obtain ⟨p1, p2, p3⟩ := empty_no hp
          have HX : Hid (rplL ⟨ack, control, code, tag, rows, pointer⟩ (.slice a rows.length c) = .nilIface) := by unfold rplL rplKind; simp only [h1, h2, h3, hr, hp]; exact rfl
          clear h1 h2 h3 hp p1 hr
          go_enter Tryz.func41, Tryz.ntmps41
          go_wp2_with fail
          go_ret
          exact ⟨by rw [HX.out]; rfl, HB.out⟩
      · have hri : ¬ (rows.length : Int) = 0 := by omega
        have hrb : ((rows.length : Int) == 0) = false := by simpa using hri
        have HX : Hid (rplL ⟨ack, control, code, tag, rows, pointer⟩ (.slice a rows.length c) = .nilIface) := by unfold rplL rplKind; simp only [h1, h2, h3, hr]; exact rfl
        clear h1 h2 h3
        go_enter Tryz.func41, Tryz.ntmps41
        go_wp2_with fail
        go_ret
        exact ⟨by rw [HX.out]; rfl, HB.out⟩
  · have e1 : (ack.toList == [65, 65]) = true := h1
    obtain ⟨h2, h3⟩ := aAA_ne h1
    have e2 : (ack.toList == [65, 69]) = false := h2
    have e3 : (ack.toList == [65, 82]) = false := h3
    by_cases hc : code = 0
    · have HX : Hid (rplL ⟨ack, control, code, tag, rows, pointer⟩ (.slice a rows.length c) = .iface 97 (.agg #[.string control, .string tag, .slice a rows.length c, .string pointer])) := by unfold rplL rplKind; simp only [h1, hc]; exact rfl
      have hcb : (code == 0) = true := by simpa using hc
      clear h1 h2 h3 hc
      go_enter Tryz.func41, Tryz.ntmps41
      go_wp2_with fail
      go_ret
      exact ⟨by rw [HX.out]; rfl, HB.out⟩
    · have HX : Hid (rplL ⟨ack, control, code, tag, rows, pointer⟩ (.slice a rows.length c) = .nilIface) := by unfold rplL rplKind; simp only [h1, hc]; exact rfl
      have hcb : (code == 0) = false := by simpa using hc
      clear h1 h2 h3
      go_enter Tryz.func41, Tryz.ntmps41
      go_wp2_with fail
      go_ret
      exact ⟨by rw [HX.out]; rfl, HB.out⟩

set_option maxRecDepth 100000 in
set_option maxHeartbeats 2000000 in
theorem writeLetter_nil (w : World) : Calls Tryz.prog 40 #[.nilIface] w (MsgPost w []) := by
  obtain ⟨w1, hw1⟩ : ∃ w1, w.alloc (Obj.cells #[.slice none 0 0] 33) = w1 := ⟨_, rfl⟩
  have hb1 : Below w.heap.size w w1 := by rw [← hw1]; exact (Below.refl _ _).alloc (Nat.le_refl _) _
  have c1 : w1.cell? ⟨w.heap.size, 0, none⟩ = some (.slice none 0 0) := by rw [← hw1]; simp
  have f1 : w1.frozen? ⟨w.heap.size, 0, none⟩ = false := by rw [← hw1]; simp
  have l1 : w.heap.size < w1.heap.size := by rw [← hw1]; simp
  have HBF : Hid (∀ x, Below w.heap.size w (w1.setCell ⟨w.heap.size, 0, none⟩ x)) := fun x => hb1.setCell (p := ⟨w.heap.size, 0, none⟩) (Nat.le_refl _) x
  clear hb1
  go_enter Tryz.func40, Tryz.ntmps40
  go_wp2_with fail
  exact bodyPost_ret (v := .agg #[.slice none 0 0]) (by simp [results, Tryz.results40, go_sem, c1, l1]) rfl (msgPost_nil _ _ _ _ (HBF.out _))
end Go.Proofs.YtfcmhnfdbobnlaaGreatDoor.Msg

namespace Go.Proofs.YtfcmhnfdbobnlaaGreatDoor.Msg
open Go.ChangeShapes Go.WideShapes Go.ChangeAt Go.RowKit
set_option linter.unusedVariables false
set_option linter.unusedSimpArgs false

def errM (ack control tag dt : ByteArray) : List Seg := [⟨⟨#[77, 83, 72]⟩, headF [⟨#[82, 83, 80]⟩, ⟨#[90, 48, 49]⟩] ⟨#[]⟩⟩, ⟨⟨#[77, 83, 65]⟩, trimE List.isEmpty [wordF ack, wordF control]⟩, ⟨⟨#[69, 82, 82]⟩, trimE List.isEmpty [([] : Field), ([] : Field), wordF dt]⟩, ⟨⟨#[81, 65, 75]⟩, trimE List.isEmpty [wordF tag, wordF ack]⟩]

set_option maxRecDepth 100000 in
set_option maxHeartbeats 8000000 in
theorem errorWrite_any (ack control tag dt : ByteArray) (code : Int) (w : World) (ha : ack.size ≤ 1048576) (hc : control.size ≤ 1048576) (ht : tag.size ≤ 1048576) (hd : dt.size ≤ 1048576) (HI : Hid (∀ W, Below w.heap.size w W → Calls Tryz.prog 59 #[.int .i64 code] W fun e w' => e = .returned (.string dt) ∧ Below W.heap.size W w')) :
    Calls Tryz.prog 159 #[.agg #[.string ack, .string control, .int .i64 code, .string tag]] w (MsgPost w (errM ack control tag dt)) := by
  obtain ⟨x1, hx1⟩ : ∃ x1, w.alloc (Obj.cells #[.string ack, .string control, .int .i64 code, .string tag] 99) = x1 := ⟨_, rfl⟩
  obtain ⟨w1, hw1⟩ : ∃ w1, x1.alloc (Obj.cells #[.slice none 0 0] 33) = w1 := ⟨_, rfl⟩
  have sx1 : x1.heap.size = w.heap.size + 1 := by rw [← hx1]; simp
  have sw1 : w1.heap.size = w.heap.size + 1 + 1 := by rw [← hw1]; simp [sx1]
  have bx1 : Below w.heap.size w x1 := by rw [← hx1]; exact (Below.refl _ _).alloc (Nat.le_refl _) _
  have bw1 : Below x1.heap.size x1 w1 := by rw [← hw1]; exact (Below.refl _ _).alloc (Nat.le_refl _) _
  have c0 : w1.cell? ⟨w.heap.size, 0, none⟩ = some (.string ack) := (bw1.cell (p := ⟨w.heap.size, 0, none⟩) (by rw [sx1]; simp)).trans (by rw [← hx1]; simp)
  have c1 : w1.cell? ⟨w.heap.size, 1, none⟩ = some (.string control) := (bw1.cell (p := ⟨w.heap.size, 1, none⟩) (by rw [sx1]; simp)).trans (by rw [← hx1]; simp)
  have c2 : w1.cell? ⟨w.heap.size, 2, none⟩ = some (.int .i64 code) := (bw1.cell (p := ⟨w.heap.size, 2, none⟩) (by rw [sx1]; simp)).trans (by rw [← hx1]; simp)
  have c3 : w1.cell? ⟨w.heap.size, 3, none⟩ = some (.string tag) := (bw1.cell (p := ⟨w.heap.size, 3, none⟩) (by rw [sx1]; simp)).trans (by rw [← hx1]; simp)
  have cr : w1.cell? ⟨w.heap.size + 1, 0, none⟩ = some (.slice none 0 0) := by rw [← hw1, ← sx1]; simp
  have fr : w1.frozen? ⟨w.heap.size + 1, 0, none⟩ = false := by rw [← hw1, ← sx1]; simp
  have HB1 := hide (bjoin' bw1 bx1)
  have HW1 : Hid ((w.alloc (Obj.cells #[.string ack, .string control, .int .i64 code, .string tag] 99)).alloc (Obj.cells #[.slice none 0 0] 33) = w1) := by rw [hx1]; exact hw1
  have KEEP : Hid (∀ X, Below w1.heap.size w1 X → X.cell? ⟨w.heap.size, 0, none⟩ = some (.string ack) ∧ X.cell? ⟨w.heap.size, 1, none⟩ = some (.string control) ∧ X.cell? ⟨w.heap.size, 2, none⟩ = some (.int .i64 code) ∧ X.cell? ⟨w.heap.size, 3, none⟩ = some (.string tag) ∧ Below w.heap.size w X) := fun X h =>
    ⟨(h.cell (p := ⟨w.heap.size, 0, none⟩) (by rw [sw1]; dsimp only; omega)).trans c0, (h.cell (p := ⟨w.heap.size, 1, none⟩) (by rw [sw1]; dsimp only; omega)).trans c1, (h.cell (p := ⟨w.heap.size, 2, none⟩) (by rw [sw1]; dsimp only; omega)).trans c2, (h.cell (p := ⟨w.heap.size, 3, none⟩) (by rw [sw1]; dsimp only; omega)).trans c3, bjoin' h HB1.out⟩
  have KRES : Hid (∀ X, Below w1.heap.size w1 X → X.cell? ⟨w.heap.size + 1, 0, none⟩ = some (.slice none 0 0) ∧ X.frozen? ⟨w.heap.size + 1, 0, none⟩ = false ∧ w.heap.size + 1 < X.heap.size) := fun X h =>
    ⟨(h.cell (p := ⟨w.heap.size + 1, 0, none⟩) (by rw [sw1]; dsimp only; omega)).trans cr, (h.frozen (p := ⟨w.heap.size + 1, 0, none⟩) (by rw [sw1]; dsimp only; omega)).trans fr, by have := h.size; omega⟩
  have n1 : (⟨w.heap.size + 1, 0, none⟩ : Addr).block ≠ w.heap.size := by dsimp only; omega
  have HST : Hid (∀ X, Below w1.heap.size w1 X → ∀ x, (X.setCell ⟨w.heap.size + 1, 0, none⟩ x).cell? ⟨w.heap.size, 0, none⟩ = some (.string ack) ∧ (X.setCell ⟨w.heap.size + 1, 0, none⟩ x).cell? ⟨w.heap.size, 1, none⟩ = some (.string control) ∧ (X.setCell ⟨w.heap.size + 1, 0, none⟩ x).cell? ⟨w.heap.size, 2, none⟩ = some (.int .i64 code) ∧ (X.setCell ⟨w.heap.size + 1, 0, none⟩ x).cell? ⟨w.heap.size, 3, none⟩ = some (.string tag) ∧ Below w.heap.size w (X.setCell ⟨w.heap.size + 1, 0, none⟩ x)) := fun X h x => by
    obtain ⟨g0, g1, g2, g3, gB⟩ := KEEP.out X h
    exact ⟨(World.cell?_setCell_far _ ⟨w.heap.size + 1, 0, none⟩ ⟨w.heap.size, 0, none⟩ _ n1).trans g0, (World.cell?_setCell_far _ ⟨w.heap.size + 1, 0, none⟩ ⟨w.heap.size, 1, none⟩ _ n1).trans g1, (World.cell?_setCell_far _ ⟨w.heap.size + 1, 0, none⟩ ⟨w.heap.size, 2, none⟩ _ n1).trans g2, (World.cell?_setCell_far _ ⟨w.heap.size + 1, 0, none⟩ ⟨w.heap.size, 3, none⟩ _ n1).trans g3, gB.setCell (p := ⟨w.heap.size + 1, 0, none⟩) (Nat.le_succ _) x⟩
  obtain ⟨wd, hwd⟩ : ∃ wd, w1.drew = wd := ⟨_, rfl⟩
  have hbd : Below w1.heap.size w1 wd := by rw [← hwd]; exact (Below.refl _ _).drew
  have sd : wd.heap.size = w1.heap.size := by rw [← hwd]; rfl
  have HWD := hide hwd
  have HSW := hide sw1
  have HSD := hide sd
  clear hx1 hw1 sx1 sw1 bx1 bw1 c0 c1 c2 c3 cr fr hwd sd n1
  go_enter Tryz.func159, Tryz.ntmps159
  go_wp2_with fail
  rw [HW1.out]
  have hbd0 := (Below.refl w1.heap.size w1).drew
  have hwd := HWD.out
  go_region_held3 (fun X => X.cell? ⟨w.heap.size, 0, none⟩ = some (.string ack) ∧ X.cell? ⟨w.heap.size, 1, none⟩ = some (.string control) ∧ X.cell? ⟨w.heap.size, 2, none⟩ = some (.int .i64 code) ∧ X.cell? ⟨w.heap.size, 3, none⟩ = some (.string tag) ∧ Below w.heap.size w X)
    (first | with_reducible exact KEEP.out _ hbd0 | with_reducible exact KEEP.out _ hbd | with_reducible exact KEEP.out _ (hbd.alloc hbd.size _) | with_reducible exact KEEP.out _ hB0 | with_reducible exact KEEP.out _ hB1 | with_reducible exact KEEP.out _ hB2 | with_reducible exact KEEP.out _ (hB2.alloc hB2.size _) | with_reducible exact KEEP.out _ hB3 | with_reducible exact KEEP.out _ (hB3.alloc hB3.size _) | with_reducible exact KEEP.out _ hB4 | with_reducible exact KEEP.out _ (hB4.alloc hB4.size _) | with_reducible exact KEEP.out _ hB5 | with_reducible exact KEEP.out _ (hB5.alloc hB5.size _) | with_reducible exact KEEP.out _ hB6 | with_reducible exact KEEP.out _ (hB6.alloc hB6.size _) | with_reducible exact KEEP.out _ hB7 | with_reducible exact KEEP.out _ (hB7.alloc hB7.size _) | with_reducible exact KEEP.out _ hB8 | with_reducible exact KEEP.out _ (hB8.alloc hB8.size _) | with_reducible exact KEEP.out _ hB9 | with_reducible exact KEEP.out _ (hB9.alloc hB9.size _) | with_reducible exact KEEP.out _ hB10 | with_reducible exact KEEP.out _ (hB10.alloc hB10.size _) | with_reducible exact HST.out _ (hB10.alloc hB10.size _) _)
    (first
      | (go_at_call 150; refine (newSegO _ [.slice aw3 (wordF tag).length kw3, .slice aw4 (wordF ack).length kw4] [wordF tag, wordF ack] [bw3, bw4] w1.heap.size v9 hB9.size (Parts.push keep_reps (Parts.push keep_reps (Parts.nil OReps w1.heap.size v7) hB7.size hb8 hOw3 hnw3 (fun b h => ⟨hfw3 b h, OAt.lt ltO_rep hOw3 b h⟩)) hB8.size hb9 hOw4 hnw4 (fun b h => ⟨hfw4 b h, OAt.lt ltO_rep hOw4 b h⟩)) (by simp) (by simp) (words_sz (by intro x hx; simp at hx; first | (subst hx; exact .inr ⟨_, rfl⟩) | (rcases hx with rfl | rfl; exact .inr ⟨_, rfl⟩; exact .inr ⟨_, rfl⟩) | (rcases hx with rfl | rfl; exact .inl rfl; exact .inr ⟨_, rfl⟩))) 2 rfl).mono ?_; rintro e v10 ⟨us3, rfl, bs3, hOs3, hns3, hfs3, hb10⟩; obtain ⟨as3, ks3, rfl⟩ := form_fields hOs3; have hB10 := bjoin hb10 hB9; obtain ⟨r0, rf, rl⟩ := KRES.out _ (hB10.alloc hB10.size (Obj.cells #[.string ⟨#[77, 83, 72]⟩, .slice a2 (headF [⟨#[82, 83, 80]⟩, ⟨#[90, 48, 49]⟩] ⟨#[]⟩).length k2, .string ⟨#[77, 83, 65]⟩, .slice as1 (trimE List.isEmpty [wordF ack, wordF control]).length ks1, .string ⟨#[69, 82, 82]⟩, .slice as2 (trimE List.isEmpty [([] : Field), ([] : Field), wordF dt]).length ks2, .string ⟨#[81, 65, 75]⟩, .slice as3 (trimE List.isEmpty [wordF tag, wordF ack]).length ks3] 45)))
      | (go_at_call 151; refine (newWord_any ack v8 ha).mono ?_; rintro e v9 ⟨uw4, rfl, bw4, hOw4, hnw4, hfw4, hb9⟩; obtain ⟨aw4, kw4, rfl⟩ := form_reps hOw4; have hB9 := bjoin hb9 hB8)
      | (go_at_call 151; refine (newWord_any tag v7 ht).mono ?_; rintro e v8 ⟨uw3, rfl, bw3, hOw3, hnw3, hfw3, hb8⟩; obtain ⟨aw3, kw3, rfl⟩ := form_reps hOw3; have hB8 := bjoin hb8 hB7)
      | (go_at_call 150; refine (newSegO _ [.slice none 0 0, .slice none 0 0, .slice aw2 (wordF dt).length kw2] [([] : Field), ([] : Field), wordF dt] [[], [], bw2] w1.heap.size v6 hB6.size (Parts.push keep_reps (Parts.push0 keep_reps (Parts.push0 keep_reps (Parts.nil OReps w1.heap.size v4) hB4.size (o_nil v4 none 0)) hB4.size (o_nil v4 none 0)) hB4.size (bjoin hb6 hb5) hOw2 hnw2 (fun b h => ⟨Nat.le_trans hb5.size (hfw2 b h), OAt.lt ltO_rep hOw2 b h⟩)) (by simp) (by simp) (words_sz (by intro x hx; simp at hx; first | (subst hx; exact .inr ⟨_, rfl⟩) | (rcases hx with rfl | rfl; exact .inr ⟨_, rfl⟩; exact .inr ⟨_, rfl⟩) | (rcases hx with rfl | rfl; exact .inl rfl; exact .inr ⟨_, rfl⟩))) 3 rfl).mono ?_; rintro e v7 ⟨us2, rfl, bs2, hOs2, hns2, hfs2, hb7⟩; obtain ⟨as2, ks2, rfl⟩ := form_fields hOs2; have hB7 := bjoin hb7 hB6)
      | (go_at_call 151; refine (newWord_any dt v5 hd).mono ?_; rintro e v6 ⟨uw2, rfl, bw2, hOw2, hnw2, hfw2, hb6⟩; obtain ⟨aw2, kw2, rfl⟩ := form_reps hOw2; have hB6 := bjoin hb6 hB5)
      | (go_at_call 59; refine (HI.out v4 (KEEP.out _ hB4).2.2.2.2).mono ?_; rintro e v5 ⟨rfl, hb5⟩; have hB5 := bjoin hb5 hB4)
      | (go_at_call 150; refine (newSegO _ [.slice aw0 (wordF ack).length kw0, .slice aw1 (wordF control).length kw1] [wordF ack, wordF control] [bw0, bw1] w1.heap.size v3 hB3.size (Parts.push keep_reps (Parts.push keep_reps (Parts.nil OReps w1.heap.size v1) hB1.size hb2 hOw0 hnw0 (fun b h => ⟨hfw0 b h, OAt.lt ltO_rep hOw0 b h⟩)) hB2.size hb3 hOw1 hnw1 (fun b h => ⟨hfw1 b h, OAt.lt ltO_rep hOw1 b h⟩)) (by simp) (by simp) (words_sz (by intro x hx; simp at hx; first | (subst hx; exact .inr ⟨_, rfl⟩) | (rcases hx with rfl | rfl; exact .inr ⟨_, rfl⟩; exact .inr ⟨_, rfl⟩) | (rcases hx with rfl | rfl; exact .inl rfl; exact .inr ⟨_, rfl⟩))) 2 rfl).mono ?_; rintro e v4 ⟨us1, rfl, bs1, hOs1, hns1, hfs1, hb4⟩; obtain ⟨as1, ks1, rfl⟩ := form_fields hOs1; have hB4 := bjoin hb4 hB3)
      | (go_at_call 151; refine (newWord_any control v2 hc).mono ?_; rintro e v3 ⟨uw1, rfl, bw1, hOw1, hnw1, hfw1, hb3⟩; obtain ⟨aw1, kw1, rfl⟩ := form_reps hOw1; have hB3 := bjoin hb3 hB2)
      | (go_at_call 151; refine (newWord_any ack v1 ha).mono ?_; rintro e v2 ⟨uw0, rfl, bw0, hOw0, hnw0, hfw0, hb2⟩; obtain ⟨aw0, kw0, rfl⟩ := form_reps hOw0; have hB2 := bjoin hb2 hB1)
      | (go_at_call 148; refine (newHeader_any [⟨#[82, 83, 80]⟩, ⟨#[90, 48, 49]⟩] ⟨#[]⟩ _ bk w1.heap.size v0 hO1 (by simp) (by simp) hn1 (fun b h => ⟨by have h1 := (hf1 b h).1; have h2 := HSD.out; omega, (hf1 b h).2⟩) hB0.size (by decide)).mono ?_; rintro e v1 ⟨u2, rfl, bh, hO2, hn2, hf2, hb1⟩; obtain ⟨a2, k2, rfl⟩ := form_fields hO2; have hB1 := bjoin hb1 hB0)
      | (go_at_call 149; refine (newRep2 ⟨#[82, 83, 80]⟩ ⟨#[90, 48, 49]⟩ wd (by decide) (by decide) (by decide)).mono ?_; rintro e v0 ⟨u1, rfl, bk, hO1, hn1, hf1, hb0⟩; obtain ⟨a1, k1, rfl⟩ := form_strs hO1; have hB0 := bjoin hb0 hbd))
  have hs1 := HB1.out.size
  have hsw := HSW.out
  have hz0 := hB0.size
  have hy0 := hb0.size
  have hz1 := hB1.size
  have hy1 := hb1.size
  have hz2 := hB2.size
  have hy2 := hb2.size
  have hz3 := hB3.size
  have hy3 := hb3.size
  have hz4 := hB4.size
  have hy4 := hb4.size
  have hz5 := hB5.size
  have hy5 := hb5.size
  have hz6 := hB6.size
  have hy6 := hb6.size
  have hz7 := hB7.size
  have hy7 := hb7.size
  have hz8 := hB8.size
  have hy8 := hb8.size
  have hz9 := hB9.size
  have hy9 := hb9.size
  have hz10 := hB10.size
  have hy10 := hb10.size
  have p1 : Parts OFields w1.heap.size v1 [.slice a2 (headF [⟨#[82, 83, 80]⟩, ⟨#[90, 48, 49]⟩] ⟨#[]⟩).length k2] [headF [⟨#[82, 83, 80]⟩, ⟨#[90, 48, 49]⟩] ⟨#[]⟩] [bh] := Parts.pushAny keep_fields (Parts.nil OFields w1.heap.size v0) hb1 hO2 hn2 (fun b h => ⟨(hf2 b h).1, (hf2 b h).2.1, by simp⟩)
  have p2 : Parts OFields w1.heap.size v4 [.slice a2 (headF [⟨#[82, 83, 80]⟩, ⟨#[90, 48, 49]⟩] ⟨#[]⟩).length k2, .slice as1 (trimE List.isEmpty [wordF ack, wordF control]).length ks1] [headF [⟨#[82, 83, 80]⟩, ⟨#[90, 48, 49]⟩] ⟨#[]⟩, trimE List.isEmpty [wordF ack, wordF control]] [bh, bs1] := Parts.push keep_fields p1 hz1 (bjoin (bjoin (hb4) hb3) hb2) hOs1 hns1 (fun b h => ⟨by
    rcases (hfs1 b h).2.2 with h' | h'
    · omega
    · simp only [List.flatten_cons, List.flatten_nil, List.nil_append, List.append_nil, List.mem_append] at h'
      rcases h' with h' | h'
      · have := hfw0 b h'; omega
      · have := hfw1 b h'; omega, (hfs1 b h).2.1⟩)
  have p3 : Parts OFields w1.heap.size v7 [.slice a2 (headF [⟨#[82, 83, 80]⟩, ⟨#[90, 48, 49]⟩] ⟨#[]⟩).length k2, .slice as1 (trimE List.isEmpty [wordF ack, wordF control]).length ks1, .slice as2 (trimE List.isEmpty [([] : Field), ([] : Field), wordF dt]).length ks2] [headF [⟨#[82, 83, 80]⟩, ⟨#[90, 48, 49]⟩] ⟨#[]⟩, trimE List.isEmpty [wordF ack, wordF control], trimE List.isEmpty [([] : Field), ([] : Field), wordF dt]] [bh, bs1, bs2] := Parts.push keep_fields p2 hz4 (bjoin (bjoin (hb7) hb6) hb5) hOs2 hns2 (fun b h => ⟨by
    rcases (hfs2 b h).2.2 with h' | h'
    · omega
    · simp at h'; have := hfw2 b h'; omega, (hfs2 b h).2.1⟩)
  have p4 : Parts OFields w1.heap.size v10 [.slice a2 (headF [⟨#[82, 83, 80]⟩, ⟨#[90, 48, 49]⟩] ⟨#[]⟩).length k2, .slice as1 (trimE List.isEmpty [wordF ack, wordF control]).length ks1, .slice as2 (trimE List.isEmpty [([] : Field), ([] : Field), wordF dt]).length ks2, .slice as3 (trimE List.isEmpty [wordF tag, wordF ack]).length ks3] [headF [⟨#[82, 83, 80]⟩, ⟨#[90, 48, 49]⟩] ⟨#[]⟩, trimE List.isEmpty [wordF ack, wordF control], trimE List.isEmpty [([] : Field), ([] : Field), wordF dt], trimE List.isEmpty [wordF tag, wordF ack]] [bh, bs1, bs2, bs3] := Parts.push keep_fields p3 hz7 (bjoin (bjoin (hb10) hb9) hb8) hOs3 hns3 (fun b h => ⟨by
    rcases (hfs3 b h).2.2 with h' | h'
    · omega
    · simp only [List.flatten_cons, List.flatten_nil, List.nil_append, List.append_nil, List.mem_append] at h'
      rcases h' with h' | h'
      · have := hfw3 b h'; omega
      · have := hfw4 b h'; omega, (hfs3 b h).2.1⟩)
  obtain ⟨hS, hN, hin⟩ := segsO (errM ack control tag dt) [.slice a2 (headF [⟨#[82, 83, 80]⟩, ⟨#[90, 48, 49]⟩] ⟨#[]⟩).length k2, .slice as1 (trimE List.isEmpty [wordF ack, wordF control]).length ks1, .slice as2 (trimE List.isEmpty [([] : Field), ([] : Field), wordF dt]).length ks2, .slice as3 (trimE List.isEmpty [wordF tag, wordF ack]).length ks3] [bh, bs1, bs2, bs3] _ v10 p4 (by intro x hx; simp [errM] at hx; rcases hx with rfl | rfl | rfl | rfl <;> exact (by decide : (3 : Nat) ≤ 9223372036854775807)) (by simp [errM]) (by simp [errM])
  have HS : Hid (∀ x, OSegs ((v10.alloc (.cells (segCells (errM ack control tag dt) [.slice a2 (headF [⟨#[82, 83, 80]⟩, ⟨#[90, 48, 49]⟩] ⟨#[]⟩).length k2, .slice as1 (trimE List.isEmpty [wordF ack, wordF control]).length ks1, .slice as2 (trimE List.isEmpty [([] : Field), ([] : Field), wordF dt]).length ks2, .slice as3 (trimE List.isEmpty [wordF tag, wordF ack]).length ks3]).toArray 45)).setCell ⟨w.heap.size + 1, 0, none⟩ x) (.slice (some ⟨v10.heap.size, 0, none⟩) 4 4) (errM ack control tag dt) (v10.heap.size :: [bh, bs1, bs2, bs3].flatten)) := fun x =>
    OAt.kept keptO_seg hS (by rw [Deep.nblk_setCell]; exact Nat.le_refl _) fun d hd => Deep.blk_setCell_other _ ⟨w.heap.size + 1, 0, none⟩ _ d (by
      rw [List.mem_cons] at hd
      dsimp only
      rcases hd with rfl | hd
      · omega
      · have := (hin d hd).1; omega)
  have HN := hide hN
  have HFR := hide (show ∀ b ∈ (v10.heap.size :: [bh, bs1, bs2, bs3].flatten), w.heap.size ≤ b by
    intro d hd
    rw [List.mem_cons] at hd
    rcases hd with rfl | hd
    · omega
    · have := (hin d hd).1; omega)
  have HBF : Hid (∀ o x, Below w.heap.size w ((v10.alloc o).setCell ⟨w.heap.size + 1, 0, none⟩ x)) := fun o x => (HST.out _ (hB10.alloc hB10.size o) x).2.2.2.2
  clear hsw hz0 hy0 hz1 hy1 hz2 hy2 hz3 hy3 hz4 hy4 hz5 hy5 hz6 hy6 hz7 hy7 hz8 hy8 hz9 hy9 hz10 hy10
  go_wp2_with fail
  exact bodyPost_ret (v := .agg #[.slice (some ⟨v10.heap.size, 0, none⟩) 4 4]) (by simp [results, Tryz.results159, go_sem, r0, rl]) rfl ⟨_, rfl, _, HS.out _, HN.out, HFR.out, HBF.out _ _⟩
end Go.Proofs.YtfcmhnfdbobnlaaGreatDoor.Msg
