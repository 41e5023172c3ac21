import Derived.Test.YtfcmhnfdbobnlaaGreatDoorImplHead3withImplSegs3withImplLetterW
import Derived.Test.YtfcmhnfdbobnlaaGreatDoorBufPutwithParseDatawithCutPure
namespace Go.Proofs.YtfcmhnfdbobnlaaGreatDoor.Msg
open Go.ChangeShapes Go.WideShapes Go.ChangeAt Go.RowKit
set_option linter.unusedVariables false
set_option linter.unusedSimpArgs false

def nextM (control tag query pointer : ByteArray) : List Seg := [⟨⟨#[77, 83, 72]⟩, headF [⟨#[81, 66, 80]⟩, ⟨#[90, 48, 49]⟩] control⟩, ⟨⟨#[81, 80, 68]⟩, trimE List.isEmpty [wordF ⟨#[81]⟩, wordF tag, wordF query]⟩, ⟨⟨#[68, 83, 67]⟩, trimE List.isEmpty [wordF pointer]⟩]
theorem words_sz {xs : List Field} (h : ∀ x ∈ xs, x = [] ∨ ∃ s, x = wordF s) : ∀ x ∈ xs, x.length ≤ 1048576 := fun x hx => by
  rcases h x hx with rfl | ⟨s, rfl⟩
  · simp
  · have := wordF_len s; omega

end Go.Proofs.YtfcmhnfdbobnlaaGreatDoor.Msg

namespace Go.Proofs.YtfcmhnfdbobnlaaGreatDoor.Msg
open Go.ChangeShapes Go.WideShapes Go.ChangeAt Go.RowKit
set_option linter.unusedVariables false
set_option linter.unusedSimpArgs false

def newM (control tag query dt : ByteArray) : List Seg := [⟨⟨#[77, 83, 72]⟩, headF [⟨#[81, 66, 80]⟩, ⟨#[90, 48, 49]⟩] control⟩, ⟨⟨#[81, 80, 68]⟩, trimE List.isEmpty [wordF ⟨#[81]⟩, wordF tag, wordF query]⟩, ⟨⟨#[82, 67, 80]⟩, trimE List.isEmpty [([] : Field), wordF dt]⟩]

end Go.Proofs.YtfcmhnfdbobnlaaGreatDoor.Msg

namespace Go.Proofs.YtfcmhnfdbobnlaaGreatDoor.Msg
open Go.ChangeShapes Go.WideShapes Go.ChangeAt Go.RowKit
set_option linter.unusedVariables false
set_option linter.unusedSimpArgs false

/-- a byte of a component, as it is written -/
def esc (c : UInt8) : List UInt8 :=
  if c.toNat = 124 then [92, 70, 92] else if c.toNat = 94 then [92, 83, 92] else if c.toNat = 38 then [92, 84, 92] else if c.toNat = 126 then [92, 82, 92] else if c.toNat = 92 then [92, 69, 92] else [c]
def escs (l : List UInt8) : List UInt8 := l.flatMap esc
theorem esc_le (c : UInt8) : (esc c).length ≤ 3 := by
  unfold esc
  repeat (split; · decide)
  simp
theorem escs_snoc (l : List UInt8) (c : UInt8) : escs (l ++ [c]) = escs l ++ esc c := by simp [escs]
theorem escs_le (l : List UInt8) : (escs l).length ≤ 3 * l.length := by
  induction l with
  | nil => simp [escs]
  | cons c l ih =>
    have h := esc_le c
    simp only [escs, List.flatMap_cons, List.length_append, List.length_cons] at ih ⊢
    omega

set_option maxRecDepth 100000 in
set_option maxHeartbeats 1000000 in
theorem escaped_any (base : Nat) (bs : List UInt8) (s : ByteArray) (v : Value) (w : World) (hown : Buf base w v bs) (hbase : base ≤ w.heap.size) (hl : bs.length + 3 * s.size ≤ 70368744177664) :
    Calls Tryz.prog 70 #[v, .string s] w fun e w' => ∃ u, e = .returned u ∧ Buf base w' u (bs ++ escs s.data.toList) ∧ Grew w v w' u := by
  obtain ⟨i0, hi, hz0, hz1, hz2⟩ := u8_facts
  go_enter Tryz.func70, Tryz.ntmps70
  go_wp2
  go_loopw [0, 5] (fun v1 i wr => ∃ k : Nat, k ≤ s.size ∧ i = .int .i64 k ∧ Buf base wr v1 (bs ++ escs (s.data.toList.take k)) ∧ Grew w v wr v1) (fun _ i _ => s.size - (intOf i).toNat)
  case atStart => exact ⟨0, Nat.zero_le _, rfl, by simpa [escs] using hown, Grew.refl _ _⟩
  case round =>
    obtain ⟨k, hk, rfl, hbuf, hb⟩ := hrel
    by_cases hlt : k < s.size
    · have HT : Hid (bs ++ escs (s.data.toList.take (k + 1)) = (bs ++ escs (s.data.toList.take k)) ++ esc s[k]) := by rw [take_snoc s k hlt, escs_snoc, List.append_assoc]; trivial
      have hlen : (bs ++ escs (s.data.toList.take k)).length ≤ bs.length + 3 * k := by
        have := escs_le (s.data.toList.take k)
        have h2 : (s.data.toList.take k).length ≤ k := List.length_take_le _ _
        rw [List.length_append]; omega
      have hz : base ≤ wr.heap.size := Nat.le_trans hbase hb.1.size
      have HE : Hid (∀ d : List UInt8, d = esc s[k] → bs ++ escs (s.data.toList.take k) ++ d = bs ++ escs (s.data.toList.take (k + 1))) := fun d hd => by rw [HT.out, hd]
      have HU : Hid (esc s[k] = if s[k].toNat = 124 then [92, 70, 92] else if s[k].toNat = 94 then [92, 83, 92] else if s[k].toNat = 38 then [92, 84, 92] else if s[k].toNat = 126 then [92, 82, 92] else if s[k].toNat = 92 then [92, 69, 92] else [s[k]]) := rfl
      generalize hB : bs ++ escs (s.data.toList.take k) = B at *
      clear HT hB
      by_cases h1 : s[k].toNat = 124
      · have h1' : ((s[k].toNat : Int) == 124) = true := by simp; omega
        have H1 := hide h1
        clear h1
        go_wp2_with fail
        refine (put_any base B ⟨#[92, 70, 92]⟩ _ _ hbuf hz (by have : (⟨#[92, 70, 92]⟩ : ByteArray).size = 3 := rfl; omega)).mono ?_
        rintro e w2 ⟨u, rfl, hu, hb2⟩
        go_wp2_with fail
        go_roundw
        case rel => exact ⟨k + 1, by omega, by go_num, by rw [← HE.out _ (by rw [HU.out, if_pos H1.out])]; exact hu, hb.trans hb2⟩
        case measure => simp [intOf]; omega
      have h1' : ((s[k].toNat : Int) == 124) = false := by simp; omega
      have H1 := hide h1
      clear h1
      by_cases h2 : s[k].toNat = 94
      · have h2' : ((s[k].toNat : Int) == 94) = true := by simp; omega
        have H2 := hide h2
        clear h2
        go_wp2_with fail
        refine (put_any base B ⟨#[92, 83, 92]⟩ _ _ hbuf hz (by have : (⟨#[92, 83, 92]⟩ : ByteArray).size = 3 := rfl; omega)).mono ?_
        rintro e w2 ⟨u, rfl, hu, hb2⟩
        go_wp2_with fail
        go_roundw
        case rel => exact ⟨k + 1, by omega, by go_num, by rw [← HE.out _ (by rw [HU.out, if_neg H1.out, if_pos H2.out])]; exact hu, hb.trans hb2⟩
        case measure => simp [intOf]; omega
      have h2' : ((s[k].toNat : Int) == 94) = false := by simp; omega
      have H2 := hide h2
      clear h2
      by_cases h3 : s[k].toNat = 38
      · have h3' : ((s[k].toNat : Int) == 38) = true := by simp; omega
        have H3 := hide h3
        clear h3
        go_wp2_with fail
        refine (put_any base B ⟨#[92, 84, 92]⟩ _ _ hbuf hz (by have : (⟨#[92, 84, 92]⟩ : ByteArray).size = 3 := rfl; omega)).mono ?_
        rintro e w2 ⟨u, rfl, hu, hb2⟩
        go_wp2_with fail
        go_roundw
        case rel => exact ⟨k + 1, by omega, by go_num, by rw [← HE.out _ (by rw [HU.out, if_neg H1.out, if_neg H2.out, if_pos H3.out])]; exact hu, hb.trans hb2⟩
        case measure => simp [intOf]; omega
      have h3' : ((s[k].toNat : Int) == 38) = false := by simp; omega
      have H3 := hide h3
      clear h3
      by_cases h4 : s[k].toNat = 126
      · have h4' : ((s[k].toNat : Int) == 126) = true := by simp; omega
        have H4 := hide h4
        clear h4
        go_wp2_with fail
        refine (put_any base B ⟨#[92, 82, 92]⟩ _ _ hbuf hz (by have : (⟨#[92, 82, 92]⟩ : ByteArray).size = 3 := rfl; omega)).mono ?_
        rintro e w2 ⟨u, rfl, hu, hb2⟩
        go_wp2_with fail
        go_roundw
        case rel => exact ⟨k + 1, by omega, by go_num, by rw [← HE.out _ (by rw [HU.out, if_neg H1.out, if_neg H2.out, if_neg H3.out, if_pos H4.out])]; exact hu, hb.trans hb2⟩
        case measure => simp [intOf]; omega
      have h4' : ((s[k].toNat : Int) == 126) = false := by simp; omega
      have H4 := hide h4
      clear h4
      by_cases h5 : s[k].toNat = 92
      · have h5' : ((s[k].toNat : Int) == 92) = true := by simp; omega
        have H5 := hide h5
        clear h5
        go_wp2_with fail
        refine (put_any base B ⟨#[92, 69, 92]⟩ _ _ hbuf hz (by have : (⟨#[92, 69, 92]⟩ : ByteArray).size = 3 := rfl; omega)).mono ?_
        rintro e w2 ⟨u, rfl, hu, hb2⟩
        go_wp2_with fail
        go_roundw
        case rel => exact ⟨k + 1, by omega, by go_num, by rw [← HE.out _ (by rw [HU.out, if_neg H1.out, if_neg H2.out, if_neg H3.out, if_neg H4.out, if_pos H5.out])]; exact hu, hb.trans hb2⟩
        case measure => simp [intOf]; omega
      have h5' : ((s[k].toNat : Int) == 92) = false := by simp; omega
      have H5 := hide h5
      clear h5
      go_wp2_with (first
        | (at_builtin; refine wpList_append_own_at _ rfl _ _ 71 rfl base 5 i0 (.int .u8 0) 1 1 Tryz.underlying71 hi hz0 hz1 hz2 rfl (by decide) _ _ _ rfl (World.ownsRow.alloc hbuf _) ⟨wr.heap.size, 0, none⟩ 1 1 [.int .u8 s[k].toNat] rfl rfl ?c1 ?c2 ?c3 ?c4 ?c5 ?_)
        | go_in)
      case c1 => exact new_cell _ _ _
      case c2 => exact one_u8 _
      case c3 => unfold maxLen; omega
      case c4 => omega
      case c5 => simp; omega
      · intro v' w' hown' hgrow hnil hat
        have R := Buf.snoc (bs := B) s[k] _ hb rfl hown' hgrow hat
        clear hown' hgrow hnil hat hbuf hb
        go_wp2
        go_roundw
        case rel => exact ⟨k + 1, by omega, by go_num, by rw [← HE.out _ (by rw [HU.out, if_neg H1.out, if_neg H2.out, if_neg H3.out, if_neg H4.out, if_neg H5.out])]; exact R.1, R.2⟩
        case measure => simp [intOf]; omega
    · go_wp2
      go_ret
      exact ⟨_, rfl, by rw [List.take_of_length_le (by simp; omega)] at hbuf; exact hbuf, hb⟩
end Go.Proofs.YtfcmhnfdbobnlaaGreatDoor.Msg
